/- Maps that read the same compare as equal. -/
import Derived.Test.YthjikcfpoomioaaVm
namespace Go.Proofs.Ythjikcfpoomioaa
open Go.RowKit

/-- Two lists of objects hold the same, wherever their versions lie. -/
def SameObjs (xs ys : List ObjD) : Prop := xs.length = ys.length ∧ ∀ i (h : i < xs.length) (k : i < ys.length), xs[i].key = ys[i].key ∧ xs[i].vers = ys[i].vers
end Go.Proofs.Ythjikcfpoomioaa
