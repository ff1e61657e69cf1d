/- Whether the keys of objects ascend, as the program asks it. -/
import Derived.Test.YthjikcfpoomioaaOrd
import Derived.Test.YthjikcfpoomioaaLess
namespace Go.Proofs.Ythjikcfpoomioaa
open Go.RowKit

def ObjsUp (os : List ObjD) (k : Nat) : Prop := ∀ i (h : i < os.length), i < k → ∀ j (hj : j < os.length), j + 1 = i → (Op.bytesLess os[i].key.toList os[j].key.toList || os[i].key.toList == os[j].key.toList) = false
end Go.Proofs.Ythjikcfpoomioaa
