/- VmapAt and VmapGet, as the program has them. -/
import Derived.Test.YthjikcfpoomioaaAtF
namespace Go.Proofs.Ythjikcfpoomioaa
open Go.RowKit

def AtPost (os : List ObjD) (key : ByteArray) (id : Int) (w : World) (e : Ending) (w' : World) : Prop :=
  ∃ x : Option VerD, e = .returned (verRes x) ∧ (MapOkTo os os.length → keyOkB key = true → x = atF os key id) ∧ (¬ (MapOkTo os os.length ∧ keyOkB key = true) → x = none) ∧ Below w.heap.size w w'
end Go.Proofs.Ythjikcfpoomioaa
