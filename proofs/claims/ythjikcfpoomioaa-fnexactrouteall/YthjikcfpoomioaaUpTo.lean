/- How many versions, or objects, have at most that rank. -/
import Derived.Test.YthjikcfpoomioaaSrch
namespace Go.Proofs.Ythjikcfpoomioaa
open Go.RowKit

def verP (vs : List VerD) (id : Int) (i : Nat) : Bool := if h : i < vs.length then decide (id < vs[i].id) else true
theorem verP_at {vs : List VerD} {id : Int} {i : Nat} (h : i < vs.length) : verP vs id i = decide (id < vs[i].id) := by simp [verP, h]
def objP (os : List ObjD) (key : ByteArray) (i : Nat) : Bool := if h : i < os.length then Op.bytesLess key.toList os[i].key.toList else true
theorem objP_at {os : List ObjD} {key : ByteArray} {i : Nat} (h : i < os.length) : objP os key i = Op.bytesLess key.toList os[i].key.toList := by simp [objP, h]
end Go.Proofs.Ythjikcfpoomioaa
