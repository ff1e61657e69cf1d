/- Whether the keys of objects ascend, as the program asks it. -/
import Derived.Test.YthjikcfpoomioaaOrd
import Derived.Test.YthjikcfpoomioaaLess
import Derived.RangeFuncNested
import Derived.RangeFuncBound
import Derived.RangeFuncCalls
import Derived.RangeFuncLeaves
import Derived.Shelf.Abstract
import Derived.Shelf.RegionOpen
import Derived.WalkKit
import Derived.OwnWalkIn
import Derived.TacticsInMore
import Derived.LoopNIn
import Derived.LoopIn
namespace Go.Proofs.Ythjikcfpoomioaa
open Go.RowKit

def ObjsUp (os : List ObjD) (k : Nat) : Prop := ∀ i (h : i < os.length), i < k → ∀ j (hj : j < os.length), j + 1 = i → (Op.bytesLess os[i].key.toList os[j].key.toList || os[i].key.toList == os[j].key.toList) = false
end Go.Proofs.Ythjikcfpoomioaa

/- The iterators over an ordered map: contracts for every loop body. -/
namespace Go.Proofs.Ythjikcfpoomioaa
open Go.RowKit Go.Shelf
attribute [local go_sem] Oper.semAt_some

theorem grown_of_below {W W' : World} (h : Below W.heap.size W W') : W.grownBy W' none := ⟨h.os, h.tape, h.output, h.size, fun k hk _ => h.block k hk⟩
theorem abides_below {β : Type} {B : Nat} {J : β → World → Prop} (h : AbidesFrom B J) {s : β} {W W' : World} (hs : J s W) (hb : Below W.heap.size W W') : J s W' :=
  h s W W' none hs (grown_of_below hb) (fun r e => by cases e)
theorem take_attach_succ {α : Type} (xs : List α) (k : Nat) (h : k < xs.length) : xs.attach.take (k + 1) = xs.attach.take k ++ [⟨xs[k], List.getElem_mem h⟩] := by
  rw [List.take_succ_eq_append_getElem (by simpa using h)]
  simp

/-- What a round says: it goes on, or it has said no more. -/
def Said {α : Type} (n₀ : Nat) (J Jx : List α → World → Prop) (xs : List α) (W : World) (b : Bool) (W' : World) : Prop := (b = true ∧ J xs W' ∧ Below n₀ W W') ∨ (b = false ∧ Jx xs W')
theorem said_of {α : Type} {n₀ : Nat} {J Jx : List α → World → Prop} {xs : List α} {W : World} {e : Ending} {W' : World} (h : (e = .returned (.bool true) ∧ J xs W' ∧ Below n₀ W W') ∨ (e = .returned (.bool false) ∧ Jx xs W')) : ∃ b, e = .returned (.bool b) ∧ Said n₀ J Jx xs W b W' := by
  rcases h with ⟨rfl, h⟩ | ⟨rfl, h⟩
  · exact ⟨true, rfl, .inl ⟨rfl, h⟩⟩
  · exact ⟨false, rfl, .inr ⟨rfl, h⟩⟩

def objArgs (o : ObjD) : Array Value := #[.string o.key, .agg #[.string o.key, .slice o.at_ o.vers.length o.cap]]
end Go.Proofs.Ythjikcfpoomioaa
