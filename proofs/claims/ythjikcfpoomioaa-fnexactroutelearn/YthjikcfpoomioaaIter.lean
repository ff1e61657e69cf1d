/- The program's ordered maps: ranks, whether they ascend, versions that are valid. -/
import Derived.Test.YthjikcfpoomioaaVmOk
import Derived.Test.YthjikcfpoomioaaLess
import Derived.RangeFuncNested
import Derived.RangeFuncBound
import Derived.RangeFuncCalls
import Derived.RangeFuncLeaves
import Derived.Shelf.Abstract
import Derived.Shelf.RegionOpen
import Derived.WalkKit
import Derived.OwnWalkIn
import Derived.TacticsInMore
import Derived.LoopNIn
import Derived.LoopIn
namespace Go.Proofs.Ythjikcfpoomioaa
open Go.RowKit

set_option maxHeartbeats 400000 in
theorem verRank_any (i : Int) (s : ByteArray) (g : Bool) (w : World) :
    Calls Try.prog 245 #[.agg #[.int .i64 i, .string s, .bool g]] w fun e w' => e = .returned (.int .i64 i) ∧ Below w.heap.size w w' := by
  go_enter Try.func245, Try.ntmps245
  go_wp2
  go_ret
  exact ⟨rfl, (Below.refl _ _).alloc (Nat.le_refl _) _⟩

set_option maxHeartbeats 400000 in
theorem idOk_any (i : Int) (w : World) :
    Calls Try.prog 160 #[.int .i64 i] w fun e w' => e = .returned (.bool (inB i 1 9999)) ∧ w = w' := by
  have hm : (i < 1 ∧ inB i 1 9999 = false) ∨ (1 ≤ i ∧ i ≤ 9999 ∧ inB i 1 9999 = true) ∨ (1 ≤ i ∧ 9999 < i ∧ inB i 1 9999 = false) := by
    by_cases h1 : i < 1
    · exact .inl ⟨h1, by simp [inB]; omega⟩
    · by_cases h2 : i ≤ 9999
      · exact .inr (.inl ⟨by omega, h2, by simp [inB]; omega⟩)
      · exact .inr (.inr ⟨by omega, by omega, by simp [inB]; omega⟩)
  rcases hm with ⟨h1, hI⟩ | ⟨h1, h2, hI⟩ | ⟨h1, h2, hI⟩
  all_goals
    have HI := Lib.hid hI
    clear hI
    go_enter Try.func160, Try.ntmps160
    go_wp2
    go_ret
    exact ⟨ret_bool (by simp [HI.out] <;> omega), rfl⟩

set_option maxHeartbeats 1000000 in
theorem verValid_any (i : Int) (s : ByteArray) (g : Bool) (w : World) (hs : s.size ≤ maxLen) :
    Calls Try.prog 240 #[.agg #[.int .i64 i, .string s, .bool g]] w fun e w' => e = .returned (.bool (verOkB i s g)) ∧ Below w.heap.size w w' := by
  cases hI : inB i 1 9999 <;> cases hT : okB textB 8 s <;> cases g <;> cases hz : s.toList.isEmpty
  all_goals
    go_enter Try.func240, Try.ntmps240
    go_wp2_with first
      | (go_at_call 160; refine (idOk_any _ _).mono ?_; rintro e w' ⟨rfl, rfl⟩; rw [hI])
      | (go_at_call 222; refine (textOk_any _ _ hs).mono ?_; rintro e w' ⟨rfl, rfl⟩; rw [hT])
    go_ret
    exact ⟨ret_bool (by simp [verOkB, hI, hT, hz]), (Below.refl _ _).alloc (Nat.le_refl _) _⟩

/-- The first k versions have ascending numbers. -/
def VersUp (vs : List VerD) (k : Nat) : Prop := ∀ i (h : i < vs.length), i < k → ∀ j (hj : j < vs.length), j + 1 = i → vs[j].id < vs[i].id
def BoolPost (P : Prop) (w : World) (e : Ending) (w' : World) : Prop := ∃ b : Bool, e = .returned (.bool b) ∧ (b = true ↔ P) ∧ Below w.heap.size w w'
theorem BoolPost.no {P : Prop} {w w' : World} (h : ¬ P) (hb : Below w.heap.size w w') : BoolPost P w (.returned (.bool false)) w' := ⟨false, rfl, by simpa using h, hb⟩
theorem BoolPost.yes {P : Prop} {w w' : World} (h : P) (hb : Below w.heap.size w w') : BoolPost P w (.returned (.bool true)) w' := ⟨true, rfl, by simpa using h, hb⟩
end Go.Proofs.Ythjikcfpoomioaa

/- Whether the keys of objects ascend, as the program asks it. -/
namespace Go.Proofs.Ythjikcfpoomioaa
open Go.RowKit

def ObjsUp (os : List ObjD) (k : Nat) : Prop := ∀ i (h : i < os.length), i < k → ∀ j (hj : j < os.length), j + 1 = i → (Op.bytesLess os[i].key.toList os[j].key.toList || os[i].key.toList == os[j].key.toList) = false
end Go.Proofs.Ythjikcfpoomioaa

/- The iterators over an ordered map: contracts for every loop body. -/
namespace Go.Proofs.Ythjikcfpoomioaa
open Go.RowKit Go.Shelf
attribute [local go_sem] Oper.semAt_some

theorem grown_of_below {W W' : World} (h : Below W.heap.size W W') : W.grownBy W' none := ⟨h.os, h.tape, h.output, h.size, fun k hk _ => h.block k hk⟩
theorem abides_below {β : Type} {B : Nat} {J : β → World → Prop} (h : AbidesFrom B J) {s : β} {W W' : World} (hs : J s W) (hb : Below W.heap.size W W') : J s W' :=
  h s W W' none hs (grown_of_below hb) (fun r e => by cases e)
theorem take_attach_succ {α : Type} (xs : List α) (k : Nat) (h : k < xs.length) : xs.attach.take (k + 1) = xs.attach.take k ++ [⟨xs[k], List.getElem_mem h⟩] := by
  rw [List.take_succ_eq_append_getElem (by simpa using h)]
  simp

/-- What a round says: it goes on, or it has said no more. -/
def Said {α : Type} (n₀ : Nat) (J Jx : List α → World → Prop) (xs : List α) (W : World) (b : Bool) (W' : World) : Prop := (b = true ∧ J xs W' ∧ Below n₀ W W') ∨ (b = false ∧ Jx xs W')
theorem said_of {α : Type} {n₀ : Nat} {J Jx : List α → World → Prop} {xs : List α} {W : World} {e : Ending} {W' : World} (h : (e = .returned (.bool true) ∧ J xs W' ∧ Below n₀ W W') ∨ (e = .returned (.bool false) ∧ Jx xs W')) : ∃ b, e = .returned (.bool b) ∧ Said n₀ J Jx xs W b W' := by
  rcases h with ⟨rfl, h⟩ | ⟨rfl, h⟩
  · exact ⟨true, rfl, .inl ⟨rfl, h⟩⟩
  · exact ⟨false, rfl, .inr ⟨rfl, h⟩⟩

def objArgs (o : ObjD) : Array Value := #[.string o.key, .agg #[.string o.key, .slice o.at_ o.vers.length o.cap]]
end Go.Proofs.Ythjikcfpoomioaa
