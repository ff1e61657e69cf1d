/- Two rows joined: what comes of it, and the model's function. -/
import Derived.Test.YtncipibjlpfkhaaPmMgS
namespace Go.Proofs.Ytncipibjlpfkhaa
open Go.RowKit

def CanMerge (ep : Int) (vs : List RowD) (k : Int) : Prop := 0 ≤ k ∧ k + 1 < vs.length ∧ ep < 99
def PmapMergeRel (ep : Int) (vs : List RowD) (k : Int) (ep' : Int) (vs' : List RowD) (b : Bool) : Prop :=
  (¬ PmapOkP ep vs ∧ ep' = 0 ∧ vs' = [] ∧ b = false) ∨ (PmapOkP ep vs ∧ ¬ CanMerge ep vs k ∧ ep' = ep ∧ vs' = vs ∧ b = false) ∨ (PmapOkP ep vs ∧ CanMerge ep vs k ∧ ep' = ep + 1 ∧ vs' = vs.take (k.toNat + 1) ++ vs.drop (k.toNat + 2) ∧ b = true)
theorem PmapMergeRel_unique {ep : Int} {vs : List RowD} {k e1 e2 : Int} {v1 v2 : List RowD} {b1 b2 : Bool} (h : PmapMergeRel ep vs k e1 v1 b1) (g : PmapMergeRel ep vs k e2 v2 b2) : e1 = e2 ∧ v1 = v2 ∧ b1 = b2 := by
  rcases h with ⟨h1, rfl, rfl, rfl⟩ | ⟨h1, h2, rfl, rfl, rfl⟩ | ⟨h1, h2, rfl, rfl, rfl⟩ <;> rcases g with ⟨g1, rfl, rfl, rfl⟩ | ⟨g1, g2, rfl, rfl, rfl⟩ | ⟨g1, g2, rfl, rfl, rfl⟩ <;> first | exact ⟨rfl, rfl, rfl⟩ | exact absurd h1 g1 | exact absurd g1 h1 | exact absurd h2 g2 | exact absurd g2 h2
theorem PmapMergeRel_len {ep : Int} {vs : List RowD} {k e1 : Int} {v1 : List RowD} {b1 : Bool} (h : PmapMergeRel ep vs k e1 v1 b1) : v1.length ≤ vs.length + 1 := by
  rcases h with ⟨_, _, rfl, _⟩ | ⟨_, _, _, rfl, _⟩ | ⟨_, _, _, rfl, _⟩ <;> simp <;> omega
def PmapMergePost (ep : Int) (vs : List RowD) (k : Int) (w : World) (e : Ending) (w' : World) : Prop := ∃ ep' vs' b, PmapMergeRel ep vs k ep' vs' b ∧ PmOutB ep' vs' b w e w'

set_option maxHeartbeats 1000000 in
theorem l5CanMerge_any (ep : Int) (a : Option Addr) (vs : List RowD) (cap : Nat) (k : Int) (w : World) (hlen : vs.length ≤ 1048576) :
    Calls Try.prog 216 #[.agg #[.int .i64 ep, .slice a vs.length cap], .int .i64 k] w fun e w' => ∃ b : Bool, e = .returned (.bool b) ∧ (b = true ↔ CanMerge ep vs k) ∧ Below w.heap.size w w' := by
  cases hI : inB k 0 ((vs.length : Int) - 2)
  · go_enter Try.func216, Try.ntmps216
    go_wp2_with (go_at_call 147; refine (l1In_is hI _).mono ?_; rintro e w' ⟨rfl, rfl⟩)
    go_ret
    exact ⟨false, rfl, by simp only [Bool.false_eq_true, false_iff]; intro h; simp [inB] at hI; have := h.1; have := h.2.1; omega, (Below.refl _ _).alloc (Nat.le_refl _) _⟩
  · by_cases h9 : ep < 99
    · go_enter Try.func216, Try.ntmps216
      go_wp2_with (go_at_call 147; refine (l1In_is hI _).mono ?_; rintro e w' ⟨rfl, rfl⟩)
      go_ret
      exact ⟨true, rfl, by simp only [true_iff]; simp [inB] at hI; exact ⟨by omega, by omega, h9⟩, (Below.refl _ _).alloc (Nat.le_refl _) _⟩
    · have h9' : decide (ep < 99) = false := by simpa using h9
      go_enter Try.func216, Try.ntmps216
      go_wp2_with (go_at_call 147; refine (l1In_is hI _).mono ?_; rintro e w' ⟨rfl, rfl⟩)
      go_ret
      exact ⟨false, rfl, by simp only [Bool.false_eq_true, false_iff]; intro h; have := h.2.2; omega, (Below.refl _ _).alloc (Nat.le_refl _) _⟩

theorem pmAt_none (w : World) (lo : Nat) : PmAt w lo w.heap.size none [] := ⟨.inl rfl, .inl rfl, (fun b off e => by cases e), Nat.le_refl _⟩
theorem PmAt.setT {u : World} {lo hi r : Nat} {o : Nat} {x : Value} {a : Option Addr} {vs : List RowD} (h : PmAt u lo hi a vs) (hr : ∀ b off, a = some ⟨b, off, none⟩ → r ≠ b) : PmAt (u.setCell ⟨r, o, none⟩ x) lo hi a vs := by
  have ht : Turned (fun k => k = r) u (u.setCell ⟨r, o, none⟩ x) := (Turned.refl (fun k => k = r) u).setCell (p := ⟨r, o, none⟩) rfl x
  have ho : OffS (fun k => k = r) a := fun b off e k => hr b off e k.symm
  exact ⟨h.in1.turned ho ht, h.fr1.turned ho ht, h.l1, by simpa using h.le⟩
end Go.Proofs.Ytncipibjlpfkhaa
