/- The search for a place in an ordered map. -/
import Derived.Test.YtodpodgdhiadnaaOrdB
namespace Go.Proofs.Ytodpodgdhiadnaa
open Go.RowKit

/-- Where a search ends: what is ahead says no, what is there says yes. -/
def Cut (p : Nat → Bool) (n r : Nat) : Prop := r ≤ n ∧ (∀ k, k + 1 = r → p k = false) ∧ (r < n → p r = true)
def CutPost (p : Nat → Bool) (n : Nat) (w : World) (e : Ending) (w' : World) : Prop := ∃ r : Nat, e = .returned (.int .i64 r) ∧ Cut p n r ∧ Below w.heap.size w w'
/-- The closure answers so, in every later world. -/
def Says (c : Nat) (x y : Value) (p : Nat → Bool) (n : Nat) (w : World) : Prop :=
  ∀ i, i < n → ∀ u, Below w.heap.size w u → Calls Try.prog c #[.int .i64 (i : Int), x, y] u fun e u' => e = .returned (.bool (p i)) ∧ Below u.heap.size u u'

set_option maxHeartbeats 1000000 in
theorem searchVer_any (x y : Value) (p : Nat → Bool) (n : Nat) (w : World) (hn : n ≤ 1048576) (hf : Says 250 x y p n w) :
    Calls Try.prog 242 #[.int .i64 (n : Int), .func (.func 250) #[] #[x, y]] w (CutPost p n w) := by
  have HF := Lib.hid hf
  clear hf
  go_enter Try.func242, Try.ntmps242
  go_wp2_with fail
  go_loopw [5, 6] (fun a b wr => ∃ i j : Nat, i ≤ j ∧ j ≤ n ∧ a = .int .i64 i ∧ b = .int .i64 j ∧ (∀ k, k + 1 = i → p k = false) ∧ (j < n → p j = true) ∧ Below w.heap.size w wr) (fun a b _ => (intOf b).toNat - (intOf a).toNat)
  case atStart => exact ⟨0, n, Nat.zero_le _, Nat.le_refl _, rfl, rfl, fun k e => by omega, fun h => absurd h (by omega), Below.refl _ _⟩
  case round =>
    obtain ⟨i, j, hij, hj, rfl, rfl, h0, h1, hB⟩ := hrel
    have H0 := Lib.hid h0
    have H1 := Lib.hid h1
    have HB := Lib.hid hB
    clear h0 h1 hB
    by_cases hlt : i < j
    · go_wp2_with fail
      have e : ((i : Int) + (j : Int)) / 2 = (((i + j) / 2 : Nat) : Int) := by omega
      rw [e]
      clear e
      have hm1 : i ≤ (i + j) / 2 := by omega
      have hm2 : (i + j) / 2 < j := by omega
      generalize (i + j) / 2 = m at *
      refine (HF.out m (by omega) _ HB.out).mono ?_
      rintro e w2 ⟨rfl, hb2⟩
      have HB2 := Lib.hid (HB.out.trans (hb2.mono HB.out.size))
      clear hb2
      cases hp : p m
      · go_wp2_with fail
        go_roundw
        case rel => exact ⟨m + 1, j, by omega, hj, by go_num, rfl, fun k e => (by obtain rfl : k = m := (by omega); exact hp), H1.out, HB2.out⟩
        case measure => simp [intOf]; omega
      · go_wp2_with fail
        go_roundw
        case rel => exact ⟨i, m, hm1, by omega, rfl, rfl, H0.out, fun _ => hp, HB2.out⟩
        case measure => simp [intOf]; omega
    · go_wp2_with fail
      go_ret
      obtain rfl : i = j := by omega
      exact ⟨i, rfl, ⟨hj, H0.out, H1.out⟩, HB.out⟩

set_option maxHeartbeats 1000000 in
theorem searchObj_any (x y : Value) (p : Nat → Bool) (n : Nat) (w : World) (hn : n ≤ 1048576) (hf : Says 252 x y p n w) :
    Calls Try.prog 242 #[.int .i64 (n : Int), .func (.func 252) #[] #[x, y]] w (CutPost p n w) := by
  have HF := Lib.hid hf
  clear hf
  go_enter Try.func242, Try.ntmps242
  go_wp2_with fail
  go_loopw [5, 6] (fun a b wr => ∃ i j : Nat, i ≤ j ∧ j ≤ n ∧ a = .int .i64 i ∧ b = .int .i64 j ∧ (∀ k, k + 1 = i → p k = false) ∧ (j < n → p j = true) ∧ Below w.heap.size w wr) (fun a b _ => (intOf b).toNat - (intOf a).toNat)
  case atStart => exact ⟨0, n, Nat.zero_le _, Nat.le_refl _, rfl, rfl, fun k e => by omega, fun h => absurd h (by omega), Below.refl _ _⟩
  case round =>
    obtain ⟨i, j, hij, hj, rfl, rfl, h0, h1, hB⟩ := hrel
    have H0 := Lib.hid h0
    have H1 := Lib.hid h1
    have HB := Lib.hid hB
    clear h0 h1 hB
    by_cases hlt : i < j
    · go_wp2_with fail
      have e : ((i : Int) + (j : Int)) / 2 = (((i + j) / 2 : Nat) : Int) := by omega
      rw [e]
      clear e
      have hm1 : i ≤ (i + j) / 2 := by omega
      have hm2 : (i + j) / 2 < j := by omega
      generalize (i + j) / 2 = m at *
      refine (HF.out m (by omega) _ HB.out).mono ?_
      rintro e w2 ⟨rfl, hb2⟩
      have HB2 := Lib.hid (HB.out.trans (hb2.mono HB.out.size))
      clear hb2
      cases hp : p m
      · go_wp2_with fail
        go_roundw
        case rel => exact ⟨m + 1, j, by omega, hj, by go_num, rfl, fun k e => (by obtain rfl : k = m := (by omega); exact hp), H1.out, HB2.out⟩
        case measure => simp [intOf]; omega
      · go_wp2_with fail
        go_roundw
        case rel => exact ⟨i, m, hm1, by omega, rfl, rfl, H0.out, fun _ => hp, HB2.out⟩
        case measure => simp [intOf]; omega
    · go_wp2_with fail
      go_ret
      obtain rfl : i = j := by omega
      exact ⟨i, rfl, ⟨hj, H0.out, H1.out⟩, HB.out⟩
end Go.Proofs.Ytodpodgdhiadnaa
