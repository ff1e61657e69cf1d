/- Slices of Write: their marks. -/
import Derived.Test.YthjikcfpoomioaaFlWrite
import Derived.Test.YthjikcfpoomioaaMkSt
namespace Go.Proofs.Ythjikcfpoomioaa
open Go.RowKit

def Writemf (k i : Nat) : Value := if i % 3 = 0 then .string (mtext (k + i)) else if i % 3 = 1 then .string (mtext (k + i)) else .bool (decide ((k + i) % 3 = 0))

theorem Writemf_0 (k i : Nat) : Writemf k (i * 3) = .string (mtext (k + i * 3)) := by
  unfold Writemf
  simp only [show (i * 3) % 3 = 0 by omega, if_true, if_false, Nat.reduceEqDiff, Nat.add_assoc]
theorem Writemf_1 (k i : Nat) : Writemf k (i * 3 + 1) = .string (mtext (k + i * 3 + 1)) := by
  unfold Writemf
  simp only [show (i * 3 + 1) % 3 = 1 by omega, if_true, if_false, Nat.reduceEqDiff, Nat.add_assoc]
theorem Writemf_2 (k i : Nat) : Writemf k (i * 3 + 2) = .bool (decide ((k + i * 3 + 2) % 3 = 0)) := by
  unfold Writemf
  simp only [show (i * 3 + 2) % 3 = 2 by omega, if_true, if_false, Nat.reduceEqDiff, Nat.add_assoc]
theorem WritesIn.of_marks {S : Nat → Prop} {w u : World} {b off n k : Nat} (h : MkSt (Writemf k) S w b off (n * 3) (n * 3) u) : WritesIn u (some ⟨b, off, none⟩) (Writemarks k n) := by
  refine .inr ⟨b, off, rfl, h.lt, fun i hi => ?_⟩
  have hi' : i < n := by rw [Writemarks_length] at hi; exact hi
  simp only [Writemarks_at]
  have h0 := h.done (i * 3) (by omega)
  rw [Writemf_0] at h0
  have h1 := h.done (i * 3 + 1) (by omega)
  rw [Writemf_1] at h1
  have h2 := h.done (i * 3 + 2) (by omega)
  rw [Writemf_2] at h2
  simp only [← Nat.add_assoc] at h0 h1 h2 ⊢
  exact ⟨h0, h1, h2⟩

set_option maxRecDepth 100000 in
set_option maxHeartbeats 2000000 in
theorem markWriteS_any (S : Nat → Prop) (a : Option Addr) (n cap k : Nat) (w : World) (hf : Free w a (n * 3)) (hS : ∀ b off, a = some ⟨b, off, none⟩ → S b) (hk : 1 ≤ k) (hkn : k + n * 3 ≤ 100000000) :
    Calls Try.prog 129 #[.slice a n cap, .int .i64 (k : Int)] w (MarkedWrites S a k n w) := by
  rcases hf with h0 | ⟨b, off, rfl, hb, hc⟩
  · obtain rfl : n = 0 := by omega
    go_enter Try.func129, Try.ntmps129
    go_wp2_with fail
    go_loop [1, 5] (fun l i => l = .int .i64 (k : Int) ∧ i = .int .i64 0) (fun _ _ => 0)
    case atStart => exact ⟨rfl, rfl⟩
    case round =>
      obtain ⟨rfl, rfl⟩ := hrel
      go_wp2_with fail
      go_ret
      exact ⟨by simp, .inl rfl, .inl rfl, Turned.refl _ _⟩
  · have HS := Lib.hid (hS b off rfl)
    have HC := Lib.hid hc
    clear hS hc
    go_enter Try.func129, Try.ntmps129
    go_wp2_with fail
    go_loopw [1, 5] (fun l i wr => ∃ j : Nat, j ≤ n ∧ i = .int .i64 j ∧ l = .int .i64 ((k + j * 3 : Nat) : Int) ∧ MkSt (Writemf k) S w b off (n * 3) (j * 3) wr) (fun _ i _ => n - (intOf i).toNat)
    case atStart => exact ⟨0, Nat.zero_le _, rfl, by simp, by rw [Nat.zero_mul]; exact MkSt.start hb HC.out⟩
    case round =>
      obtain ⟨j, hj, rfl, rfl, hM⟩ := hrel
      have HM := Lib.hid hM
      clear hM
      by_cases hlt : j < n
      · skip
        go_wp2_with fail
        refine (markText_at (k + j * 3) ?hz0 _ (by omega) (by omega)).mono ?_
        case hz0 => omega
        rintro e w2 ⟨rfl, hb2⟩
        have HM2 := Lib.hid ((HM.out).below hb2)
        clear hb2
        obtain ⟨v0, d0⟩ := HM2.out.at0 (j * 3) (by omega)
        have f0 := HM2.out.fz0 (j * 3) (by omega)
        go_wp2_with fail
        refine (markText_at (k + j * 3 + 1) ?hz1 _ (by omega) (by omega)).mono ?_
        case hz1 => omega
        rintro e w3 ⟨rfl, hb3⟩
        have HM3 := Lib.hid (((HM2.out.set (by omega) HS.out (p := ⟨b, off + j * 3, none⟩) rfl (by rw [Writemf_0]))).below hb3)
        clear hb3
        clear d0 f0
        obtain ⟨v1, d1⟩ := HM3.out.at0 (j * 3 + 1) (by omega)
        have f1 := HM3.out.fz0 (j * 3 + 1) (by omega)
        rw [← Nat.add_assoc] at d1 f1
        obtain ⟨v2, d2⟩ := HM3.out.at0 (j * 3 + 2) (by omega)
        have f2 := HM3.out.fz0 (j * 3 + 2) (by omega)
        rw [← Nat.add_assoc] at d2 f2
        go_wp2_with fail
        go_roundw
        case rel => exact ⟨j + 1, by omega, by go_num, by go_num, by rw [show (j + 1) * 3 = j * 3 + 2 + 1 by omega]; exact ((HM3.out.set (by omega) HS.out (p := ⟨b, off + j * 3 + 1, none⟩) (by rw [Nat.add_assoc]) (by rw [Writemf_1])).set (by omega) HS.out (p := ⟨b, off + j * 3 + 2, none⟩) (by rw [Nat.add_assoc]) (by rw [Writemf_2]; exact congrArg Value.bool (by rw [Bool.eq_iff_iff]; simp <;> omega)))⟩
        case measure => simp [intOf]; omega
      · obtain rfl : j = n := by omega
        go_wp2_with fail
        go_ret
        exact ⟨by simp, WritesIn.of_marks HM.out, .inr ⟨b, off, rfl, HM.out.lt, HM.out.free⟩, HM.out.turned⟩
end Go.Proofs.Ythjikcfpoomioaa
