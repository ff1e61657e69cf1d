/- Slices of Row: their marks. -/
import Derived.Test.YthjikcfpoomioaaFlRow
import Derived.Test.YthjikcfpoomioaaMkSt
namespace Go.Proofs.Ythjikcfpoomioaa
open Go.RowKit

def Rowmf (k i : Nat) : Value := if i % 2 = 0 then .string (mtext (k + i)) else .int .i64 ((k + i : Nat) : Int)

theorem Rowmf_0 (k i : Nat) : Rowmf k (i * 2) = .string (mtext (k + i * 2)) := by
  unfold Rowmf
  simp only [show (i * 2) % 2 = 0 by omega, if_true, if_false, Nat.reduceEqDiff, Nat.add_assoc]
theorem Rowmf_1 (k i : Nat) : Rowmf k (i * 2 + 1) = .int .i64 ((k + i * 2 + 1 : Nat) : Int) := by
  unfold Rowmf
  simp only [show (i * 2 + 1) % 2 = 1 by omega, if_true, if_false, Nat.reduceEqDiff, Nat.add_assoc]
theorem RowsIn.of_marks {S : Nat → Prop} {w u : World} {b off n k : Nat} (h : MkSt (Rowmf k) S w b off (n * 2) (n * 2) u) : RowsIn u (some ⟨b, off, none⟩) (Rowmarks k n) := by
  refine .inr ⟨b, off, rfl, h.lt, fun i hi => ?_⟩
  have hi' : i < n := by rw [Rowmarks_length] at hi; exact hi
  simp only [Rowmarks_at]
  have h0 := h.done (i * 2) (by omega)
  rw [Rowmf_0] at h0
  have h1 := h.done (i * 2 + 1) (by omega)
  rw [Rowmf_1] at h1
  simp only [← Nat.add_assoc] at h0 h1 ⊢
  exact ⟨h0, h1⟩

set_option maxRecDepth 100000 in
set_option maxHeartbeats 2000000 in
theorem markRowS_any (S : Nat → Prop) (a : Option Addr) (n cap k : Nat) (w : World) (hf : Free w a (n * 2)) (hS : ∀ b off, a = some ⟨b, off, none⟩ → S b) (hk : 1 ≤ k) (hkn : k + n * 2 ≤ 100000000) :
    Calls Try.prog 98 #[.slice a n cap, .int .i64 (k : Int)] w (MarkedRows S a k n w) := by
  rcases hf with h0 | ⟨b, off, rfl, hb, hc⟩
  · obtain rfl : n = 0 := by omega
    go_enter Try.func98, Try.ntmps98
    go_wp2_with fail
    go_loop [1, 5] (fun l i => l = .int .i64 (k : Int) ∧ i = .int .i64 0) (fun _ _ => 0)
    case atStart => exact ⟨rfl, rfl⟩
    case round =>
      obtain ⟨rfl, rfl⟩ := hrel
      go_wp2_with fail
      go_ret
      exact ⟨by simp, .inl rfl, .inl rfl, Turned.refl _ _⟩
  · have HS := Lib.hid (hS b off rfl)
    have HC := Lib.hid hc
    clear hS hc
    go_enter Try.func98, Try.ntmps98
    go_wp2_with fail
    go_loopw [1, 5] (fun l i wr => ∃ j : Nat, j ≤ n ∧ i = .int .i64 j ∧ l = .int .i64 ((k + j * 2 : Nat) : Int) ∧ MkSt (Rowmf k) S w b off (n * 2) (j * 2) wr) (fun _ i _ => n - (intOf i).toNat)
    case atStart => exact ⟨0, Nat.zero_le _, rfl, by simp, by rw [Nat.zero_mul]; exact MkSt.start hb HC.out⟩
    case round =>
      obtain ⟨j, hj, rfl, rfl, hM⟩ := hrel
      have HM := Lib.hid hM
      clear hM
      by_cases hlt : j < n
      · skip
        go_wp2_with fail
        refine (markText_at (k + j * 2) ?hz0 _ (by omega) (by omega)).mono ?_
        case hz0 => omega
        rintro e w2 ⟨rfl, hb2⟩
        have HM2 := Lib.hid ((HM.out).below hb2)
        clear hb2
        obtain ⟨v0, d0⟩ := HM2.out.at0 (j * 2) (by omega)
        have f0 := HM2.out.fz0 (j * 2) (by omega)
        obtain ⟨v1, d1⟩ := HM2.out.at0 (j * 2 + 1) (by omega)
        have f1 := HM2.out.fz0 (j * 2 + 1) (by omega)
        rw [← Nat.add_assoc] at d1 f1
        go_wp2_with fail
        go_roundw
        case rel => exact ⟨j + 1, by omega, by go_num, by go_num, by rw [show (j + 1) * 2 = j * 2 + 1 + 1 by omega]; exact ((HM2.out.set (by omega) HS.out (p := ⟨b, off + j * 2, none⟩) rfl (by rw [Rowmf_0])).set (by omega) HS.out (p := ⟨b, off + j * 2 + 1, none⟩) (by rw [Nat.add_assoc]) (by rw [Rowmf_1]; go_num))⟩
        case measure => simp [intOf]; omega
      · obtain rfl : j = n := by omega
        go_wp2_with fail
        go_ret
        exact ⟨by simp, RowsIn.of_marks HM.out, .inr ⟨b, off, rfl, HM.out.lt, HM.out.free⟩, HM.out.turned⟩
end Go.Proofs.Ythjikcfpoomioaa
