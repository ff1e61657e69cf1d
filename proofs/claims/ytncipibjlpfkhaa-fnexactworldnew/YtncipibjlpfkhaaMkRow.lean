/- Slices of Row: their marks. -/
import Derived.Test.YtncipibjlpfkhaaFlRow
import Derived.Test.YtncipibjlpfkhaaMkSt
namespace Go.Proofs.Ytncipibjlpfkhaa
open Go.RowKit

def Rowmf (k i : Nat) : Value := if i % 2 = 0 then .string (mtext (k + i)) else .int .i64 ((k + i : Nat) : Int)

theorem Rowmf_0 (k i : Nat) : Rowmf k (i * 2) = .string (mtext (k + i * 2)) := by
  unfold Rowmf
  simp only [show (i * 2) % 2 = 0 by omega, if_true, if_false, Nat.reduceEqDiff, Nat.add_assoc]
theorem Rowmf_1 (k i : Nat) : Rowmf k (i * 2 + 1) = .int .i64 ((k + i * 2 + 1 : Nat) : Int) := by
  unfold Rowmf
  simp only [show (i * 2 + 1) % 2 = 1 by omega, if_true, if_false, Nat.reduceEqDiff, Nat.add_assoc]
theorem RowsIn.of_marks {S : Nat → Prop} {w u : World} {b off n k : Nat} (h : MkSt (Rowmf k) S w b off (n * 2) (n * 2) u) : RowsIn u (some ⟨b, off, none⟩) (Rowmarks k n) := by
  refine .inr ⟨b, off, rfl, h.lt, fun i hi => ?_⟩
  have hi' : i < n := by rw [Rowmarks_length] at hi; exact hi
  simp only [Rowmarks_at]
  have h0 := h.done (i * 2) (by omega)
  rw [Rowmf_0] at h0
  have h1 := h.done (i * 2 + 1) (by omega)
  rw [Rowmf_1] at h1
  simp only [← Nat.add_assoc] at h0 h1 ⊢
  exact ⟨h0, h1⟩

set_option maxRecDepth 100000 in
set_option maxHeartbeats 2000000 in
theorem markRowS_any (S : Nat → Prop) (a : Option Addr) (n cap k : Nat) (w : World) (hf : Free w a (n * 2)) (hS : ∀ b off, a = some ⟨b, off, none⟩ → S b) (hk : 1 ≤ k) (hkn : k + n * 2 ≤ 100000000) :
    Calls Try.prog 114 #[.slice a n cap, .int .i64 (k : Int)] w (MarkedRows S a k n w) := by
  rcases hf with h0 | ⟨b, off, rfl, hb, hc⟩
  · obtain rfl : n = 0 := by omega
    go_enter Try.func114, Try.ntmps114
    go_wp2_with fail
    go_loop [1, 5] (fun l i => l = .int .i64 (k : Int) ∧ i = .int .i64 0) (fun _ _ => 0)
    case atStart => exact ⟨rfl, rfl⟩
    case round =>
      obtain ⟨rfl, rfl⟩ := hrel
      go_wp2_with fail
      go_ret
      exact ⟨by simp, .inl rfl, .inl rfl, Turned.refl _ _⟩
  · have HS := Lib.hid (hS b off rfl)
    have HC := Lib.hid hc
    clear hS hc
    go_enter Try.func114, Try.ntmps114
    go_wp2_with fail
    go_loopw [1, 5] (fun l i wr => ∃ j : Nat, j ≤ n ∧ i = .int .i64 j ∧ l = .int .i64 ((k + j * 2 : Nat) : Int) ∧ MkSt (Rowmf k) S w b off (n * 2) (j * 2) wr) (fun _ i _ => n - (intOf i).toNat)
    case atStart => exact ⟨0, Nat.zero_le _, rfl, by simp, by rw [Nat.zero_mul]; exact MkSt.start hb HC.out⟩
    case round =>
      obtain ⟨j, hj, rfl, rfl, hM⟩ := hrel
      have HM := Lib.hid hM
      clear hM
      by_cases hlt : j < n
      · skip
        go_wp2_with fail
        refine (markText_at (k + j * 2) ?hz0 _ (by omega) (by omega)).mono ?_
        case hz0 => omega
        rintro e w2 ⟨rfl, hb2⟩
        have HM2 := Lib.hid ((HM.out).below hb2)
        clear hb2
        obtain ⟨v0, d0⟩ := HM2.out.at0 (j * 2) (by omega)
        have f0 := HM2.out.fz0 (j * 2) (by omega)
        obtain ⟨v1, d1⟩ := HM2.out.at0 (j * 2 + 1) (by omega)
        have f1 := HM2.out.fz0 (j * 2 + 1) (by omega)
        rw [← Nat.add_assoc] at d1 f1
        go_wp2_with fail
        go_roundw
        case rel => exact ⟨j + 1, by omega, by go_num, by go_num, by rw [show (j + 1) * 2 = j * 2 + 1 + 1 by omega]; exact ((HM2.out.set (by omega) HS.out (p := ⟨b, off + j * 2, none⟩) rfl (by rw [Rowmf_0])).set (by omega) HS.out (p := ⟨b, off + j * 2 + 1, none⟩) (by rw [Nat.add_assoc]) (by rw [Rowmf_1]; go_num))⟩
        case measure => simp [intOf]; omega
      · obtain rfl : j = n := by omega
        go_wp2_with fail
        go_ret
        exact ⟨by simp, RowsIn.of_marks HM.out, .inr ⟨b, off, rfl, HM.out.lt, HM.out.free⟩, HM.out.turned⟩

set_option maxRecDepth 100000 in
set_option maxHeartbeats 2000000 in
theorem heldRowS_any (a : Option Addr) (n cap k : Nat) (w : World) (hv : RowsIn w a (Rowmarks k n)) (hk : 1 ≤ k) (hkn : k + n * 2 ≤ 100000000) :
    Calls Try.prog 115 #[.slice a n cap, .int .i64 (k : Int)] w fun e w' => e = .returned (.int .i64 ((k + n * 2 : Nat) : Int)) ∧ Below w.heap.size w w' := by
  have HV := Lib.hid hv
  clear hv
  go_enter Try.func115, Try.ntmps115
  go_wp2_with fail
  go_loopw [1, 5] (fun l i wr => ∃ j : Nat, j ≤ n ∧ i = .int .i64 j ∧ l = .int .i64 ((k + j * 2 : Nat) : Int) ∧ Below w.heap.size w wr) (fun _ i _ => n - (intOf i).toNat)
  case atStart => exact ⟨0, Nat.zero_le _, rfl, by simp, Below.refl _ _⟩
  case round =>
    obtain ⟨j, hj, rfl, rfl, hB⟩ := hrel
    have HB := Lib.hid hB
    clear hB
    by_cases hlt : j < n
    · rcases HV.out.below HB.out with hnil | ⟨b1, o1, rfl, hb1, hc1⟩
      · have := congrArg List.length hnil; simp [Rowmarks_length] at this; omega
      obtain ⟨c0, c1⟩ := hc1 j (by rw [Rowmarks_length]; exact hlt)
      simp only [Rowmarks_at] at c0 c1
      rw [show ((k + j * 2 + 1 : Nat) : Int) = ((k + j * 2 : Nat) : Int) + 1 by omega] at c1
      clear hc1
      have y0 := cell_regrown c0
      go_wp2_with fail
      refine wp_region_quiet_below (by kernel_rfl) (by kernel_rfl) ?_
      repeat (go_big_quiet_step ((go_at_call 127; exact Calls.regrown_of (markText_at (k + j * 2) (by omega) _ (by omega) (by omega)))))
      refine wpQuiet_nil ?_
      intro _ hw'
      obtain ⟨⟨dq0, osq0⟩, hw''⟩ := hw'
      subst hw''
      replace c1 := cell_regrown c1 dq0 osq0
      clear y0 c0
      have HB0 := Lib.hid (HB.out.trans ((below_regrown _ dq0 osq0).mono HB.out.size))
      go_wp2_with fail
      (try (go_quiet (fail); go_wp2_with fail))
      (try (go_quiet (fail); go_wp2_with fail))
      (try (go_quiet (fail); go_wp2_with fail))
      go_roundw
      case rel => exact ⟨j + 1, by omega, by go_num, by go_num, by first | exact HB0.out | exact Below.drewN HB0.out _ | exact Below.drewN (Below.drewN HB0.out _) _⟩
      case measure => simp [intOf]; omega
    · obtain rfl : j = n := by omega
      go_wp2_with fail
      go_ret
      exact ⟨by simp, HB.out⟩
end Go.Proofs.Ytncipibjlpfkhaa
