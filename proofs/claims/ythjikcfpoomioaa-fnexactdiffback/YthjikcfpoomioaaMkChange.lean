/- Slices of Change: their marks. -/
import Derived.Test.YthjikcfpoomioaaFlChange
import Derived.Test.YthjikcfpoomioaaMkSt
namespace Go.Proofs.Ythjikcfpoomioaa
open Go.RowKit

def Changemf (k i : Nat) : Value := if i % 5 = 0 then .string (mtext (k + i)) else if i % 5 = 1 then .bool (decide ((k + i) % 3 = 0)) else if i % 5 = 2 then .string (mtext (k + i)) else if i % 5 = 3 then .bool (decide ((k + i) % 3 = 0)) else .string (mtext (k + i))

theorem Changemf_0 (k i : Nat) : Changemf k (i * 5) = .string (mtext (k + i * 5)) := by
  unfold Changemf
  simp only [show (i * 5) % 5 = 0 by omega, if_true, if_false, Nat.reduceEqDiff, Nat.add_assoc]
theorem Changemf_1 (k i : Nat) : Changemf k (i * 5 + 1) = .bool (decide ((k + i * 5 + 1) % 3 = 0)) := by
  unfold Changemf
  simp only [show (i * 5 + 1) % 5 = 1 by omega, if_true, if_false, Nat.reduceEqDiff, Nat.add_assoc]
theorem Changemf_2 (k i : Nat) : Changemf k (i * 5 + 2) = .string (mtext (k + i * 5 + 2)) := by
  unfold Changemf
  simp only [show (i * 5 + 2) % 5 = 2 by omega, if_true, if_false, Nat.reduceEqDiff, Nat.add_assoc]
theorem Changemf_3 (k i : Nat) : Changemf k (i * 5 + 3) = .bool (decide ((k + i * 5 + 3) % 3 = 0)) := by
  unfold Changemf
  simp only [show (i * 5 + 3) % 5 = 3 by omega, if_true, if_false, Nat.reduceEqDiff, Nat.add_assoc]
theorem Changemf_4 (k i : Nat) : Changemf k (i * 5 + 4) = .string (mtext (k + i * 5 + 4)) := by
  unfold Changemf
  simp only [show (i * 5 + 4) % 5 = 4 by omega, if_true, if_false, Nat.reduceEqDiff, Nat.add_assoc]
theorem ChangesIn.of_marks {S : Nat → Prop} {w u : World} {b off n k : Nat} (h : MkSt (Changemf k) S w b off (n * 5) (n * 5) u) : ChangesIn u (some ⟨b, off, none⟩) (Changemarks k n) := by
  refine .inr ⟨b, off, rfl, h.lt, fun i hi => ?_⟩
  have hi' : i < n := by rw [Changemarks_length] at hi; exact hi
  simp only [Changemarks_at]
  have h0 := h.done (i * 5) (by omega)
  rw [Changemf_0] at h0
  have h1 := h.done (i * 5 + 1) (by omega)
  rw [Changemf_1] at h1
  have h2 := h.done (i * 5 + 2) (by omega)
  rw [Changemf_2] at h2
  have h3 := h.done (i * 5 + 3) (by omega)
  rw [Changemf_3] at h3
  have h4 := h.done (i * 5 + 4) (by omega)
  rw [Changemf_4] at h4
  simp only [← Nat.add_assoc] at h0 h1 h2 h3 h4 ⊢
  exact ⟨h0, h1, h2, h3, h4⟩

set_option maxRecDepth 100000 in
set_option maxHeartbeats 2000000 in
theorem markChangeS_any (S : Nat → Prop) (a : Option Addr) (n cap k : Nat) (w : World) (hf : Free w a (n * 5)) (hS : ∀ b off, a = some ⟨b, off, none⟩ → S b) (hk : 1 ≤ k) (hkn : k + n * 5 ≤ 100000000) :
    Calls Try.prog 27 #[.slice a n cap, .int .i64 (k : Int)] w (MarkedChanges S a k n w) := by
  rcases hf with h0 | ⟨b, off, rfl, hb, hc⟩
  · obtain rfl : n = 0 := by omega
    go_enter Try.func27, Try.ntmps27
    go_wp2_with fail
    go_loop [1, 5] (fun l i => l = .int .i64 (k : Int) ∧ i = .int .i64 0) (fun _ _ => 0)
    case atStart => exact ⟨rfl, rfl⟩
    case round =>
      obtain ⟨rfl, rfl⟩ := hrel
      go_wp2_with fail
      go_ret
      exact ⟨by simp, .inl rfl, .inl rfl, Turned.refl _ _⟩
  · have HS := Lib.hid (hS b off rfl)
    have HC := Lib.hid hc
    clear hS hc
    go_enter Try.func27, Try.ntmps27
    go_wp2_with fail
    go_loopw [1, 5] (fun l i wr => ∃ j : Nat, j ≤ n ∧ i = .int .i64 j ∧ l = .int .i64 ((k + j * 5 : Nat) : Int) ∧ MkSt (Changemf k) S w b off (n * 5) (j * 5) wr) (fun _ i _ => n - (intOf i).toNat)
    case atStart => exact ⟨0, Nat.zero_le _, rfl, by simp, by rw [Nat.zero_mul]; exact MkSt.start hb HC.out⟩
    case round =>
      obtain ⟨j, hj, rfl, rfl, hM⟩ := hrel
      have HM := Lib.hid hM
      clear hM
      by_cases hlt : j < n
      · skip
        go_wp2_with fail
        refine (markText_at (k + j * 5) ?hz0 _ (by omega) (by omega)).mono ?_
        case hz0 => omega
        rintro e w2 ⟨rfl, hb2⟩
        have HM2 := Lib.hid ((HM.out).below hb2)
        clear hb2
        obtain ⟨v0, d0⟩ := HM2.out.at0 (j * 5) (by omega)
        have f0 := HM2.out.fz0 (j * 5) (by omega)
        obtain ⟨v1, d1⟩ := HM2.out.at0 (j * 5 + 1) (by omega)
        have f1 := HM2.out.fz0 (j * 5 + 1) (by omega)
        rw [← Nat.add_assoc] at d1 f1
        go_wp2_with fail
        refine (markText_at (k + j * 5 + 2) ?hz2 _ (by omega) (by omega)).mono ?_
        case hz2 => omega
        rintro e w3 ⟨rfl, hb3⟩
        have HM3 := Lib.hid ((((HM2.out.set (by omega) HS.out (p := ⟨b, off + j * 5, none⟩) rfl (by rw [Changemf_0])).set (by omega) HS.out (p := ⟨b, off + j * 5 + 1, none⟩) (by rw [Nat.add_assoc]) (by rw [Changemf_1]; exact congrArg Value.bool (by rw [Bool.eq_iff_iff]; simp <;> omega)))).below hb3)
        clear hb3
        clear d0 f0
        clear d1 f1
        obtain ⟨v2, d2⟩ := HM3.out.at0 (j * 5 + 2) (by omega)
        have f2 := HM3.out.fz0 (j * 5 + 2) (by omega)
        rw [← Nat.add_assoc] at d2 f2
        obtain ⟨v3, d3⟩ := HM3.out.at0 (j * 5 + 3) (by omega)
        have f3 := HM3.out.fz0 (j * 5 + 3) (by omega)
        rw [← Nat.add_assoc] at d3 f3
        go_wp2_with fail
        refine (markText_at (k + j * 5 + 4) ?hz4 _ (by omega) (by omega)).mono ?_
        case hz4 => omega
        rintro e w4 ⟨rfl, hb4⟩
        have HM4 := Lib.hid ((((HM3.out.set (by omega) HS.out (p := ⟨b, off + j * 5 + 2, none⟩) (by rw [Nat.add_assoc]) (by rw [Changemf_2])).set (by omega) HS.out (p := ⟨b, off + j * 5 + 3, none⟩) (by rw [Nat.add_assoc]) (by rw [Changemf_3]; exact congrArg Value.bool (by rw [Bool.eq_iff_iff]; simp <;> omega)))).below hb4)
        clear hb4
        clear d2 f2
        clear d3 f3
        obtain ⟨v4, d4⟩ := HM4.out.at0 (j * 5 + 4) (by omega)
        have f4 := HM4.out.fz0 (j * 5 + 4) (by omega)
        rw [← Nat.add_assoc] at d4 f4
        go_wp2_with fail
        go_roundw
        case rel => exact ⟨j + 1, by omega, by go_num, by go_num, by rw [show (j + 1) * 5 = j * 5 + 4 + 1 by omega]; exact (HM4.out.set (by omega) HS.out (p := ⟨b, off + j * 5 + 4, none⟩) (by rw [Nat.add_assoc]) (by rw [Changemf_4]))⟩
        case measure => simp [intOf]; omega
      · obtain rfl : j = n := by omega
        go_wp2_with fail
        go_ret
        exact ⟨by simp, ChangesIn.of_marks HM.out, .inr ⟨b, off, rfl, HM.out.lt, HM.out.free⟩, HM.out.turned⟩

set_option maxRecDepth 100000 in
set_option maxHeartbeats 2000000 in
theorem heldChangeS_any (a : Option Addr) (n cap k : Nat) (w : World) (hv : ChangesIn w a (Changemarks k n)) (hk : 1 ≤ k) (hkn : k + n * 5 ≤ 100000000) :
    Calls Try.prog 28 #[.slice a n cap, .int .i64 (k : Int)] w fun e w' => e = .returned (.int .i64 ((k + n * 5 : Nat) : Int)) ∧ Below w.heap.size w w' := by
  have HV := Lib.hid hv
  clear hv
  go_enter Try.func28, Try.ntmps28
  go_wp2_with fail
  go_loopw [1, 5] (fun l i wr => ∃ j : Nat, j ≤ n ∧ i = .int .i64 j ∧ l = .int .i64 ((k + j * 5 : Nat) : Int) ∧ Below w.heap.size w wr) (fun _ i _ => n - (intOf i).toNat)
  case atStart => exact ⟨0, Nat.zero_le _, rfl, by simp, Below.refl _ _⟩
  case round =>
    obtain ⟨j, hj, rfl, rfl, hB⟩ := hrel
    have HB := Lib.hid hB
    clear hB
    by_cases hlt : j < n
    · rcases HV.out.below HB.out with hnil | ⟨b1, o1, rfl, hb1, hc1⟩
      · have := congrArg List.length hnil; simp [Changemarks_length] at this; omega
      obtain ⟨c0, c1, c2, c3, c4⟩ := hc1 j (by rw [Changemarks_length]; exact hlt)
      simp only [Changemarks_at] at c0 c1 c2 c3 c4
      rw [show decide ((k + j * 5 + 1) % 3 = 0) = ((((k + j * 5 : Nat) : Int) + 1) % 3 == 0) by rw [Bool.eq_iff_iff]; simp <;> omega] at c1
      rw [show decide ((k + j * 5 + 3) % 3 = 0) = ((((k + j * 5 : Nat) : Int) + 1 + 1 + 1) % 3 == 0) by rw [Bool.eq_iff_iff]; simp <;> omega] at c3
      clear hc1
      have y0 := cell_regrown c0
      go_wp2_with fail
      refine wp_region_quiet_below (by kernel_rfl) (by kernel_rfl) ?_
      repeat (go_big_quiet_step ((go_at_call 83; exact Calls.regrown_of (markText_at (k + j * 5) (by omega) _ (by omega) (by omega)))))
      refine wpQuiet_nil ?_
      intro _ hw'
      obtain ⟨⟨dq0, osq0⟩, hw''⟩ := hw'
      subst hw''
      replace c1 := cell_regrown c1 dq0 osq0
      replace c2 := cell_regrown c2 dq0 osq0
      replace c3 := cell_regrown c3 dq0 osq0
      replace c4 := cell_regrown c4 dq0 osq0
      clear y0 c0
      have HB0 := Lib.hid (HB.out.trans ((below_regrown _ dq0 osq0).mono HB.out.size))
      have y2 := cell_regrown c2
      go_wp2_with fail
      refine wp_region_quiet_below (by kernel_rfl) (by kernel_rfl) ?_
      repeat (go_big_quiet_step ((go_at_call 83; exact Calls.regrown_of (markText_at (k + j * 5 + 2) (by omega) _ (by omega) (by omega)))))
      refine wpQuiet_nil ?_
      intro _ hw'
      obtain ⟨⟨dq2, osq2⟩, hw''⟩ := hw'
      subst hw''
      replace c3 := cell_regrown c3 dq2 osq2
      replace c4 := cell_regrown c4 dq2 osq2
      clear y2 c2
      have HB2 := Lib.hid (HB0.out.trans ((below_regrown _ dq2 osq2).mono HB0.out.size))
      have y4 := cell_regrown c4
      go_wp2_with fail
      refine wp_region_quiet_below (by kernel_rfl) (by kernel_rfl) ?_
      repeat (go_big_quiet_step ((go_at_call 83; exact Calls.regrown_of (markText_at (k + j * 5 + 4) (by omega) _ (by omega) (by omega)))))
      refine wpQuiet_nil ?_
      intro _ hw'
      obtain ⟨⟨dq4, osq4⟩, hw''⟩ := hw'
      subst hw''
      clear y4 c4
      have HB4 := Lib.hid (HB2.out.trans ((below_regrown _ dq4 osq4).mono HB2.out.size))
      go_wp2_with fail
      (try (go_quiet (fail); go_wp2_with fail))
      (try (go_quiet (fail); go_wp2_with fail))
      (try (go_quiet (fail); go_wp2_with fail))
      go_roundw
      case rel => exact ⟨j + 1, by omega, by go_num, by go_num, by first | exact HB4.out | exact Below.drewN HB4.out _ | exact Below.drewN (Below.drewN HB4.out _) _⟩
      case measure => simp [intOf]; omega
    · obtain rfl : j = n := by omega
      go_wp2_with fail
      go_ret
      exact ⟨by simp, HB.out⟩
end Go.Proofs.Ythjikcfpoomioaa
