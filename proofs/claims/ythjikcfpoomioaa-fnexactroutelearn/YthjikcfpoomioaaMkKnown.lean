/- Slices of Known: their marks. -/
import Derived.Test.YthjikcfpoomioaaFlKnown
import Derived.Test.YthjikcfpoomioaaMkSt
namespace Go.Proofs.Ythjikcfpoomioaa
open Go.RowKit

def Knownmf (k i : Nat) : Value := if i % 4 = 0 then .string (mtext (k + i)) else if i % 4 = 1 then .string (mtext (k + i)) else if i % 4 = 2 then .int .i64 ((k + i : Nat) : Int) else .int .i64 ((k + i : Nat) : Int)

theorem Knownmf_0 (k i : Nat) : Knownmf k (i * 4) = .string (mtext (k + i * 4)) := by
  unfold Knownmf
  simp only [show (i * 4) % 4 = 0 by omega, if_true, if_false, Nat.reduceEqDiff, Nat.add_assoc]
theorem Knownmf_1 (k i : Nat) : Knownmf k (i * 4 + 1) = .string (mtext (k + i * 4 + 1)) := by
  unfold Knownmf
  simp only [show (i * 4 + 1) % 4 = 1 by omega, if_true, if_false, Nat.reduceEqDiff, Nat.add_assoc]
theorem Knownmf_2 (k i : Nat) : Knownmf k (i * 4 + 2) = .int .i64 ((k + i * 4 + 2 : Nat) : Int) := by
  unfold Knownmf
  simp only [show (i * 4 + 2) % 4 = 2 by omega, if_true, if_false, Nat.reduceEqDiff, Nat.add_assoc]
theorem Knownmf_3 (k i : Nat) : Knownmf k (i * 4 + 3) = .int .i64 ((k + i * 4 + 3 : Nat) : Int) := by
  unfold Knownmf
  simp only [show (i * 4 + 3) % 4 = 3 by omega, if_true, if_false, Nat.reduceEqDiff, Nat.add_assoc]
theorem KnownsIn.of_marks {S : Nat → Prop} {w u : World} {b off n k : Nat} (h : MkSt (Knownmf k) S w b off (n * 4) (n * 4) u) : KnownsIn u (some ⟨b, off, none⟩) (Knownmarks k n) := by
  refine .inr ⟨b, off, rfl, h.lt, fun i hi => ?_⟩
  have hi' : i < n := by rw [Knownmarks_length] at hi; exact hi
  simp only [Knownmarks_at]
  have h0 := h.done (i * 4) (by omega)
  rw [Knownmf_0] at h0
  have h1 := h.done (i * 4 + 1) (by omega)
  rw [Knownmf_1] at h1
  have h2 := h.done (i * 4 + 2) (by omega)
  rw [Knownmf_2] at h2
  have h3 := h.done (i * 4 + 3) (by omega)
  rw [Knownmf_3] at h3
  simp only [← Nat.add_assoc] at h0 h1 h2 h3 ⊢
  exact ⟨h0, h1, h2, h3⟩

set_option maxRecDepth 100000 in
set_option maxHeartbeats 2000000 in
theorem markKnownS_any (S : Nat → Prop) (a : Option Addr) (n cap k : Nat) (w : World) (hf : Free w a (n * 4)) (hS : ∀ b off, a = some ⟨b, off, none⟩ → S b) (hk : 1 ≤ k) (hkn : k + n * 4 ≤ 100000000) :
    Calls Try.prog 43 #[.slice a n cap, .int .i64 (k : Int)] w (MarkedKnowns S a k n w) := by
  rcases hf with h0 | ⟨b, off, rfl, hb, hc⟩
  · obtain rfl : n = 0 := by omega
    go_enter Try.func43, Try.ntmps43
    go_wp2_with fail
    go_loop [1, 5] (fun l i => l = .int .i64 (k : Int) ∧ i = .int .i64 0) (fun _ _ => 0)
    case atStart => exact ⟨rfl, rfl⟩
    case round =>
      obtain ⟨rfl, rfl⟩ := hrel
      go_wp2_with fail
      go_ret
      exact ⟨by simp, .inl rfl, .inl rfl, Turned.refl _ _⟩
  · have HS := Lib.hid (hS b off rfl)
    have HC := Lib.hid hc
    clear hS hc
    go_enter Try.func43, Try.ntmps43
    go_wp2_with fail
    go_loopw [1, 5] (fun l i wr => ∃ j : Nat, j ≤ n ∧ i = .int .i64 j ∧ l = .int .i64 ((k + j * 4 : Nat) : Int) ∧ MkSt (Knownmf k) S w b off (n * 4) (j * 4) wr) (fun _ i _ => n - (intOf i).toNat)
    case atStart => exact ⟨0, Nat.zero_le _, rfl, by simp, by rw [Nat.zero_mul]; exact MkSt.start hb HC.out⟩
    case round =>
      obtain ⟨j, hj, rfl, rfl, hM⟩ := hrel
      have HM := Lib.hid hM
      clear hM
      by_cases hlt : j < n
      · skip
        go_wp2_with fail
        refine (markText_at (k + j * 4) ?hz0 _ (by omega) (by omega)).mono ?_
        case hz0 => omega
        rintro e w2 ⟨rfl, hb2⟩
        have HM2 := Lib.hid ((HM.out).below hb2)
        clear hb2
        obtain ⟨v0, d0⟩ := HM2.out.at0 (j * 4) (by omega)
        have f0 := HM2.out.fz0 (j * 4) (by omega)
        go_wp2_with fail
        refine (markText_at (k + j * 4 + 1) ?hz1 _ (by omega) (by omega)).mono ?_
        case hz1 => omega
        rintro e w3 ⟨rfl, hb3⟩
        have HM3 := Lib.hid (((HM2.out.set (by omega) HS.out (p := ⟨b, off + j * 4, none⟩) rfl (by rw [Knownmf_0]))).below hb3)
        clear hb3
        clear d0 f0
        obtain ⟨v1, d1⟩ := HM3.out.at0 (j * 4 + 1) (by omega)
        have f1 := HM3.out.fz0 (j * 4 + 1) (by omega)
        rw [← Nat.add_assoc] at d1 f1
        obtain ⟨v2, d2⟩ := HM3.out.at0 (j * 4 + 2) (by omega)
        have f2 := HM3.out.fz0 (j * 4 + 2) (by omega)
        rw [← Nat.add_assoc] at d2 f2
        obtain ⟨v3, d3⟩ := HM3.out.at0 (j * 4 + 3) (by omega)
        have f3 := HM3.out.fz0 (j * 4 + 3) (by omega)
        rw [← Nat.add_assoc] at d3 f3
        go_wp2_with fail
        go_roundw
        case rel => exact ⟨j + 1, by omega, by go_num, by go_num, by rw [show (j + 1) * 4 = j * 4 + 3 + 1 by omega]; exact (((HM3.out.set (by omega) HS.out (p := ⟨b, off + j * 4 + 1, none⟩) (by rw [Nat.add_assoc]) (by rw [Knownmf_1])).set (by omega) HS.out (p := ⟨b, off + j * 4 + 2, none⟩) (by rw [Nat.add_assoc]) (by rw [Knownmf_2]; go_num)).set (by omega) HS.out (p := ⟨b, off + j * 4 + 3, none⟩) (by rw [Nat.add_assoc]) (by rw [Knownmf_3]; go_num))⟩
        case measure => simp [intOf]; omega
      · obtain rfl : j = n := by omega
        go_wp2_with fail
        go_ret
        exact ⟨by simp, KnownsIn.of_marks HM.out, .inr ⟨b, off, rfl, HM.out.lt, HM.out.free⟩, HM.out.turned⟩

set_option maxRecDepth 100000 in
set_option maxHeartbeats 2000000 in
theorem heldKnownS_any (a : Option Addr) (n cap k : Nat) (w : World) (hv : KnownsIn w a (Knownmarks k n)) (hk : 1 ≤ k) (hkn : k + n * 4 ≤ 100000000) :
    Calls Try.prog 44 #[.slice a n cap, .int .i64 (k : Int)] w fun e w' => e = .returned (.int .i64 ((k + n * 4 : Nat) : Int)) ∧ Below w.heap.size w w' := by
  have HV := Lib.hid hv
  clear hv
  go_enter Try.func44, Try.ntmps44
  go_wp2_with fail
  go_loopw [1, 5] (fun l i wr => ∃ j : Nat, j ≤ n ∧ i = .int .i64 j ∧ l = .int .i64 ((k + j * 4 : Nat) : Int) ∧ Below w.heap.size w wr) (fun _ i _ => n - (intOf i).toNat)
  case atStart => exact ⟨0, Nat.zero_le _, rfl, by simp, Below.refl _ _⟩
  case round =>
    obtain ⟨j, hj, rfl, rfl, hB⟩ := hrel
    have HB := Lib.hid hB
    clear hB
    by_cases hlt : j < n
    · rcases HV.out.below HB.out with hnil | ⟨b1, o1, rfl, hb1, hc1⟩
      · have := congrArg List.length hnil; simp [Knownmarks_length] at this; omega
      obtain ⟨c0, c1, c2, c3⟩ := hc1 j (by rw [Knownmarks_length]; exact hlt)
      simp only [Knownmarks_at] at c0 c1 c2 c3
      rw [show ((k + j * 4 + 2 : Nat) : Int) = ((k + j * 4 : Nat) : Int) + 1 + 1 by omega] at c2
      rw [show ((k + j * 4 + 3 : Nat) : Int) = ((k + j * 4 : Nat) : Int) + 1 + 1 + 1 by omega] at c3
      clear hc1
      have y0 := cell_regrown c0
      go_wp2_with fail
      refine wp_region_quiet_below (by kernel_rfl) (by kernel_rfl) ?_
      repeat (go_big_quiet_step ((go_at_call 83; exact Calls.regrown_of (markText_at (k + j * 4) (by omega) _ (by omega) (by omega)))))
      refine wpQuiet_nil ?_
      intro _ hw'
      obtain ⟨⟨dq0, osq0⟩, hw''⟩ := hw'
      subst hw''
      replace c1 := cell_regrown c1 dq0 osq0
      replace c2 := cell_regrown c2 dq0 osq0
      replace c3 := cell_regrown c3 dq0 osq0
      clear y0 c0
      have HB0 := Lib.hid (HB.out.trans ((below_regrown _ dq0 osq0).mono HB.out.size))
      have y1 := cell_regrown c1
      go_wp2_with fail
      refine wp_region_quiet_below (by kernel_rfl) (by kernel_rfl) ?_
      repeat (go_big_quiet_step ((go_at_call 83; exact Calls.regrown_of (markText_at (k + j * 4 + 1) (by omega) _ (by omega) (by omega)))))
      refine wpQuiet_nil ?_
      intro _ hw'
      obtain ⟨⟨dq1, osq1⟩, hw''⟩ := hw'
      subst hw''
      replace c2 := cell_regrown c2 dq1 osq1
      replace c3 := cell_regrown c3 dq1 osq1
      clear y1 c1
      have HB1 := Lib.hid (HB0.out.trans ((below_regrown _ dq1 osq1).mono HB0.out.size))
      go_wp2_with fail
      (try (go_quiet (fail); go_wp2_with fail))
      (try (go_quiet (fail); go_wp2_with fail))
      (try (go_quiet (fail); go_wp2_with fail))
      go_roundw
      case rel => exact ⟨j + 1, by omega, by go_num, by go_num, by first | exact HB1.out | exact Below.drewN HB1.out _ | exact Below.drewN (Below.drewN HB1.out _) _⟩
      case measure => simp [intOf]; omega
    · obtain rfl : j = n := by omega
      go_wp2_with fail
      go_ret
      exact ⟨by simp, HB.out⟩
end Go.Proofs.Ythjikcfpoomioaa
