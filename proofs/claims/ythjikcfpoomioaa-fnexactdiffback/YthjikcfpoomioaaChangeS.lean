/- When a list of Change is ok, as the model tells it. -/
import Derived.Test.YthjikcfpoomioaaChangeI
import Derived.Test.YthjikcfpoomioaaLst
namespace Go.Proofs.Ythjikcfpoomioaa
open Go.RowKit

set_option maxRecDepth 100000 in
set_option maxHeartbeats 4000000 in
theorem l11ChangeOk_any (v : ChangeD) (w : World) (hf : v.fits) :
    Calls Try.prog 139 #[.agg #[.string v.f0, .bool v.f1, .string v.f2, .bool v.f3, .string v.f4]] w fun e w' => e = .returned (.bool (changeOkB v)) ∧ Below w.heap.size w w' := by
  obtain ⟨k, b1, s1, b2, s2⟩ := v
  obtain ⟨hs0, hs2, hs4⟩ := hf
  dsimp only at hs0 hs2 hs4
  have hEE : s1.toList.isEmpty = true → s2.toList.isEmpty = true → (s1.toList == s2.toList) = true := fun h1 h2 => by
    rw [List.isEmpty_iff] at h1 h2; rw [h1, h2]; rfl
  have HEE := Lib.hid hEE
  clear hEE
  cases hK : keyOkB k
  · go_enter Try.func139, Try.ntmps139
    go_wp2_with first
      | (go_at_call 87; refine (l1Key_is hK hs0 _).mono ?_; rintro e w' ⟨rfl, rfl⟩)
    go_ret
    exact ⟨ret_bool (by simp [changeOkB, hK]), (Below.refl _ _).alloc (Nat.le_refl _) _⟩
  cases hT1 : okB textB 8 s1
  · go_enter Try.func139, Try.ntmps139
    go_wp2_with first
      | (go_at_call 87; refine (l1Key_is hK hs0 _).mono ?_; rintro e w' ⟨rfl, rfl⟩)
      | (go_at_call 135; refine (l1Text_is hT1 hs2 _).mono ?_; rintro e w' ⟨rfl, rfl⟩)
    go_ret
    exact ⟨ret_bool (by simp [changeOkB, contB, hK, hT1]), (Below.refl _ _).alloc (Nat.le_refl _) _⟩
  cases hT2 : okB textB 8 s2
  all_goals
    cases b1 <;> cases hE1 : s1.toList.isEmpty <;> cases b2 <;> cases hE2 : s2.toList.isEmpty <;> cases hQ : (s1.toList == s2.toList)
    all_goals
      go_enter Try.func139, Try.ntmps139
      go_wp2_with fail
      refine (l1Key_is hK hs0 _).mono ?_
      rintro e w' ⟨rfl, rfl⟩
      go_wp2_with fail
      refine (l1Text_is hT1 hs2 _).mono ?_
      rintro e w' ⟨rfl, rfl⟩
      go_wp2_with fail
      refine (l1Text_is hT2 hs4 _).mono ?_
      rintro e w' ⟨rfl, rfl⟩
      go_wp2_with fail
      go_ret
      exact ⟨ret_bool (by first | (simp [changeOkB, contB, chgB, hK, hT1, hT2, hE1, hE2, hQ]; done) | (have := HEE.out hE1 hE2; rw [hQ] at this; cases this)), (Below.refl _ _).alloc (Nat.le_refl _) _⟩

theorem chgOk_is {v : ChangeD} {b : Bool} (h : changeOkB v = b) (hf : v.fits) (w : World) :
    Calls Try.prog 139 #[.agg #[.string v.f0, .bool v.f1, .string v.f2, .bool v.f3, .string v.f4]] w fun e w' => e = .returned (.bool b) ∧ Below w.heap.size w w' := h ▸ l11ChangeOk_any v w hf

set_option maxRecDepth 100000 in
set_option maxHeartbeats 2000000 in
theorem l11Ok_any (a : Option Addr) (vs : List ChangeD) (cap : Nat) (w : World) (hv : ChangesIn w a vs) (hf : ∀ v ∈ vs, v.fits) (hn : vs.length ≤ maxLen) :
    Calls Try.prog 76 #[.slice a vs.length cap] w (BoolPost (LstOk changeOkB ChangeD.f0 vs vs.length) w) := by
  unfold maxLen at hn
  have HV := Lib.hid hv
  have HF := Lib.hid hf
  clear hv hf
  go_enter Try.func76, Try.ntmps76
  go_wp2_with fail
  go_loopw [3] (fun i wr => ∃ k : Nat, k ≤ vs.length ∧ i = .int .i64 k ∧ Below w.heap.size w wr ∧ LstOk changeOkB ChangeD.f0 vs k) (fun i _ => vs.length - (intOf i).toNat)
  case atStart => exact ⟨0, Nat.zero_le _, rfl, Below.refl _ _, LstOk.zero _ _ _⟩
  case round =>
    obtain ⟨k, hk, hik, hB, hM⟩ := hrel
    have HW := Lib.hid hB
    have HM := Lib.hid hM
    clear hB hM
    by_cases hlt : k < vs.length
    · rcases HV.out.below HW.out with hnil | ⟨b1, o1, rfl, hb1, hc1⟩
      · rw [hnil] at hlt; simp at hlt
      obtain ⟨c0, c1, c2, c3, c4⟩ := hc1 k hlt
      have hks := HF.out _ (List.getElem_mem hlt)
      have HC := Lib.hid hc1
      clear hc1
      rcases Nat.eq_zero_or_pos k with rfl | hk0
      · have hik0 : _ = Value.int .i64 0 := hik
        subst hik0
        clear hik
        simp only [Nat.zero_mul, Nat.add_zero] at c0 c1 c2 c3 c4
        have y0 := cell_regrown c0
        have y1 := cell_regrown c1
        have y2 := cell_regrown c2
        have y3 := cell_regrown c3
        have y4 := cell_regrown c4
        cases hK : changeOkB vs[0]
        all_goals
          go_wp2_with fail
          refine wp_region_quiet_below (by kernel_rfl) (by kernel_rfl) ?_
          repeat (go_big_quiet_step ((go_at_call 139; exact Calls.regrown_of (chgOk_is hK hks _))))
          refine wpQuiet_nil ?_
          intro _ hw'
          obtain ⟨⟨dq, osq⟩, hw''⟩ := hw'
          subst hw''
          go_wp2_with fail
        all_goals first
          | (go_ret; exact ⟨false, rfl, by simpa using LstOk.not_ok hlt (hK), HW.out.trans ((below_regrown _ _ _).mono HW.out.size)⟩)
          | (go_roundw
             case rel => exact ⟨0 + 1, by omega, by go_num, HW.out.trans ((below_regrown _ _ _).mono HW.out.size), LstOk.one hlt (hK)⟩
             case measure => simp [intOf]; omega)
      · obtain ⟨j, rfl⟩ : ∃ j, k = j + 1 := ⟨k - 1, by omega⟩
        have hj : j < vs.length := by omega
        have hwj : IntKind.i64.wrap (j : Int) = (j : Int) := by rw [IntKind.wrap_i64]; omega
        have hz0 : ((j : Int) + 1 == 0) = false := by rw [beq_eq_false_iff_ne]; omega
        obtain rfl := hik
        obtain ⟨d0, d1, d2, d3, d4⟩ := HC.out j hj
        have y0 := cell_regrown c0
        have y1 := cell_regrown c1
        have y2 := cell_regrown c2
        have y3 := cell_regrown c3
        have y4 := cell_regrown c4
        have x0 := cell_regrown d0
        have x1 := cell_regrown d1
        have x2 := cell_regrown d2
        have x3 := cell_regrown d3
        have x4 := cell_regrown d4
        cases hK : changeOkB vs[j + 1] <;> cases hO : (Op.bytesLess vs[j + 1].f0.toList vs[j].f0.toList || vs[j + 1].f0.toList == vs[j].f0.toList)
        all_goals
          go_wp2_with fail
          refine wp_region_quiet_below (by kernel_rfl) (by kernel_rfl) ?_
          repeat (go_big_quiet_step ((go_at_call 139; exact Calls.regrown_of (chgOk_is hK hks _))))
          refine wpQuiet_nil ?_
          intro _ hw'
          obtain ⟨⟨dq, osq⟩, hw''⟩ := hw'
          subst hw''
          go_wp2_with fail
        all_goals first
          | (go_ret; exact ⟨false, rfl, by simpa using LstOk.not_up hlt hO, HW.out.trans ((below_regrown _ _ _).mono HW.out.size)⟩)
          | (go_ret; exact ⟨false, rfl, by simpa using LstOk.not_ok hlt (hK), HW.out.trans ((below_regrown _ _ _).mono HW.out.size)⟩)
          | (go_roundw
             case rel => exact ⟨j + 1 + 1, by omega, by go_num, HW.out.trans ((below_regrown _ _ _).mono HW.out.size), HM.out.succ hlt (hK) hO⟩
             case measure => simp [intOf]; omega)
    · obtain rfl := hik
      obtain rfl : k = vs.length := by omega
      go_wp2_with fail
      go_ret
      exact ⟨true, rfl, by simpa using HM.out, HW.out⟩

set_option maxHeartbeats 400000 in
theorem specDiffOk_any (a : Option Addr) (vs : List ChangeD) (cap : Nat) (w : World) (hv : ChangesIn w a vs) (hf : ∀ v ∈ vs, v.fits) (hn : vs.length ≤ maxLen) :
    Calls Try.prog 21 #[.slice a vs.length cap] w (BoolPost (LstOk changeOkB ChangeD.f0 vs vs.length) w) := by
  have HV := Lib.hid hv
  have HF := Lib.hid hf
  clear hv hf
  go_enter Try.func21, Try.ntmps21
  go_wp2_with fail
  refine (l11Ok_any a vs cap _ HV.out HF.out hn).mono ?_
  rintro e w2 ⟨b, rfl, hb, hb2⟩
  have HI := Lib.hid hb
  have HB := Lib.hid hb2
  clear hb hb2
  go_wp2_with fail
  go_ret
  exact ⟨b, rfl, HI.out, HB.out⟩
end Go.Proofs.Ythjikcfpoomioaa
