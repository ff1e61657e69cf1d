/- The law FnPmapFind: each key is in one row. -/
import Derived.Test.YtodpodgdhiadnaaCaPm
import Derived.Test.YtodpodgdhiadnaaCut
namespace Go.Proofs.Ytodpodgdhiadnaa
open Go.RowKit

set_option maxRecDepth 100000 in
set_option maxHeartbeats 4000000 in
theorem fnPmapFind_law (a : Option Addr) (len cap : Nat) (w : World) (h : BytesIn w a len cap) :
    Calls Try.prog 10 #[.slice a len cap] w fun e w' => e = .returned (.bool true) ∧ Below w.heap.size w w' := by
  have hcm := h.2.1
  have hlc := h.1
  have H := Lib.hid h
  clear h
  unfold maxLen at hcm
  by_cases hl : 1048576 < len
  · go_enter Try.func10, Try.ntmps10
    go_wp2_with fail
    go_ret
    exact ⟨rfl, Below.refl _ _⟩
  go_enter Try.func10, Try.ntmps10
  go_wp2_with fail
  refine (drawPmapFind_any a len cap _ H.out).mono ?_
  rintro e w1 ⟨ep, vs, am, c, key, hkey, rfl, hD, -, hb⟩
  have HB := Lib.hid hb
  have HD := Lib.hid hD
  have hv5 := hD.five
  have hv0 := hD.pos
  have HF := Lib.hid hD.fits
  have HKY := Lib.hid hkey
  clear hD hb H hkey
  obtain ⟨V_1, hV_1⟩ : ∃ V_1, w1.alloc (.cells #[.int .i64 ep, .slice am vs.length c] 80) = V_1 := ⟨_, rfl⟩
  have bV_1 : Below w1.heap.size w1 V_1 := by rw [← hV_1]; exact (Below.refl _ _).alloc (Nat.le_refl _) _
  have c_2 : V_1.cell? ⟨w1.heap.size, 0, none⟩ = some (.int .i64 ep) := by rw [← hV_1]; simp [go_sem]
  have c_3 : V_1.cell? ⟨w1.heap.size, 1, none⟩ = some (.slice am vs.length c) := by rw [← hV_1]; simp [go_sem]
  have s_4 : w1.heap.size < V_1.heap.size := by rw [← hV_1]; simp
  have k_5 : w1.heap.size < V_1.heap.size := s_4
  have H_6 := Lib.hid (HD.out.below bV_1)
  have HB := Lib.hid (HB.out.trans (bV_1.mono HB.out.size))
  have o_7 : w1.heap.size ≤ V_1.heap.size := bV_1.size
  clear bV_1
  go_wp2_with fail
  clear hV_1
  refine (pmapFind_any ep am vs c key _ H_6.out.inn HF.out (by omega) HKY.out).mono ?_
  rintro e w2 ⟨r, rfl, hr1, hr2, hb⟩
  have HR := Lib.hid (show FindIs r ep vs key from And.intro hr1 hr2)
  have c_8 := (hb.cell (p := ⟨w1.heap.size, 0, none⟩) s_4).trans c_2
  have c_9 := (hb.cell (p := ⟨w1.heap.size, 1, none⟩) s_4).trans c_3
  have s_10 : w1.heap.size < w2.heap.size := Nat.lt_of_lt_of_le s_4 hb.size
  have H_11 := Lib.hid (H_6.out.below hb)
  have HB := Lib.hid (HB.out.trans (hb.mono HB.out.size))
  have o_12 : V_1.heap.size ≤ w2.heap.size := hb.size
  clear c_2 c_3 s_4
  clear hb hr1 hr2
  obtain ⟨b, hb⟩ := pmOk_ex ep vs
  have HOK := Lib.hid hb
  clear hb
  by_cases hP : PmapOkP ep vs ∧ keyOkB key = true
  · obtain ⟨k, rfl, hF⟩ := HR.out.1 hP
    have HFk := Lib.hid hF
    have hkl := hF.1.1
    have HPk := Lib.hid hP
    clear hF hP
    have hneg : ¬ ((k : Int) < 0) := by omega
    have hbt : b = true := HOK.out.2 HPk.out.1
    subst hbt
    obtain ⟨V5, hV5⟩ : ∃ V5, w2 = V5 := ⟨_, rfl⟩
    subst hV5
    go_wp2_with fail
    go_cut [35] from 36 (fun t u => t = .bool false ∧ Below w2.heap.size w2 u)
    case first =>
      have q : w2.cell? ⟨w1.heap.size, 0, none⟩ = some (.int .i64 ep) ∧ w2.cell? ⟨w1.heap.size, 1, none⟩ = some (.slice am vs.length c) ∧ Kp1 w2 (w1.heap.size) w2 := ⟨c_8, c_9, s_10, Below.refl _ _⟩
      go_region_held3 (fun u => u.cell? ⟨w1.heap.size, 0, none⟩ = some (.int .i64 ep) ∧ u.cell? ⟨w1.heap.size, 1, none⟩ = some (.slice am vs.length c) ∧ Kp1 w2 (w1.heap.size) u)
        (first | with_reducible exact q | with_reducible exact keepP ((Below.refl _ _).drew) q)
        (first
          | (go_at_call 58; refine (specPmapFind_any ep am vs c key _ (H_11.out.below (keepP_b (W := w2) (n := w1.heap.size) (x := .int .i64 ep) (y := .slice am vs.length c) (by with_reducible assumption))).inn HF.out (by omega) HKY.out).mono ?_; rintro e wA ⟨rA, rfl, hA1, hA2, hb⟩; have q := keepP (W := w2) (n := w1.heap.size) (x := .int .i64 ep) (y := .slice am vs.length c) hb (by with_reducible assumption); obtain rfl : rA = (k : Int) := FindIs.one (And.intro hA1 hA2) HR.out; clear hb hA1 hA2)
          | (go_at_call 59; refine (pmapOk_bool HOK.out am c _ (H_11.out.below (keepP_b (W := w2) (n := w1.heap.size) (x := .int .i64 ep) (y := .slice am vs.length c) (by with_reducible assumption))).inn HF.out (by unfold maxLen; omega)).mono ?_; rintro e wB ⟨rfl, hb⟩; have q := keepP (W := w2) (n := w1.heap.size) (x := .int .i64 ep) (y := .slice am vs.length c) hb (by with_reducible assumption); clear hb)
          | (go_at_call 60; refine (specPmapOk_bool HOK.out am c _ (H_11.out.below (keepP_b (W := w2) (n := w1.heap.size) (x := .int .i64 ep) (y := .slice am vs.length c) (by with_reducible assumption))).inn HF.out (by unfold maxLen; omega)).mono ?_; rintro e wC ⟨rfl, hb⟩; have q := keepP (W := w2) (n := w1.heap.size) (x := .int .i64 ep) (y := .slice am vs.length c) hb (by with_reducible assumption); clear hb))
      all_goals
        go_wp2_with fail
        go_meet
        exact ⟨rfl, keepP_b q⟩
    case rest =>
      obtain ⟨rfl, hb⟩ := hcut
      obtain ⟨w3, rfl⟩ : ∃ x, x = wc := ⟨_, rfl⟩
      have c_1013 := (hb.cell (p := ⟨w1.heap.size, 0, none⟩) s_10).trans c_8
      have c_1014 := (hb.cell (p := ⟨w1.heap.size, 1, none⟩) s_10).trans c_9
      have s_1015 : w1.heap.size < w3.heap.size := Nat.lt_of_lt_of_le s_10 hb.size
      have H_1016 := Lib.hid (H_11.out.below hb)
      have HB := Lib.hid (HB.out.trans (hb.mono HB.out.size))
      have o_1017 : w2.heap.size ≤ w3.heap.size := hb.size
      clear c_8 c_9 s_10
      clear hb
      go_wp2_with fail
      go_loopw [6] (fun i wr => ∃ t : Nat, t ≤ vs.length ∧ i = .int .i64 t ∧ Kp1 w3 (w1.heap.size) wr) (fun i _ => vs.length - (intOf i).toNat)
      case atStart => exact ⟨0, Nat.zero_le _, rfl, s_1015, Below.refl _ _⟩
      case round =>
        obtain ⟨t, ht, rfl, hkp⟩ := hrel
        obtain ⟨v, rfl⟩ : ∃ v, v = wr := ⟨_, rfl⟩
        have hb := hkp.2
        have HKP := Lib.hid hkp
        have c_1018 := (hb.cell (p := ⟨w1.heap.size, 0, none⟩) s_1015).trans c_1013
        have c_1019 := (hb.cell (p := ⟨w1.heap.size, 1, none⟩) s_1015).trans c_1014
        have s_1020 : w1.heap.size < v.heap.size := Nat.lt_of_lt_of_le s_1015 hb.size
        have H_1021 := Lib.hid (H_1016.out.below hb)
        have HB := Lib.hid (HB.out.trans (hb.mono HB.out.size))
        have o_1022 : w3.heap.size ≤ v.heap.size := hb.size
        clear c_1013 c_1014 s_1015
        clear hb hkp
        by_cases hlt : t < vs.length
        · skip
          go_wp2_with fail
          refine (pmapSpan_any ep am vs c (t : Int) _ H_1021.out.inn HF.out (by omega)).mono ?_
          rintro e w4 ⟨bs, hk, rfl, hb⟩
          obtain rfl : bs = true := hk.2 ⟨HPk.out.1, by omega, by omega⟩
          obtain ⟨lo, hlo⟩ : ∃ lo, lo = loOf vs t := ⟨_, rfl⟩
          obtain ⟨hi, hhi⟩ : ∃ hi, hi = hiOf vs t := ⟨_, rfl⟩
          simp only [if_true, Int.toNat_natCast]
          rw [← hlo, ← hhi]
          have hsz : lo.size ≤ maxLen := by rw [hlo, loOf_lt hlt]; exact HF.out _ (List.getElem_mem hlt)
          have hsz2 : hi.size ≤ maxLen := by
            rw [hhi]
            by_cases q : t + 1 < vs.length
            · rw [hiOf_lt q]; exact HF.out _ (List.getElem_mem q)
            · rw [hiOf_ge q]; unfold maxLen; exact Nat.zero_le _
          have hsh := pm_spanHas HPk.out.1 HPk.out.2 HFk.out hlt
          rw [← hlo, ← hhi] at hsh
          have HSH := Lib.hid hsh
          have HSZ := Lib.hid (And.intro hsz hsz2)
          clear hk hlo hhi hsz hsz2 hsh
          have c_2023 := (hb.cell (p := ⟨w1.heap.size, 0, none⟩) s_1020).trans c_1018
          have c_2024 := (hb.cell (p := ⟨w1.heap.size, 1, none⟩) s_1020).trans c_1019
          have s_2025 : w1.heap.size < w4.heap.size := Nat.lt_of_lt_of_le s_1020 hb.size
          have H_2026 := Lib.hid (H_1021.out.below hb)
          have H_2027 := Lib.hid (HKP.out.below hb)
          have HB := Lib.hid (HB.out.trans (hb.mono HB.out.size))
          have o_2028 : v.heap.size ≤ w4.heap.size := hb.size
          clear c_1018 c_1019 s_1020
          clear hb
          obtain ⟨V_2029, hV_2029⟩ : ∃ V_2029, w4.alloc (.cells #[.string lo, .string hi] 84) = V_2029 := ⟨_, rfl⟩
          have bV_2029 : Below w4.heap.size w4 V_2029 := by rw [← hV_2029]; exact (Below.refl _ _).alloc (Nat.le_refl _) _
          have c_2030 : V_2029.cell? ⟨w4.heap.size, 0, none⟩ = some (.string lo) := by rw [← hV_2029]; simp [go_sem]
          have c_2031 : V_2029.cell? ⟨w4.heap.size, 1, none⟩ = some (.string hi) := by rw [← hV_2029]; simp [go_sem]
          have s_2032 : w4.heap.size < V_2029.heap.size := by rw [← hV_2029]; simp
          have k_2033 : w4.heap.size < V_2029.heap.size := s_2032
          have c_2034 := (bV_2029.cell (p := ⟨w1.heap.size, 0, none⟩) s_2025).trans c_2023
          have c_2035 := (bV_2029.cell (p := ⟨w1.heap.size, 1, none⟩) s_2025).trans c_2024
          have s_2036 : w1.heap.size < V_2029.heap.size := Nat.lt_of_lt_of_le s_2025 bV_2029.size
          have H_2037 := Lib.hid (H_2026.out.below bV_2029)
          have H_2038 := Lib.hid (H_2027.out.below bV_2029)
          have HB := Lib.hid (HB.out.trans (bV_2029.mono HB.out.size))
          have o_2039 : w4.heap.size ≤ V_2029.heap.size := bV_2029.size
          clear c_2023 c_2024 s_2025
          clear bV_2029
          have hdec : ((t : Int) == (k : Int)) = decide (t = k) := by rw [Bool.eq_iff_iff]; simp; omega
          cases hd : decide (t = k)
          all_goals
            rw [hd] at hdec
            have HS2 := Lib.hid (HSH.out.trans hd)
            clear hd
            go_wp2_with fail
            clear hV_2029
            refine (has_is HS2.out HSZ.out.1 HSZ.out.2 HKY.out _).mono ?_
            rintro e w5 ⟨rfl, hb⟩
            have c_2040 := (hb.cell (p := ⟨w1.heap.size, 0, none⟩) s_2036).trans c_2034
            have c_2041 := (hb.cell (p := ⟨w1.heap.size, 1, none⟩) s_2036).trans c_2035
            have s_2042 : w1.heap.size < w5.heap.size := Nat.lt_of_lt_of_le s_2036 hb.size
            have c_2043 := (hb.cell (p := ⟨w4.heap.size, 0, none⟩) s_2032).trans c_2030
            have c_2044 := (hb.cell (p := ⟨w4.heap.size, 1, none⟩) s_2032).trans c_2031
            have s_2045 : w4.heap.size < w5.heap.size := Nat.lt_of_lt_of_le s_2032 hb.size
            have H_2046 := Lib.hid (H_2037.out.below hb)
            have H_2047 := Lib.hid (H_2038.out.below hb)
            have HB := Lib.hid (HB.out.trans (hb.mono HB.out.size))
            have o_2048 : V_2029.heap.size ≤ w5.heap.size := hb.size
            clear c_2034 c_2035 s_2036 c_2030 c_2031 s_2032
            clear hb
            go_wp2_with fail
            go_roundw
            case rel => exact ⟨t + 1, by omega, by go_num, H_2047.out⟩
            case measure => simp [intOf]; omega
        · go_wp2_with fail
          go_ret
          exact ⟨rfl, HB.out⟩
  · obtain rfl := HR.out.2 hP
    have HPn := Lib.hid hP
    clear hP
    go_wp2_with fail
    go_cut [35] from 36 (fun t u => t = .bool true ∧ Below w2.heap.size w2 u)
    case first =>
      have q : w2.cell? ⟨w1.heap.size, 0, none⟩ = some (.int .i64 ep) ∧ w2.cell? ⟨w1.heap.size, 1, none⟩ = some (.slice am vs.length c) ∧ Kp1 w2 (w1.heap.size) w2 := ⟨c_8, c_9, s_10, Below.refl _ _⟩
      go_region_held3 (fun u => u.cell? ⟨w1.heap.size, 0, none⟩ = some (.int .i64 ep) ∧ u.cell? ⟨w1.heap.size, 1, none⟩ = some (.slice am vs.length c) ∧ Kp1 w2 (w1.heap.size) u)
        (first | with_reducible exact q | with_reducible exact keepP ((Below.refl _ _).drew) q)
        (first
          | (go_at_call 58; refine (specPmapFind_any ep am vs c key _ (H_11.out.below (keepP_b (W := w2) (n := w1.heap.size) (x := .int .i64 ep) (y := .slice am vs.length c) (by with_reducible assumption))).inn HF.out (by omega) HKY.out).mono ?_; rintro e wA ⟨rA, rfl, hA1, hA2, hb⟩; have q := keepP (W := w2) (n := w1.heap.size) (x := .int .i64 ep) (y := .slice am vs.length c) hb (by with_reducible assumption); obtain rfl : rA = (-1 : Int) := FindIs.one (And.intro hA1 hA2) HR.out; clear hb hA1 hA2)
          | (go_at_call 59; refine (pmapOk_bool HOK.out am c _ (H_11.out.below (keepP_b (W := w2) (n := w1.heap.size) (x := .int .i64 ep) (y := .slice am vs.length c) (by with_reducible assumption))).inn HF.out (by unfold maxLen; omega)).mono ?_; rintro e wB ⟨rfl, hb⟩; have q := keepP (W := w2) (n := w1.heap.size) (x := .int .i64 ep) (y := .slice am vs.length c) hb (by with_reducible assumption); clear hb)
          | (go_at_call 60; refine (specPmapOk_bool HOK.out am c _ (H_11.out.below (keepP_b (W := w2) (n := w1.heap.size) (x := .int .i64 ep) (y := .slice am vs.length c) (by with_reducible assumption))).inn HF.out (by unfold maxLen; omega)).mono ?_; rintro e wC ⟨rfl, hb⟩; have q := keepP (W := w2) (n := w1.heap.size) (x := .int .i64 ep) (y := .slice am vs.length c) hb (by with_reducible assumption); clear hb))
      all_goals
        go_wp2_with fail
        go_meet
        exact ⟨rfl, keepP_b q⟩
    case rest =>
      obtain ⟨rfl, hb⟩ := hcut
      obtain ⟨w3, rfl⟩ : ∃ x, x = wc := ⟨_, rfl⟩
      have c_1013 := (hb.cell (p := ⟨w1.heap.size, 0, none⟩) s_10).trans c_8
      have c_1014 := (hb.cell (p := ⟨w1.heap.size, 1, none⟩) s_10).trans c_9
      have s_1015 : w1.heap.size < w3.heap.size := Nat.lt_of_lt_of_le s_10 hb.size
      have H_1016 := Lib.hid (H_11.out.below hb)
      have HB := Lib.hid (HB.out.trans (hb.mono HB.out.size))
      have o_1017 : w2.heap.size ≤ w3.heap.size := hb.size
      clear c_8 c_9 s_10
      clear hb
      go_wp2_with fail
      have q : w3.cell? ⟨w1.heap.size, 0, none⟩ = some (.int .i64 ep) ∧ w3.cell? ⟨w1.heap.size, 1, none⟩ = some (.slice am vs.length c) ∧ Kp1 w3 (w1.heap.size) w3 := ⟨c_1013, c_1014, s_1015, Below.refl _ _⟩
      go_region_held3 (fun u => u.cell? ⟨w1.heap.size, 0, none⟩ = some (.int .i64 ep) ∧ u.cell? ⟨w1.heap.size, 1, none⟩ = some (.slice am vs.length c) ∧ Kp1 w3 (w1.heap.size) u)
        (first | with_reducible exact q | with_reducible exact keepP ((Below.refl _ _).drew) q)
        (first
          | (go_at_call 58; refine (specPmapFind_any ep am vs c key _ (H_1016.out.below (keepP_b (W := w3) (n := w1.heap.size) (x := .int .i64 ep) (y := .slice am vs.length c) (by with_reducible assumption))).inn HF.out (by omega) HKY.out).mono ?_; rintro e wA ⟨rA, rfl, hA1, hA2, hb⟩; have q := keepP (W := w3) (n := w1.heap.size) (x := .int .i64 ep) (y := .slice am vs.length c) hb (by with_reducible assumption); obtain rfl : rA = (-1 : Int) := FindIs.one (And.intro hA1 hA2) HR.out; clear hb hA1 hA2)
          | (go_at_call 59; refine (pmapOk_bool HOK.out am c _ (H_1016.out.below (keepP_b (W := w3) (n := w1.heap.size) (x := .int .i64 ep) (y := .slice am vs.length c) (by with_reducible assumption))).inn HF.out (by unfold maxLen; omega)).mono ?_; rintro e wB ⟨rfl, hb⟩; have q := keepP (W := w3) (n := w1.heap.size) (x := .int .i64 ep) (y := .slice am vs.length c) hb (by with_reducible assumption); clear hb)
          | (go_at_call 60; refine (specPmapOk_bool HOK.out am c _ (H_1016.out.below (keepP_b (W := w3) (n := w1.heap.size) (x := .int .i64 ep) (y := .slice am vs.length c) (by with_reducible assumption))).inn HF.out (by unfold maxLen; omega)).mono ?_; rintro e wC ⟨rfl, hb⟩; have q := keepP (W := w3) (n := w1.heap.size) (x := .int .i64 ep) (y := .slice am vs.length c) hb (by with_reducible assumption); clear hb))
      all_goals
        go_wp2_with fail
        go_ret
        exact ⟨rfl, HB.out.trans ((keepP_b q).mono HB.out.size)⟩
end Go.Proofs.Ytodpodgdhiadnaa
