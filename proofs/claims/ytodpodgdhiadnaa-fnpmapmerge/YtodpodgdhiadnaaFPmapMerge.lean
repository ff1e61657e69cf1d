/- The law FnPmapMerge: two rows that join have all keys of both. -/
import Derived.Test.YtodpodgdhiadnaaCaPm
import Derived.Test.YtodpodgdhiadnaaJoin
import Derived.Test.YtodpodgdhiadnaaPmapMergeI
namespace Go.Proofs.Ytodpodgdhiadnaa
open Go.RowKit

set_option maxRecDepth 100000 in
set_option maxHeartbeats 4000000 in
theorem fnPmapMerge_law (a : Option Addr) (len cap : Nat) (w : World) (h : BytesIn w a len cap) :
    Calls Try.prog 11 #[.slice a len cap] w fun e w' => e = .returned (.bool true) ∧ Below w.heap.size w w' := by
  have hcm := h.2.1
  have hlc := h.1
  have H := Lib.hid h
  clear h
  unfold maxLen at hcm
  by_cases hl : 1048576 < len
  · go_enter Try.func11, Try.ntmps11
    go_wp2_with fail
    go_ret
    exact ⟨rfl, Below.refl _ _⟩
  go_enter Try.func11, Try.ntmps11
  go_wp2_with fail
  refine (drawPmapMerge_any a len cap _ H.out).mono ?_
  rintro e w1 ⟨ep, vs, am, c, k, hk1, hk2, rfl, hD, -, hb⟩
  have HB := Lib.hid hb
  have HD := Lib.hid hD
  have hv5 := hD.five
  have hv0 := hD.pos
  have HF := Lib.hid hD.fits
  have HCp := Lib.hid hD.cap
  clear hD hb H
  obtain ⟨V_1, hV_1⟩ : ∃ V_1, w1.alloc (.cells #[.int .i64 ep, .slice am vs.length c] 80) = V_1 := ⟨_, rfl⟩
  have bV_1 : Below w1.heap.size w1 V_1 := by rw [← hV_1]; exact (Below.refl _ _).alloc (Nat.le_refl _) _
  have c_2 : V_1.cell? ⟨w1.heap.size, 0, none⟩ = some (.int .i64 ep) := by rw [← hV_1]; simp [go_sem]
  have c_3 : V_1.cell? ⟨w1.heap.size, 1, none⟩ = some (.slice am vs.length c) := by rw [← hV_1]; simp [go_sem]
  have s_4 : w1.heap.size < V_1.heap.size := by rw [← hV_1]; simp
  have k_5 : w1.heap.size < V_1.heap.size := s_4
  have H_6 := Lib.hid (HD.out.below bV_1)
  have HB := Lib.hid (HB.out.trans (bV_1.mono HB.out.size))
  have o_7 : w1.heap.size ≤ V_1.heap.size := bV_1.size
  clear bV_1
  go_wp2_with fail
  clear hV_1
  refine (pmapMerge_any ep am vs c k _ H_6.out.inn HF.out (by omega)).mono ?_
  rintro e w2 ⟨ep2, vs2, b2, hrel, ax, cx, rfl, hat, hb⟩
  have REL := Lib.hid hrel
  have HX := Lib.hid hat
  have c_8 := (hb.cell (p := ⟨w1.heap.size, 0, none⟩) s_4).trans c_2
  have c_9 := (hb.cell (p := ⟨w1.heap.size, 1, none⟩) s_4).trans c_3
  have s_10 : w1.heap.size < w2.heap.size := Nat.lt_of_lt_of_le s_4 hb.size
  have H_11 := Lib.hid (H_6.out.below hb)
  have HB := Lib.hid (HB.out.trans (hb.mono HB.out.size))
  have o_12 : V_1.heap.size ≤ w2.heap.size := hb.size
  clear c_2 c_3 s_4
  clear hrel hat hb
  obtain ⟨V_13, hV_13⟩ : ∃ V_13, w2.alloc (.cells #[.int .i64 ep2, .slice ax vs2.length cx] 80) = V_13 := ⟨_, rfl⟩
  have bV_13 : Below w2.heap.size w2 V_13 := by rw [← hV_13]; exact (Below.refl _ _).alloc (Nat.le_refl _) _
  have c_14 : V_13.cell? ⟨w2.heap.size, 0, none⟩ = some (.int .i64 ep2) := by rw [← hV_13]; simp [go_sem]
  have c_15 : V_13.cell? ⟨w2.heap.size, 1, none⟩ = some (.slice ax vs2.length cx) := by rw [← hV_13]; simp [go_sem]
  have s_16 : w2.heap.size < V_13.heap.size := by rw [← hV_13]; simp
  have k_17 : w2.heap.size < V_13.heap.size := s_16
  have c_18 := (bV_13.cell (p := ⟨w1.heap.size, 0, none⟩) s_10).trans c_8
  have c_19 := (bV_13.cell (p := ⟨w1.heap.size, 1, none⟩) s_10).trans c_9
  have s_20 : w1.heap.size < V_13.heap.size := Nat.lt_of_lt_of_le s_10 bV_13.size
  have H_21 := Lib.hid (H_11.out.below bV_13)
  have H_22 := Lib.hid (HX.out.below bV_13)
  have HB := Lib.hid (HB.out.trans (bV_13.mono HB.out.size))
  have o_23 : w2.heap.size ≤ V_13.heap.size := bV_13.size
  clear c_8 c_9 s_10
  clear bV_13
  go_wp2_with fail
  clear hV_13
  refine (specPmapMerge_any ep am vs c k _ H_21.out.inn HF.out (by omega) HCp.out.1 HCp.out.2).mono ?_
  rintro e w3 ⟨ep3, vs3, b3, hrel, aw, cw, rfl, hat, hb⟩
  have REL3 := Lib.hid hrel
  have HWt := Lib.hid hat
  have c_24 := (hb.cell (p := ⟨w1.heap.size, 0, none⟩) s_20).trans c_18
  have c_25 := (hb.cell (p := ⟨w1.heap.size, 1, none⟩) s_20).trans c_19
  have s_26 : w1.heap.size < w3.heap.size := Nat.lt_of_lt_of_le s_20 hb.size
  have c_27 := (hb.cell (p := ⟨w2.heap.size, 0, none⟩) s_16).trans c_14
  have c_28 := (hb.cell (p := ⟨w2.heap.size, 1, none⟩) s_16).trans c_15
  have s_29 : w2.heap.size < w3.heap.size := Nat.lt_of_lt_of_le s_16 hb.size
  have H_30 := Lib.hid (H_21.out.below hb)
  have H_31 := Lib.hid (H_22.out.below hb)
  have HB := Lib.hid (HB.out.trans (hb.mono HB.out.size))
  have o_32 : V_13.heap.size ≤ w3.heap.size := hb.size
  clear c_18 c_19 s_20 c_14 c_15 s_16
  clear hrel hat hb
  obtain ⟨rfl, rfl, rfl⟩ := PmapMergeRel_unique REL.out REL3.out
  clear REL3
  have hv2 : vs2.length ≤ 6 := by have := PmapMergeRel_len REL.out; omega
  obtain ⟨V_33, hV_33⟩ : ∃ V_33, w3.alloc (.cells #[.int .i64 ep2, .slice aw vs2.length cw] 80) = V_33 := ⟨_, rfl⟩
  have bV_33 : Below w3.heap.size w3 V_33 := by rw [← hV_33]; exact (Below.refl _ _).alloc (Nat.le_refl _) _
  have c_34 : V_33.cell? ⟨w3.heap.size, 0, none⟩ = some (.int .i64 ep2) := by rw [← hV_33]; simp [go_sem]
  have c_35 : V_33.cell? ⟨w3.heap.size, 1, none⟩ = some (.slice aw vs2.length cw) := by rw [← hV_33]; simp [go_sem]
  have s_36 : w3.heap.size < V_33.heap.size := by rw [← hV_33]; simp
  have k_37 : w3.heap.size < V_33.heap.size := s_36
  have c_38 := (bV_33.cell (p := ⟨w1.heap.size, 0, none⟩) s_26).trans c_24
  have c_39 := (bV_33.cell (p := ⟨w1.heap.size, 1, none⟩) s_26).trans c_25
  have s_40 : w1.heap.size < V_33.heap.size := Nat.lt_of_lt_of_le s_26 bV_33.size
  have c_41 := (bV_33.cell (p := ⟨w2.heap.size, 0, none⟩) s_29).trans c_27
  have c_42 := (bV_33.cell (p := ⟨w2.heap.size, 1, none⟩) s_29).trans c_28
  have s_43 : w2.heap.size < V_33.heap.size := Nat.lt_of_lt_of_le s_29 bV_33.size
  have H_44 := Lib.hid (H_30.out.below bV_33)
  have H_45 := Lib.hid (H_31.out.below bV_33)
  have H_46 := Lib.hid (HWt.out.below bV_33)
  have HB := Lib.hid (HB.out.trans (bV_33.mono HB.out.size))
  have o_47 : w3.heap.size ≤ V_33.heap.size := bV_33.size
  clear c_24 c_25 s_26 c_27 c_28 s_29
  clear bV_33
  obtain ⟨b0, hok⟩ := pmOk_ex ep vs
  have HOK := Lib.hid hok
  clear hok
  have hcases : (b0 = false ∧ b2 = false) ∨ (b0 = true ∧ b2 = false ∧ ep2 = ep ∧ vs2 = vs) ∨ (b0 = true ∧ b2 = true ∧ PmapOkP ep vs ∧ CanMerge ep vs k ∧ ep2 = ep + 1 ∧ vs2 = vs.take (k.toNat + 1) ++ vs.drop (k.toNat + 2)) := by
    have hio : b0 = true ↔ PmapOkP ep vs := HOK.out
    rcases REL.out with ⟨hn, _, _, e⟩ | ⟨hp, _, e1, e2, e3⟩ | ⟨hp, hc, e1, e2, e3⟩
    · refine .inl ⟨?_, e⟩
      cases b0
      · rfl
      · exact absurd (hio.1 rfl) hn
    · exact .inr (.inl ⟨hio.2 hp, e3, e1, e2⟩)
    · exact .inr (.inr ⟨hio.2 hp, e3, hp, hc, e1, e2⟩)
  clear REL
  rcases hcases with ⟨rfl, rfl⟩ | ⟨rfl, rfl, rfl, rfl⟩ | ⟨rfl, rfl, hp, hc, he, hv⟩
  · skip
    go_wp2_with fail
    clear hV_33
    refine (caPmap_same ep2 _ _ vs2 _ _ _ H_45.out.in1 H_46.out.in1 (by omega)).mono ?_
    rintro e w4 ⟨rfl, hb⟩
    have c_1048 := (hb.cell (p := ⟨w1.heap.size, 0, none⟩) s_40).trans c_38
    have c_1049 := (hb.cell (p := ⟨w1.heap.size, 1, none⟩) s_40).trans c_39
    have s_1050 : w1.heap.size < w4.heap.size := Nat.lt_of_lt_of_le s_40 hb.size
    have c_1051 := (hb.cell (p := ⟨w2.heap.size, 0, none⟩) s_43).trans c_41
    have c_1052 := (hb.cell (p := ⟨w2.heap.size, 1, none⟩) s_43).trans c_42
    have s_1053 : w2.heap.size < w4.heap.size := Nat.lt_of_lt_of_le s_43 hb.size
    have c_1054 := (hb.cell (p := ⟨w3.heap.size, 0, none⟩) s_36).trans c_34
    have c_1055 := (hb.cell (p := ⟨w3.heap.size, 1, none⟩) s_36).trans c_35
    have s_1056 : w3.heap.size < w4.heap.size := Nat.lt_of_lt_of_le s_36 hb.size
    have H_1057 := Lib.hid (H_44.out.below hb)
    have H_1058 := Lib.hid (H_45.out.below hb)
    have H_1059 := Lib.hid (H_46.out.below hb)
    have HB := Lib.hid (HB.out.trans (hb.mono HB.out.size))
    have o_1060 : V_33.heap.size ≤ w4.heap.size := hb.size
    clear c_38 c_39 s_40 c_41 c_42 s_43 c_34 c_35 s_36
    clear hb
    go_wp2_with fail
    refine (pmapOk_bool HOK.out am c _ H_1057.out.inn HF.out (by unfold maxLen; omega)).mono ?_
    rintro e w5 ⟨rfl, hb⟩
    have c_1061 := (hb.cell (p := ⟨w1.heap.size, 0, none⟩) s_1050).trans c_1048
    have c_1062 := (hb.cell (p := ⟨w1.heap.size, 1, none⟩) s_1050).trans c_1049
    have s_1063 : w1.heap.size < w5.heap.size := Nat.lt_of_lt_of_le s_1050 hb.size
    have c_1064 := (hb.cell (p := ⟨w2.heap.size, 0, none⟩) s_1053).trans c_1051
    have c_1065 := (hb.cell (p := ⟨w2.heap.size, 1, none⟩) s_1053).trans c_1052
    have s_1066 : w2.heap.size < w5.heap.size := Nat.lt_of_lt_of_le s_1053 hb.size
    have c_1067 := (hb.cell (p := ⟨w3.heap.size, 0, none⟩) s_1056).trans c_1054
    have c_1068 := (hb.cell (p := ⟨w3.heap.size, 1, none⟩) s_1056).trans c_1055
    have s_1069 : w3.heap.size < w5.heap.size := Nat.lt_of_lt_of_le s_1056 hb.size
    have H_1070 := Lib.hid (H_1057.out.below hb)
    have H_1071 := Lib.hid (H_1058.out.below hb)
    have H_1072 := Lib.hid (H_1059.out.below hb)
    have HB := Lib.hid (HB.out.trans (hb.mono HB.out.size))
    have o_1073 : w4.heap.size ≤ w5.heap.size := hb.size
    clear c_1048 c_1049 s_1050 c_1051 c_1052 s_1053 c_1054 c_1055 s_1056
    clear hb
    go_wp2_with fail
    refine (caPmap_same ep2 _ _ vs2 _ _ _ H_1071.out.in1 H_1072.out.in1 (by omega)).mono ?_
    rintro e w6 ⟨rfl, hb⟩
    have c_1074 := (hb.cell (p := ⟨w1.heap.size, 0, none⟩) s_1063).trans c_1061
    have c_1075 := (hb.cell (p := ⟨w1.heap.size, 1, none⟩) s_1063).trans c_1062
    have s_1076 : w1.heap.size < w6.heap.size := Nat.lt_of_lt_of_le s_1063 hb.size
    have c_1077 := (hb.cell (p := ⟨w2.heap.size, 0, none⟩) s_1066).trans c_1064
    have c_1078 := (hb.cell (p := ⟨w2.heap.size, 1, none⟩) s_1066).trans c_1065
    have s_1079 : w2.heap.size < w6.heap.size := Nat.lt_of_lt_of_le s_1066 hb.size
    have c_1080 := (hb.cell (p := ⟨w3.heap.size, 0, none⟩) s_1069).trans c_1067
    have c_1081 := (hb.cell (p := ⟨w3.heap.size, 1, none⟩) s_1069).trans c_1068
    have s_1082 : w3.heap.size < w6.heap.size := Nat.lt_of_lt_of_le s_1069 hb.size
    have H_1083 := Lib.hid (H_1070.out.below hb)
    have H_1084 := Lib.hid (H_1071.out.below hb)
    have H_1085 := Lib.hid (H_1072.out.below hb)
    have HB := Lib.hid (HB.out.trans (hb.mono HB.out.size))
    have o_1086 : w5.heap.size ≤ w6.heap.size := hb.size
    clear c_1061 c_1062 s_1063 c_1064 c_1065 s_1066 c_1067 c_1068 s_1069
    clear hb
    go_wp2_with fail
    go_ret
    exact ⟨rfl, HB.out⟩
  · skip
    go_wp2_with fail
    clear hV_33
    refine (caPmap_same ep2 _ _ vs2 _ _ _ H_45.out.in1 H_46.out.in1 (by omega)).mono ?_
    rintro e w4 ⟨rfl, hb⟩
    have c_1048 := (hb.cell (p := ⟨w1.heap.size, 0, none⟩) s_40).trans c_38
    have c_1049 := (hb.cell (p := ⟨w1.heap.size, 1, none⟩) s_40).trans c_39
    have s_1050 : w1.heap.size < w4.heap.size := Nat.lt_of_lt_of_le s_40 hb.size
    have c_1051 := (hb.cell (p := ⟨w2.heap.size, 0, none⟩) s_43).trans c_41
    have c_1052 := (hb.cell (p := ⟨w2.heap.size, 1, none⟩) s_43).trans c_42
    have s_1053 : w2.heap.size < w4.heap.size := Nat.lt_of_lt_of_le s_43 hb.size
    have c_1054 := (hb.cell (p := ⟨w3.heap.size, 0, none⟩) s_36).trans c_34
    have c_1055 := (hb.cell (p := ⟨w3.heap.size, 1, none⟩) s_36).trans c_35
    have s_1056 : w3.heap.size < w4.heap.size := Nat.lt_of_lt_of_le s_36 hb.size
    have H_1057 := Lib.hid (H_44.out.below hb)
    have H_1058 := Lib.hid (H_45.out.below hb)
    have H_1059 := Lib.hid (H_46.out.below hb)
    have HB := Lib.hid (HB.out.trans (hb.mono HB.out.size))
    have o_1060 : V_33.heap.size ≤ w4.heap.size := hb.size
    clear c_38 c_39 s_40 c_41 c_42 s_43 c_34 c_35 s_36
    clear hb
    go_wp2_with fail
    refine (pmapOk_bool HOK.out am c _ H_1057.out.inn HF.out (by unfold maxLen; omega)).mono ?_
    rintro e w5 ⟨rfl, hb⟩
    have c_1061 := (hb.cell (p := ⟨w1.heap.size, 0, none⟩) s_1050).trans c_1048
    have c_1062 := (hb.cell (p := ⟨w1.heap.size, 1, none⟩) s_1050).trans c_1049
    have s_1063 : w1.heap.size < w5.heap.size := Nat.lt_of_lt_of_le s_1050 hb.size
    have c_1064 := (hb.cell (p := ⟨w2.heap.size, 0, none⟩) s_1053).trans c_1051
    have c_1065 := (hb.cell (p := ⟨w2.heap.size, 1, none⟩) s_1053).trans c_1052
    have s_1066 : w2.heap.size < w5.heap.size := Nat.lt_of_lt_of_le s_1053 hb.size
    have c_1067 := (hb.cell (p := ⟨w3.heap.size, 0, none⟩) s_1056).trans c_1054
    have c_1068 := (hb.cell (p := ⟨w3.heap.size, 1, none⟩) s_1056).trans c_1055
    have s_1069 : w3.heap.size < w5.heap.size := Nat.lt_of_lt_of_le s_1056 hb.size
    have H_1070 := Lib.hid (H_1057.out.below hb)
    have H_1071 := Lib.hid (H_1058.out.below hb)
    have H_1072 := Lib.hid (H_1059.out.below hb)
    have HB := Lib.hid (HB.out.trans (hb.mono HB.out.size))
    have o_1073 : w4.heap.size ≤ w5.heap.size := hb.size
    clear c_1048 c_1049 s_1050 c_1051 c_1052 s_1053 c_1054 c_1055 s_1056
    clear hb
    go_wp2_with fail
    refine (caPmap_same ep2 _ _ vs2 _ _ _ H_1071.out.in1 H_1070.out.inn (by omega)).mono ?_
    rintro e w6 ⟨rfl, hb⟩
    have c_1074 := (hb.cell (p := ⟨w1.heap.size, 0, none⟩) s_1063).trans c_1061
    have c_1075 := (hb.cell (p := ⟨w1.heap.size, 1, none⟩) s_1063).trans c_1062
    have s_1076 : w1.heap.size < w6.heap.size := Nat.lt_of_lt_of_le s_1063 hb.size
    have c_1077 := (hb.cell (p := ⟨w2.heap.size, 0, none⟩) s_1066).trans c_1064
    have c_1078 := (hb.cell (p := ⟨w2.heap.size, 1, none⟩) s_1066).trans c_1065
    have s_1079 : w2.heap.size < w6.heap.size := Nat.lt_of_lt_of_le s_1066 hb.size
    have c_1080 := (hb.cell (p := ⟨w3.heap.size, 0, none⟩) s_1069).trans c_1067
    have c_1081 := (hb.cell (p := ⟨w3.heap.size, 1, none⟩) s_1069).trans c_1068
    have s_1082 : w3.heap.size < w6.heap.size := Nat.lt_of_lt_of_le s_1069 hb.size
    have H_1083 := Lib.hid (H_1070.out.below hb)
    have H_1084 := Lib.hid (H_1071.out.below hb)
    have H_1085 := Lib.hid (H_1072.out.below hb)
    have HB := Lib.hid (HB.out.trans (hb.mono HB.out.size))
    have o_1086 : w5.heap.size ≤ w6.heap.size := hb.size
    clear c_1061 c_1062 s_1063 c_1064 c_1065 s_1066 c_1067 c_1068 s_1069
    clear hb
    go_wp2_with fail
    go_ret
    exact ⟨rfl, HB.out⟩
  · obtain ⟨j, rfl⟩ := Int.eq_ofNat_of_zero_le hc.1
    have hj1 : j + 1 < vs.length := by have := hc.2.1; omega
    have he9 := hc.2.2
    have he1 := ((inB_iff _ _ _).1 hp.2.2).1
    rw [Int.toNat_natCast] at hv
    have hp2 : PmapOkP ep2 vs2 := by rw [he, hv]; exact pmapOk_merge hp hj1 he9
    have hlen : vs2.length + 1 = vs.length := by rw [hv]; exact merge_len hj1
    have hlo2 : loOf vs2 j = loOf vs j := by rw [hv]; exact merge_lo hj1
    have hhi2 : hiOf vs2 j = hiOf vs (j + 1) := by rw [hv]; exact merge_hi hj1
    have hsz : ∀ i, (loOf vs i).size ≤ maxLen ∧ (hiOf vs i).size ≤ maxLen := pm_sizes HF.out
    have d1 : ((vs2.length : Int) == (vs.length : Int) - 1) = true := by rw [beq_iff_eq]; omega
    have d2 : (ep2 == ep + 1) = true := by rw [beq_iff_eq]; exact he
    obtain ⟨la, hla⟩ : ∃ x, x = loOf vs j := ⟨_, rfl⟩
    obtain ⟨ha, hha⟩ : ∃ x, x = hiOf vs j := ⟨_, rfl⟩
    obtain ⟨lb, hlb⟩ : ∃ x, x = loOf vs (j + 1) := ⟨_, rfl⟩
    obtain ⟨hb_, hhb⟩ : ∃ x, x = hiOf vs (j + 1) := ⟨_, rfl⟩
    have hjn := pm_join hp hj1
    rw [← hla, ← hha, ← hlb, ← hhb] at hjn
    rw [← hla] at hlo2
    rw [← hhb] at hhi2
    have X := Lib.hid (And.intro hp (And.intro hp2 (And.intro hla (And.intro hha (And.intro hlb (And.intro hhb (And.intro hjn (And.intro hlo2 (And.intro hhi2 hsz)))))))))
    have HX2 := Lib.hid (show OkIs true ep2 vs2 from ⟨fun _ => hp2, fun _ => rfl⟩)
    have HF2 := Lib.hid (pmapOk_fits hp2)
    have D1 := Lib.hid d1
    have D2 := Lib.hid d2
    have hl2 : vs2.length ≤ 5 := by omega
    have hj2 : j < vs2.length := by omega
    clear hp hp2 hc he hv hlen hla hha hlb hhb hjn hlo2 hhi2 hsz d1 d2
    go_wp2_with fail
    clear hV_33
    refine (caPmap_same ep2 _ _ vs2 _ _ _ H_45.out.in1 H_46.out.in1 (by omega)).mono ?_
    rintro e w4 ⟨rfl, hb⟩
    have c_1048 := (hb.cell (p := ⟨w1.heap.size, 0, none⟩) s_40).trans c_38
    have c_1049 := (hb.cell (p := ⟨w1.heap.size, 1, none⟩) s_40).trans c_39
    have s_1050 : w1.heap.size < w4.heap.size := Nat.lt_of_lt_of_le s_40 hb.size
    have c_1051 := (hb.cell (p := ⟨w2.heap.size, 0, none⟩) s_43).trans c_41
    have c_1052 := (hb.cell (p := ⟨w2.heap.size, 1, none⟩) s_43).trans c_42
    have s_1053 : w2.heap.size < w4.heap.size := Nat.lt_of_lt_of_le s_43 hb.size
    have c_1054 := (hb.cell (p := ⟨w3.heap.size, 0, none⟩) s_36).trans c_34
    have c_1055 := (hb.cell (p := ⟨w3.heap.size, 1, none⟩) s_36).trans c_35
    have s_1056 : w3.heap.size < w4.heap.size := Nat.lt_of_lt_of_le s_36 hb.size
    have H_1057 := Lib.hid (H_44.out.below hb)
    have H_1058 := Lib.hid (H_45.out.below hb)
    have H_1059 := Lib.hid (H_46.out.below hb)
    have HB := Lib.hid (HB.out.trans (hb.mono HB.out.size))
    have o_1060 : V_33.heap.size ≤ w4.heap.size := hb.size
    clear c_38 c_39 s_40 c_41 c_42 s_43 c_34 c_35 s_36
    clear hb
    go_wp2_with fail
    refine (pmapOk_bool HOK.out am c _ H_1057.out.inn HF.out (by unfold maxLen; omega)).mono ?_
    rintro e w5 ⟨rfl, hb⟩
    have c_1061 := (hb.cell (p := ⟨w1.heap.size, 0, none⟩) s_1050).trans c_1048
    have c_1062 := (hb.cell (p := ⟨w1.heap.size, 1, none⟩) s_1050).trans c_1049
    have s_1063 : w1.heap.size < w5.heap.size := Nat.lt_of_lt_of_le s_1050 hb.size
    have c_1064 := (hb.cell (p := ⟨w2.heap.size, 0, none⟩) s_1053).trans c_1051
    have c_1065 := (hb.cell (p := ⟨w2.heap.size, 1, none⟩) s_1053).trans c_1052
    have s_1066 : w2.heap.size < w5.heap.size := Nat.lt_of_lt_of_le s_1053 hb.size
    have c_1067 := (hb.cell (p := ⟨w3.heap.size, 0, none⟩) s_1056).trans c_1054
    have c_1068 := (hb.cell (p := ⟨w3.heap.size, 1, none⟩) s_1056).trans c_1055
    have s_1069 : w3.heap.size < w5.heap.size := Nat.lt_of_lt_of_le s_1056 hb.size
    have H_1070 := Lib.hid (H_1057.out.below hb)
    have H_1071 := Lib.hid (H_1058.out.below hb)
    have H_1072 := Lib.hid (H_1059.out.below hb)
    have HB := Lib.hid (HB.out.trans (hb.mono HB.out.size))
    have o_1073 : w4.heap.size ≤ w5.heap.size := hb.size
    clear c_1048 c_1049 s_1050 c_1051 c_1052 s_1053 c_1054 c_1055 s_1056
    clear hb
    go_wp2_with fail
    refine (pmapSpan_any ep am vs c (j : Int) _ H_1070.out.inn HF.out (by omega)).mono ?_
    rintro e w6 ⟨bs, hk, rfl, hb⟩
    obtain rfl : bs = true := hk.2 ⟨X.out.1, by omega, by omega⟩
    clear hk
    rw [if_pos rfl, if_pos rfl, show ((j : Int)).toNat = j by omega, ← X.out.2.2.1, ← X.out.2.2.2.1]
    have c_1074 := (hb.cell (p := ⟨w1.heap.size, 0, none⟩) s_1063).trans c_1061
    have c_1075 := (hb.cell (p := ⟨w1.heap.size, 1, none⟩) s_1063).trans c_1062
    have s_1076 : w1.heap.size < w6.heap.size := Nat.lt_of_lt_of_le s_1063 hb.size
    have c_1077 := (hb.cell (p := ⟨w2.heap.size, 0, none⟩) s_1066).trans c_1064
    have c_1078 := (hb.cell (p := ⟨w2.heap.size, 1, none⟩) s_1066).trans c_1065
    have s_1079 : w2.heap.size < w6.heap.size := Nat.lt_of_lt_of_le s_1066 hb.size
    have c_1080 := (hb.cell (p := ⟨w3.heap.size, 0, none⟩) s_1069).trans c_1067
    have c_1081 := (hb.cell (p := ⟨w3.heap.size, 1, none⟩) s_1069).trans c_1068
    have s_1082 : w3.heap.size < w6.heap.size := Nat.lt_of_lt_of_le s_1069 hb.size
    have H_1083 := Lib.hid (H_1070.out.below hb)
    have H_1084 := Lib.hid (H_1071.out.below hb)
    have H_1085 := Lib.hid (H_1072.out.below hb)
    have HB := Lib.hid (HB.out.trans (hb.mono HB.out.size))
    have o_1086 : w5.heap.size ≤ w6.heap.size := hb.size
    clear c_1061 c_1062 s_1063 c_1064 c_1065 s_1066 c_1067 c_1068 s_1069
    clear hb
    obtain ⟨V_1087, hV_1087⟩ : ∃ V_1087, w6.alloc (.cells #[.string la, .string ha] 84) = V_1087 := ⟨_, rfl⟩
    have bV_1087 : Below w6.heap.size w6 V_1087 := by rw [← hV_1087]; exact (Below.refl _ _).alloc (Nat.le_refl _) _
    have c_1088 : V_1087.cell? ⟨w6.heap.size, 0, none⟩ = some (.string la) := by rw [← hV_1087]; simp [go_sem]
    have c_1089 : V_1087.cell? ⟨w6.heap.size, 1, none⟩ = some (.string ha) := by rw [← hV_1087]; simp [go_sem]
    have s_1090 : w6.heap.size < V_1087.heap.size := by rw [← hV_1087]; simp
    have k_1091 : w6.heap.size < V_1087.heap.size := s_1090
    have c_1092 := (bV_1087.cell (p := ⟨w1.heap.size, 0, none⟩) s_1076).trans c_1074
    have c_1093 := (bV_1087.cell (p := ⟨w1.heap.size, 1, none⟩) s_1076).trans c_1075
    have s_1094 : w1.heap.size < V_1087.heap.size := Nat.lt_of_lt_of_le s_1076 bV_1087.size
    have c_1095 := (bV_1087.cell (p := ⟨w2.heap.size, 0, none⟩) s_1079).trans c_1077
    have c_1096 := (bV_1087.cell (p := ⟨w2.heap.size, 1, none⟩) s_1079).trans c_1078
    have s_1097 : w2.heap.size < V_1087.heap.size := Nat.lt_of_lt_of_le s_1079 bV_1087.size
    have c_1098 := (bV_1087.cell (p := ⟨w3.heap.size, 0, none⟩) s_1082).trans c_1080
    have c_1099 := (bV_1087.cell (p := ⟨w3.heap.size, 1, none⟩) s_1082).trans c_1081
    have s_1100 : w3.heap.size < V_1087.heap.size := Nat.lt_of_lt_of_le s_1082 bV_1087.size
    have H_1101 := Lib.hid (H_1083.out.below bV_1087)
    have H_1102 := Lib.hid (H_1084.out.below bV_1087)
    have H_1103 := Lib.hid (H_1085.out.below bV_1087)
    have HB := Lib.hid (HB.out.trans (bV_1087.mono HB.out.size))
    have o_1104 : w6.heap.size ≤ V_1087.heap.size := bV_1087.size
    clear c_1074 c_1075 s_1076 c_1077 c_1078 s_1079 c_1080 c_1081 s_1082
    clear bV_1087
    go_wp2_with fail
    clear hV_1087
    refine (pmapSpan_any ep am vs c ((j : Int) + 1) _ H_1101.out.inn HF.out (by omega)).mono ?_
    rintro e w7 ⟨bs, hk, rfl, hb⟩
    obtain rfl : bs = true := hk.2 ⟨X.out.1, by omega, by omega⟩
    clear hk
    rw [if_pos rfl, if_pos rfl, show (((j : Int) + 1)).toNat = j + 1 by omega, ← X.out.2.2.2.2.1, ← X.out.2.2.2.2.2.1]
    have c_1105 := (hb.cell (p := ⟨w1.heap.size, 0, none⟩) s_1094).trans c_1092
    have c_1106 := (hb.cell (p := ⟨w1.heap.size, 1, none⟩) s_1094).trans c_1093
    have s_1107 : w1.heap.size < w7.heap.size := Nat.lt_of_lt_of_le s_1094 hb.size
    have c_1108 := (hb.cell (p := ⟨w2.heap.size, 0, none⟩) s_1097).trans c_1095
    have c_1109 := (hb.cell (p := ⟨w2.heap.size, 1, none⟩) s_1097).trans c_1096
    have s_1110 : w2.heap.size < w7.heap.size := Nat.lt_of_lt_of_le s_1097 hb.size
    have c_1111 := (hb.cell (p := ⟨w3.heap.size, 0, none⟩) s_1100).trans c_1098
    have c_1112 := (hb.cell (p := ⟨w3.heap.size, 1, none⟩) s_1100).trans c_1099
    have s_1113 : w3.heap.size < w7.heap.size := Nat.lt_of_lt_of_le s_1100 hb.size
    have c_1114 := (hb.cell (p := ⟨w6.heap.size, 0, none⟩) s_1090).trans c_1088
    have c_1115 := (hb.cell (p := ⟨w6.heap.size, 1, none⟩) s_1090).trans c_1089
    have s_1116 : w6.heap.size < w7.heap.size := Nat.lt_of_lt_of_le s_1090 hb.size
    have H_1117 := Lib.hid (H_1101.out.below hb)
    have H_1118 := Lib.hid (H_1102.out.below hb)
    have H_1119 := Lib.hid (H_1103.out.below hb)
    have HB := Lib.hid (HB.out.trans (hb.mono HB.out.size))
    have o_1120 : V_1087.heap.size ≤ w7.heap.size := hb.size
    clear c_1092 c_1093 s_1094 c_1095 c_1096 s_1097 c_1098 c_1099 s_1100 c_1088 c_1089 s_1090
    clear hb
    obtain ⟨V_1121, hV_1121⟩ : ∃ V_1121, w7.alloc (.cells #[.string lb, .string hb_] 84) = V_1121 := ⟨_, rfl⟩
    have bV_1121 : Below w7.heap.size w7 V_1121 := by rw [← hV_1121]; exact (Below.refl _ _).alloc (Nat.le_refl _) _
    have c_1122 : V_1121.cell? ⟨w7.heap.size, 0, none⟩ = some (.string lb) := by rw [← hV_1121]; simp [go_sem]
    have c_1123 : V_1121.cell? ⟨w7.heap.size, 1, none⟩ = some (.string hb_) := by rw [← hV_1121]; simp [go_sem]
    have s_1124 : w7.heap.size < V_1121.heap.size := by rw [← hV_1121]; simp
    have k_1125 : w7.heap.size < V_1121.heap.size := s_1124
    have c_1126 := (bV_1121.cell (p := ⟨w1.heap.size, 0, none⟩) s_1107).trans c_1105
    have c_1127 := (bV_1121.cell (p := ⟨w1.heap.size, 1, none⟩) s_1107).trans c_1106
    have s_1128 : w1.heap.size < V_1121.heap.size := Nat.lt_of_lt_of_le s_1107 bV_1121.size
    have c_1129 := (bV_1121.cell (p := ⟨w2.heap.size, 0, none⟩) s_1110).trans c_1108
    have c_1130 := (bV_1121.cell (p := ⟨w2.heap.size, 1, none⟩) s_1110).trans c_1109
    have s_1131 : w2.heap.size < V_1121.heap.size := Nat.lt_of_lt_of_le s_1110 bV_1121.size
    have c_1132 := (bV_1121.cell (p := ⟨w3.heap.size, 0, none⟩) s_1113).trans c_1111
    have c_1133 := (bV_1121.cell (p := ⟨w3.heap.size, 1, none⟩) s_1113).trans c_1112
    have s_1134 : w3.heap.size < V_1121.heap.size := Nat.lt_of_lt_of_le s_1113 bV_1121.size
    have c_1135 := (bV_1121.cell (p := ⟨w6.heap.size, 0, none⟩) s_1116).trans c_1114
    have c_1136 := (bV_1121.cell (p := ⟨w6.heap.size, 1, none⟩) s_1116).trans c_1115
    have s_1137 : w6.heap.size < V_1121.heap.size := Nat.lt_of_lt_of_le s_1116 bV_1121.size
    have H_1138 := Lib.hid (H_1117.out.below bV_1121)
    have H_1139 := Lib.hid (H_1118.out.below bV_1121)
    have H_1140 := Lib.hid (H_1119.out.below bV_1121)
    have HB := Lib.hid (HB.out.trans (bV_1121.mono HB.out.size))
    have o_1141 : w7.heap.size ≤ V_1121.heap.size := bV_1121.size
    clear c_1105 c_1106 s_1107 c_1108 c_1109 s_1110 c_1111 c_1112 s_1113 c_1114 c_1115 s_1116
    clear bV_1121
    go_wp2_with fail
    clear hV_1121
    refine (pmapSpan_any ep2 ax vs2 cx (j : Int) _ H_1139.out.in1 HF2.out (by omega)).mono ?_
    rintro e w8 ⟨bs, hk, rfl, hb⟩
    obtain rfl : bs = true := hk.2 ⟨X.out.2.1, by omega, by omega⟩
    clear hk
    rw [if_pos rfl, if_pos rfl, show ((j : Int)).toNat = j by omega, X.out.2.2.2.2.2.2.2.1, X.out.2.2.2.2.2.2.2.2.1]
    have c_1142 := (hb.cell (p := ⟨w1.heap.size, 0, none⟩) s_1128).trans c_1126
    have c_1143 := (hb.cell (p := ⟨w1.heap.size, 1, none⟩) s_1128).trans c_1127
    have s_1144 : w1.heap.size < w8.heap.size := Nat.lt_of_lt_of_le s_1128 hb.size
    have c_1145 := (hb.cell (p := ⟨w2.heap.size, 0, none⟩) s_1131).trans c_1129
    have c_1146 := (hb.cell (p := ⟨w2.heap.size, 1, none⟩) s_1131).trans c_1130
    have s_1147 : w2.heap.size < w8.heap.size := Nat.lt_of_lt_of_le s_1131 hb.size
    have c_1148 := (hb.cell (p := ⟨w3.heap.size, 0, none⟩) s_1134).trans c_1132
    have c_1149 := (hb.cell (p := ⟨w3.heap.size, 1, none⟩) s_1134).trans c_1133
    have s_1150 : w3.heap.size < w8.heap.size := Nat.lt_of_lt_of_le s_1134 hb.size
    have c_1151 := (hb.cell (p := ⟨w6.heap.size, 0, none⟩) s_1137).trans c_1135
    have c_1152 := (hb.cell (p := ⟨w6.heap.size, 1, none⟩) s_1137).trans c_1136
    have s_1153 : w6.heap.size < w8.heap.size := Nat.lt_of_lt_of_le s_1137 hb.size
    have c_1154 := (hb.cell (p := ⟨w7.heap.size, 0, none⟩) s_1124).trans c_1122
    have c_1155 := (hb.cell (p := ⟨w7.heap.size, 1, none⟩) s_1124).trans c_1123
    have s_1156 : w7.heap.size < w8.heap.size := Nat.lt_of_lt_of_le s_1124 hb.size
    have H_1157 := Lib.hid (H_1138.out.below hb)
    have H_1158 := Lib.hid (H_1139.out.below hb)
    have H_1159 := Lib.hid (H_1140.out.below hb)
    have HB := Lib.hid (HB.out.trans (hb.mono HB.out.size))
    have o_1160 : V_1121.heap.size ≤ w8.heap.size := hb.size
    clear c_1126 c_1127 s_1128 c_1129 c_1130 s_1131 c_1132 c_1133 s_1134 c_1135 c_1136 s_1137 c_1122 c_1123 s_1124
    clear hb
    obtain ⟨V_1161, hV_1161⟩ : ∃ V_1161, w8.alloc (.cells #[.string la, .string hb_] 84) = V_1161 := ⟨_, rfl⟩
    have bV_1161 : Below w8.heap.size w8 V_1161 := by rw [← hV_1161]; exact (Below.refl _ _).alloc (Nat.le_refl _) _
    have c_1162 : V_1161.cell? ⟨w8.heap.size, 0, none⟩ = some (.string la) := by rw [← hV_1161]; simp [go_sem]
    have c_1163 : V_1161.cell? ⟨w8.heap.size, 1, none⟩ = some (.string hb_) := by rw [← hV_1161]; simp [go_sem]
    have s_1164 : w8.heap.size < V_1161.heap.size := by rw [← hV_1161]; simp
    have k_1165 : w8.heap.size < V_1161.heap.size := s_1164
    have c_1166 := (bV_1161.cell (p := ⟨w1.heap.size, 0, none⟩) s_1144).trans c_1142
    have c_1167 := (bV_1161.cell (p := ⟨w1.heap.size, 1, none⟩) s_1144).trans c_1143
    have s_1168 : w1.heap.size < V_1161.heap.size := Nat.lt_of_lt_of_le s_1144 bV_1161.size
    have c_1169 := (bV_1161.cell (p := ⟨w2.heap.size, 0, none⟩) s_1147).trans c_1145
    have c_1170 := (bV_1161.cell (p := ⟨w2.heap.size, 1, none⟩) s_1147).trans c_1146
    have s_1171 : w2.heap.size < V_1161.heap.size := Nat.lt_of_lt_of_le s_1147 bV_1161.size
    have c_1172 := (bV_1161.cell (p := ⟨w3.heap.size, 0, none⟩) s_1150).trans c_1148
    have c_1173 := (bV_1161.cell (p := ⟨w3.heap.size, 1, none⟩) s_1150).trans c_1149
    have s_1174 : w3.heap.size < V_1161.heap.size := Nat.lt_of_lt_of_le s_1150 bV_1161.size
    have c_1175 := (bV_1161.cell (p := ⟨w6.heap.size, 0, none⟩) s_1153).trans c_1151
    have c_1176 := (bV_1161.cell (p := ⟨w6.heap.size, 1, none⟩) s_1153).trans c_1152
    have s_1177 : w6.heap.size < V_1161.heap.size := Nat.lt_of_lt_of_le s_1153 bV_1161.size
    have c_1178 := (bV_1161.cell (p := ⟨w7.heap.size, 0, none⟩) s_1156).trans c_1154
    have c_1179 := (bV_1161.cell (p := ⟨w7.heap.size, 1, none⟩) s_1156).trans c_1155
    have s_1180 : w7.heap.size < V_1161.heap.size := Nat.lt_of_lt_of_le s_1156 bV_1161.size
    have H_1181 := Lib.hid (H_1157.out.below bV_1161)
    have H_1182 := Lib.hid (H_1158.out.below bV_1161)
    have H_1183 := Lib.hid (H_1159.out.below bV_1161)
    have HB := Lib.hid (HB.out.trans (bV_1161.mono HB.out.size))
    have o_1184 : w8.heap.size ≤ V_1161.heap.size := bV_1161.size
    clear c_1142 c_1143 s_1144 c_1145 c_1146 s_1147 c_1148 c_1149 s_1150 c_1151 c_1152 s_1153 c_1154 c_1155 s_1156
    clear bV_1161
    go_wp2_with fail
    clear hV_1161
    have hs9 := X.out.2.2.2.2.2.2.2.2.2
    have S9 := Lib.hid (show la.size ≤ maxLen ∧ ha.size ≤ maxLen ∧ lb.size ≤ maxLen ∧ hb_.size ≤ maxLen from ⟨by rw [X.out.2.2.1]; exact (hs9 _).1, by rw [X.out.2.2.2.1]; exact (hs9 _).2, by rw [X.out.2.2.2.2.1]; exact (hs9 _).1, by rw [X.out.2.2.2.2.2.1]; exact (hs9 _).2⟩)
    clear hs9
    refine (join_yes la ha lb hb_ _ S9.out.1 S9.out.2.1 S9.out.2.2.1 S9.out.2.2.2 X.out.2.2.2.2.2.2.1).mono ?_
    rintro e w9 ⟨rfl, hb⟩
    have c_1185 := (hb.cell (p := ⟨w1.heap.size, 0, none⟩) s_1168).trans c_1166
    have c_1186 := (hb.cell (p := ⟨w1.heap.size, 1, none⟩) s_1168).trans c_1167
    have s_1187 : w1.heap.size < w9.heap.size := Nat.lt_of_lt_of_le s_1168 hb.size
    have c_1188 := (hb.cell (p := ⟨w2.heap.size, 0, none⟩) s_1171).trans c_1169
    have c_1189 := (hb.cell (p := ⟨w2.heap.size, 1, none⟩) s_1171).trans c_1170
    have s_1190 : w2.heap.size < w9.heap.size := Nat.lt_of_lt_of_le s_1171 hb.size
    have c_1191 := (hb.cell (p := ⟨w3.heap.size, 0, none⟩) s_1174).trans c_1172
    have c_1192 := (hb.cell (p := ⟨w3.heap.size, 1, none⟩) s_1174).trans c_1173
    have s_1193 : w3.heap.size < w9.heap.size := Nat.lt_of_lt_of_le s_1174 hb.size
    have c_1194 := (hb.cell (p := ⟨w6.heap.size, 0, none⟩) s_1177).trans c_1175
    have c_1195 := (hb.cell (p := ⟨w6.heap.size, 1, none⟩) s_1177).trans c_1176
    have s_1196 : w6.heap.size < w9.heap.size := Nat.lt_of_lt_of_le s_1177 hb.size
    have c_1197 := (hb.cell (p := ⟨w7.heap.size, 0, none⟩) s_1180).trans c_1178
    have c_1198 := (hb.cell (p := ⟨w7.heap.size, 1, none⟩) s_1180).trans c_1179
    have s_1199 : w7.heap.size < w9.heap.size := Nat.lt_of_lt_of_le s_1180 hb.size
    have c_1200 := (hb.cell (p := ⟨w8.heap.size, 0, none⟩) s_1164).trans c_1162
    have c_1201 := (hb.cell (p := ⟨w8.heap.size, 1, none⟩) s_1164).trans c_1163
    have s_1202 : w8.heap.size < w9.heap.size := Nat.lt_of_lt_of_le s_1164 hb.size
    have H_1203 := Lib.hid (H_1181.out.below hb)
    have H_1204 := Lib.hid (H_1182.out.below hb)
    have H_1205 := Lib.hid (H_1183.out.below hb)
    have HB := Lib.hid (HB.out.trans (hb.mono HB.out.size))
    have o_1206 : V_1161.heap.size ≤ w9.heap.size := hb.size
    clear c_1166 c_1167 s_1168 c_1169 c_1170 s_1171 c_1172 c_1173 s_1174 c_1175 c_1176 s_1177 c_1178 c_1179 s_1180 c_1162 c_1163 s_1164
    clear hb
    obtain ⟨V_1207, hV_1207⟩ : ∃ V_1207, w9.alloc (.cells #[.string la, .string hb_] 84) = V_1207 := ⟨_, rfl⟩
    have bV_1207 : Below w9.heap.size w9 V_1207 := by rw [← hV_1207]; exact (Below.refl _ _).alloc (Nat.le_refl _) _
    have c_1208 : V_1207.cell? ⟨w9.heap.size, 0, none⟩ = some (.string la) := by rw [← hV_1207]; simp [go_sem]
    have c_1209 : V_1207.cell? ⟨w9.heap.size, 1, none⟩ = some (.string hb_) := by rw [← hV_1207]; simp [go_sem]
    have s_1210 : w9.heap.size < V_1207.heap.size := by rw [← hV_1207]; simp
    have k_1211 : w9.heap.size < V_1207.heap.size := s_1210
    have c_1212 := (bV_1207.cell (p := ⟨w1.heap.size, 0, none⟩) s_1187).trans c_1185
    have c_1213 := (bV_1207.cell (p := ⟨w1.heap.size, 1, none⟩) s_1187).trans c_1186
    have s_1214 : w1.heap.size < V_1207.heap.size := Nat.lt_of_lt_of_le s_1187 bV_1207.size
    have c_1215 := (bV_1207.cell (p := ⟨w2.heap.size, 0, none⟩) s_1190).trans c_1188
    have c_1216 := (bV_1207.cell (p := ⟨w2.heap.size, 1, none⟩) s_1190).trans c_1189
    have s_1217 : w2.heap.size < V_1207.heap.size := Nat.lt_of_lt_of_le s_1190 bV_1207.size
    have c_1218 := (bV_1207.cell (p := ⟨w3.heap.size, 0, none⟩) s_1193).trans c_1191
    have c_1219 := (bV_1207.cell (p := ⟨w3.heap.size, 1, none⟩) s_1193).trans c_1192
    have s_1220 : w3.heap.size < V_1207.heap.size := Nat.lt_of_lt_of_le s_1193 bV_1207.size
    have c_1221 := (bV_1207.cell (p := ⟨w6.heap.size, 0, none⟩) s_1196).trans c_1194
    have c_1222 := (bV_1207.cell (p := ⟨w6.heap.size, 1, none⟩) s_1196).trans c_1195
    have s_1223 : w6.heap.size < V_1207.heap.size := Nat.lt_of_lt_of_le s_1196 bV_1207.size
    have c_1224 := (bV_1207.cell (p := ⟨w7.heap.size, 0, none⟩) s_1199).trans c_1197
    have c_1225 := (bV_1207.cell (p := ⟨w7.heap.size, 1, none⟩) s_1199).trans c_1198
    have s_1226 : w7.heap.size < V_1207.heap.size := Nat.lt_of_lt_of_le s_1199 bV_1207.size
    have c_1227 := (bV_1207.cell (p := ⟨w8.heap.size, 0, none⟩) s_1202).trans c_1200
    have c_1228 := (bV_1207.cell (p := ⟨w8.heap.size, 1, none⟩) s_1202).trans c_1201
    have s_1229 : w8.heap.size < V_1207.heap.size := Nat.lt_of_lt_of_le s_1202 bV_1207.size
    have H_1230 := Lib.hid (H_1203.out.below bV_1207)
    have H_1231 := Lib.hid (H_1204.out.below bV_1207)
    have H_1232 := Lib.hid (H_1205.out.below bV_1207)
    have HB := Lib.hid (HB.out.trans (bV_1207.mono HB.out.size))
    have o_1233 : w9.heap.size ≤ V_1207.heap.size := bV_1207.size
    clear c_1185 c_1186 s_1187 c_1188 c_1189 s_1190 c_1191 c_1192 s_1193 c_1194 c_1195 s_1196 c_1197 c_1198 s_1199 c_1200 c_1201 s_1202
    clear bV_1207
    go_wp2_with fail
    clear hV_1207
    refine (pmapOk_bool HX2.out ax cx _ H_1231.out.in1 HF2.out (by unfold maxLen; omega)).mono ?_
    rintro e w10 ⟨rfl, hb⟩
    have c_1234 := (hb.cell (p := ⟨w1.heap.size, 0, none⟩) s_1214).trans c_1212
    have c_1235 := (hb.cell (p := ⟨w1.heap.size, 1, none⟩) s_1214).trans c_1213
    have s_1236 : w1.heap.size < w10.heap.size := Nat.lt_of_lt_of_le s_1214 hb.size
    have c_1237 := (hb.cell (p := ⟨w2.heap.size, 0, none⟩) s_1217).trans c_1215
    have c_1238 := (hb.cell (p := ⟨w2.heap.size, 1, none⟩) s_1217).trans c_1216
    have s_1239 : w2.heap.size < w10.heap.size := Nat.lt_of_lt_of_le s_1217 hb.size
    have c_1240 := (hb.cell (p := ⟨w3.heap.size, 0, none⟩) s_1220).trans c_1218
    have c_1241 := (hb.cell (p := ⟨w3.heap.size, 1, none⟩) s_1220).trans c_1219
    have s_1242 : w3.heap.size < w10.heap.size := Nat.lt_of_lt_of_le s_1220 hb.size
    have c_1243 := (hb.cell (p := ⟨w6.heap.size, 0, none⟩) s_1223).trans c_1221
    have c_1244 := (hb.cell (p := ⟨w6.heap.size, 1, none⟩) s_1223).trans c_1222
    have s_1245 : w6.heap.size < w10.heap.size := Nat.lt_of_lt_of_le s_1223 hb.size
    have c_1246 := (hb.cell (p := ⟨w7.heap.size, 0, none⟩) s_1226).trans c_1224
    have c_1247 := (hb.cell (p := ⟨w7.heap.size, 1, none⟩) s_1226).trans c_1225
    have s_1248 : w7.heap.size < w10.heap.size := Nat.lt_of_lt_of_le s_1226 hb.size
    have c_1249 := (hb.cell (p := ⟨w8.heap.size, 0, none⟩) s_1229).trans c_1227
    have c_1250 := (hb.cell (p := ⟨w8.heap.size, 1, none⟩) s_1229).trans c_1228
    have s_1251 : w8.heap.size < w10.heap.size := Nat.lt_of_lt_of_le s_1229 hb.size
    have c_1252 := (hb.cell (p := ⟨w9.heap.size, 0, none⟩) s_1210).trans c_1208
    have c_1253 := (hb.cell (p := ⟨w9.heap.size, 1, none⟩) s_1210).trans c_1209
    have s_1254 : w9.heap.size < w10.heap.size := Nat.lt_of_lt_of_le s_1210 hb.size
    have H_1255 := Lib.hid (H_1230.out.below hb)
    have H_1256 := Lib.hid (H_1231.out.below hb)
    have H_1257 := Lib.hid (H_1232.out.below hb)
    have HB := Lib.hid (HB.out.trans (hb.mono HB.out.size))
    have o_1258 : V_1207.heap.size ≤ w10.heap.size := hb.size
    clear c_1212 c_1213 s_1214 c_1215 c_1216 s_1217 c_1218 c_1219 s_1220 c_1221 c_1222 s_1223 c_1224 c_1225 s_1226 c_1227 c_1228 s_1229 c_1208 c_1209 s_1210
    clear hb
    have d1 := D1.out
    have d2 := D2.out
    go_wp2_with fail
    go_ret
    exact ⟨rfl, HB.out⟩
end Go.Proofs.Ytodpodgdhiadnaa
