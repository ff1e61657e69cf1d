/- The law FnPmapSplit: a row that parts is joined again. -/
import Derived.Test.YtodpodgdhiadnaaCaPm
import Derived.Test.YtodpodgdhiadnaaJoin
import Derived.Test.YtodpodgdhiadnaaPmapMergeI
import Derived.Test.YtodpodgdhiadnaaPmapSplitI
import Derived.Test.YtodpodgdhiadnaaPmapSplitS
import Derived.Test.YtodpodgdhiadnaaPmK2
namespace Go.Proofs.Ytodpodgdhiadnaa
open Go.RowKit

set_option maxRecDepth 100000 in
set_option maxHeartbeats 8000000 in
theorem fnPmapSplit_law (a : Option Addr) (len cap : Nat) (am2 : Option Addr) (len2 cap2 : Nat) (w : World) (h : BytesIn w a len cap) (h2 : BytesIn w am2 len2 cap2) :
    Calls Try.prog 12 #[.slice a len cap, .slice am2 len2 cap2] w fun e w' => e = .returned (.bool true) ∧ Below w.heap.size w w' := by
  have hcm := h.2.1
  have hlc := h.1
  have hcm2 := h2.2.1
  have hlc2 := h2.1
  have H := Lib.hid h
  clear h
  unfold maxLen at hcm hcm2
  by_cases hl : 1048576 < len
  · go_enter Try.func12, Try.ntmps12
    go_wp2_with fail
    go_ret
    exact ⟨rfl, Below.refl _ _⟩
  by_cases hl2 : 1048576 < len2
  · go_enter Try.func12, Try.ntmps12
    go_wp2_with fail
    go_ret
    exact ⟨rfl, Below.refl _ _⟩
  go_enter Try.func12, Try.ntmps12
  go_wp2_with fail
  refine (drawPmapSplit_any a len cap _ H.out).mono ?_
  rintro e w1 ⟨ep, vs, am, c, key, node, hkey, hnode, rfl, hD, hb⟩
  have HB := Lib.hid hb
  have HD := Lib.hid hD
  have hv5 := hD.five
  have hv0 := hD.pos
  have HF := Lib.hid hD.fits
  have HCp := Lib.hid hD.cap
  have HKY := Lib.hid hkey
  have HM := Lib.hid (h2.below hb)
  clear hD hb H hkey h2
  obtain ⟨V_1, hV_1⟩ : ∃ V_1, w1.alloc (.cells #[.int .i64 ep, .slice am vs.length c] 80) = V_1 := ⟨_, rfl⟩
  have bV_1 : Below w1.heap.size w1 V_1 := by rw [← hV_1]; exact (Below.refl _ _).alloc (Nat.le_refl _) _
  have c_2 : V_1.cell? ⟨w1.heap.size, 0, none⟩ = some (.int .i64 ep) := by rw [← hV_1]; simp [go_sem]
  have c_3 : V_1.cell? ⟨w1.heap.size, 1, none⟩ = some (.slice am vs.length c) := by rw [← hV_1]; simp [go_sem]
  have s_4 : w1.heap.size < V_1.heap.size := by rw [← hV_1]; simp
  have k_5 : w1.heap.size < V_1.heap.size := s_4
  have H_6 := Lib.hid (HD.out.below bV_1)
  have H_7 := Lib.hid (HM.out.below bV_1)
  have HB := Lib.hid (HB.out.trans (bV_1.mono HB.out.size))
  have o_8 : w1.heap.size ≤ V_1.heap.size := bV_1.size
  clear bV_1
  go_wp2_with fail
  clear hV_1
  refine (pmapSplit_any ep am vs c key node _ H_6.out.inn HF.out (by omega) HCp.out.1 HCp.out.2 HKY.out).mono ?_
  rintro e w2 ⟨ep2, vs2, b2, hrel, ax, cx, rfl, hat, hb⟩
  have REL := Lib.hid hrel
  have HX := Lib.hid hat
  have c_9 := (hb.cell (p := ⟨w1.heap.size, 0, none⟩) s_4).trans c_2
  have c_10 := (hb.cell (p := ⟨w1.heap.size, 1, none⟩) s_4).trans c_3
  have s_11 : w1.heap.size < w2.heap.size := Nat.lt_of_lt_of_le s_4 hb.size
  have H_12 := Lib.hid (H_6.out.below hb)
  have H_13 := Lib.hid (H_7.out.below hb)
  have HB := Lib.hid (HB.out.trans (hb.mono HB.out.size))
  have o_14 : V_1.heap.size ≤ w2.heap.size := hb.size
  clear c_2 c_3 s_4
  clear hrel hat hb
  obtain ⟨V_15, hV_15⟩ : ∃ V_15, w2.alloc (.cells #[.int .i64 ep2, .slice ax vs2.length cx] 80) = V_15 := ⟨_, rfl⟩
  have bV_15 : Below w2.heap.size w2 V_15 := by rw [← hV_15]; exact (Below.refl _ _).alloc (Nat.le_refl _) _
  have c_16 : V_15.cell? ⟨w2.heap.size, 0, none⟩ = some (.int .i64 ep2) := by rw [← hV_15]; simp [go_sem]
  have c_17 : V_15.cell? ⟨w2.heap.size, 1, none⟩ = some (.slice ax vs2.length cx) := by rw [← hV_15]; simp [go_sem]
  have s_18 : w2.heap.size < V_15.heap.size := by rw [← hV_15]; simp
  have k_19 : w2.heap.size < V_15.heap.size := s_18
  have c_20 := (bV_15.cell (p := ⟨w1.heap.size, 0, none⟩) s_11).trans c_9
  have c_21 := (bV_15.cell (p := ⟨w1.heap.size, 1, none⟩) s_11).trans c_10
  have s_22 : w1.heap.size < V_15.heap.size := Nat.lt_of_lt_of_le s_11 bV_15.size
  have H_23 := Lib.hid (H_12.out.below bV_15)
  have H_24 := Lib.hid (H_13.out.below bV_15)
  have H_25 := Lib.hid (HX.out.below bV_15)
  have HB := Lib.hid (HB.out.trans (bV_15.mono HB.out.size))
  have o_26 : w2.heap.size ≤ V_15.heap.size := bV_15.size
  clear c_9 c_10 s_11
  clear bV_15
  go_wp2_with fail
  clear hV_15
  refine (specPmapSplit_any ep am vs c key node _ H_23.out.inn HF.out (by omega) HCp.out.1 HCp.out.2 HKY.out).mono ?_
  rintro e w3 ⟨ep3, vs3, b3, hrel, aw, cw, rfl, hat, hb⟩
  have REL3 := Lib.hid hrel
  have HWt := Lib.hid hat
  have c_27 := (hb.cell (p := ⟨w1.heap.size, 0, none⟩) s_22).trans c_20
  have c_28 := (hb.cell (p := ⟨w1.heap.size, 1, none⟩) s_22).trans c_21
  have s_29 : w1.heap.size < w3.heap.size := Nat.lt_of_lt_of_le s_22 hb.size
  have c_30 := (hb.cell (p := ⟨w2.heap.size, 0, none⟩) s_18).trans c_16
  have c_31 := (hb.cell (p := ⟨w2.heap.size, 1, none⟩) s_18).trans c_17
  have s_32 : w2.heap.size < w3.heap.size := Nat.lt_of_lt_of_le s_18 hb.size
  have H_33 := Lib.hid (H_23.out.below hb)
  have H_34 := Lib.hid (H_24.out.below hb)
  have H_35 := Lib.hid (H_25.out.below hb)
  have HB := Lib.hid (HB.out.trans (hb.mono HB.out.size))
  have o_36 : V_15.heap.size ≤ w3.heap.size := hb.size
  clear c_20 c_21 s_22 c_16 c_17 s_18
  clear hrel hat hb
  obtain ⟨rfl, rfl, rfl⟩ := PmapSplitRel_unique REL.out REL3.out
  clear REL3
  have hv2 : vs2.length ≤ 6 := by have := PmapSplitRel_len REL.out; omega
  obtain ⟨V_37, hV_37⟩ : ∃ V_37, w3.alloc (.cells #[.int .i64 ep2, .slice aw vs2.length cw] 80) = V_37 := ⟨_, rfl⟩
  have bV_37 : Below w3.heap.size w3 V_37 := by rw [← hV_37]; exact (Below.refl _ _).alloc (Nat.le_refl _) _
  have c_38 : V_37.cell? ⟨w3.heap.size, 0, none⟩ = some (.int .i64 ep2) := by rw [← hV_37]; simp [go_sem]
  have c_39 : V_37.cell? ⟨w3.heap.size, 1, none⟩ = some (.slice aw vs2.length cw) := by rw [← hV_37]; simp [go_sem]
  have s_40 : w3.heap.size < V_37.heap.size := by rw [← hV_37]; simp
  have k_41 : w3.heap.size < V_37.heap.size := s_40
  have c_42 := (bV_37.cell (p := ⟨w1.heap.size, 0, none⟩) s_29).trans c_27
  have c_43 := (bV_37.cell (p := ⟨w1.heap.size, 1, none⟩) s_29).trans c_28
  have s_44 : w1.heap.size < V_37.heap.size := Nat.lt_of_lt_of_le s_29 bV_37.size
  have c_45 := (bV_37.cell (p := ⟨w2.heap.size, 0, none⟩) s_32).trans c_30
  have c_46 := (bV_37.cell (p := ⟨w2.heap.size, 1, none⟩) s_32).trans c_31
  have s_47 : w2.heap.size < V_37.heap.size := Nat.lt_of_lt_of_le s_32 bV_37.size
  have H_48 := Lib.hid (H_33.out.below bV_37)
  have H_49 := Lib.hid (H_34.out.below bV_37)
  have H_50 := Lib.hid (H_35.out.below bV_37)
  have H_51 := Lib.hid (HWt.out.below bV_37)
  have HB := Lib.hid (HB.out.trans (bV_37.mono HB.out.size))
  have o_52 : w3.heap.size ≤ V_37.heap.size := bV_37.size
  clear c_27 c_28 s_29 c_30 c_31 s_32
  clear bV_37
  obtain ⟨b0, hok⟩ := pmOk_ex ep vs
  have HOK := Lib.hid hok
  clear hok
  have hcases : (b0 = false ∧ b2 = false) ∨ (b0 = true ∧ b2 = false ∧ ep2 = ep ∧ vs2 = vs) ∨ (b0 = true ∧ b2 = true ∧ PmapOkP ep vs ∧ CanSplit ep vs key node ∧ ep2 = ep + 1 ∧ ∃ k, FindAt vs key k ∧ vs2 = splitAt vs key node k) := by
    have hio : b0 = true ↔ PmapOkP ep vs := HOK.out
    rcases REL.out with ⟨hn, _, _, e⟩ | ⟨hp, _, e1, e2, e3⟩ | ⟨hp, hc, e1, e2, e3⟩
    · refine .inl ⟨?_, e⟩
      cases b0
      · rfl
      · exact absurd (hio.1 rfl) hn
    · exact .inr (.inl ⟨hio.2 hp, e3, e1, e2⟩)
    · exact .inr (.inr ⟨hio.2 hp, e3, hp, hc, e1, e2⟩)
  clear REL
  rcases hcases with ⟨rfl, rfl⟩ | ⟨rfl, rfl, rfl, rfl⟩ | ⟨rfl, rfl, hp, hc, he, kf, hF, hv⟩
  · skip
    go_wp2_with fail
    clear hV_37
    refine (caPmap_same ep2 _ _ vs2 _ _ _ H_50.out.in1 H_51.out.in1 (by omega)).mono ?_
    rintro e w4 ⟨rfl, hb⟩
    have c_1053 := (hb.cell (p := ⟨w1.heap.size, 0, none⟩) s_44).trans c_42
    have c_1054 := (hb.cell (p := ⟨w1.heap.size, 1, none⟩) s_44).trans c_43
    have s_1055 : w1.heap.size < w4.heap.size := Nat.lt_of_lt_of_le s_44 hb.size
    have c_1056 := (hb.cell (p := ⟨w2.heap.size, 0, none⟩) s_47).trans c_45
    have c_1057 := (hb.cell (p := ⟨w2.heap.size, 1, none⟩) s_47).trans c_46
    have s_1058 : w2.heap.size < w4.heap.size := Nat.lt_of_lt_of_le s_47 hb.size
    have c_1059 := (hb.cell (p := ⟨w3.heap.size, 0, none⟩) s_40).trans c_38
    have c_1060 := (hb.cell (p := ⟨w3.heap.size, 1, none⟩) s_40).trans c_39
    have s_1061 : w3.heap.size < w4.heap.size := Nat.lt_of_lt_of_le s_40 hb.size
    have H_1062 := Lib.hid (H_48.out.below hb)
    have H_1063 := Lib.hid (H_49.out.below hb)
    have H_1064 := Lib.hid (H_50.out.below hb)
    have H_1065 := Lib.hid (H_51.out.below hb)
    have HB := Lib.hid (HB.out.trans (hb.mono HB.out.size))
    have o_1066 : V_37.heap.size ≤ w4.heap.size := hb.size
    clear c_42 c_43 s_44 c_45 c_46 s_47 c_38 c_39 s_40
    clear hb
    go_wp2_with fail
    refine (pmapOk_bool HOK.out am c _ H_1062.out.inn HF.out (by unfold maxLen; omega)).mono ?_
    rintro e w5 ⟨rfl, hb⟩
    have c_1067 := (hb.cell (p := ⟨w1.heap.size, 0, none⟩) s_1055).trans c_1053
    have c_1068 := (hb.cell (p := ⟨w1.heap.size, 1, none⟩) s_1055).trans c_1054
    have s_1069 : w1.heap.size < w5.heap.size := Nat.lt_of_lt_of_le s_1055 hb.size
    have c_1070 := (hb.cell (p := ⟨w2.heap.size, 0, none⟩) s_1058).trans c_1056
    have c_1071 := (hb.cell (p := ⟨w2.heap.size, 1, none⟩) s_1058).trans c_1057
    have s_1072 : w2.heap.size < w5.heap.size := Nat.lt_of_lt_of_le s_1058 hb.size
    have c_1073 := (hb.cell (p := ⟨w3.heap.size, 0, none⟩) s_1061).trans c_1059
    have c_1074 := (hb.cell (p := ⟨w3.heap.size, 1, none⟩) s_1061).trans c_1060
    have s_1075 : w3.heap.size < w5.heap.size := Nat.lt_of_lt_of_le s_1061 hb.size
    have H_1076 := Lib.hid (H_1062.out.below hb)
    have H_1077 := Lib.hid (H_1063.out.below hb)
    have H_1078 := Lib.hid (H_1064.out.below hb)
    have H_1079 := Lib.hid (H_1065.out.below hb)
    have HB := Lib.hid (HB.out.trans (hb.mono HB.out.size))
    have o_1080 : w4.heap.size ≤ w5.heap.size := hb.size
    clear c_1053 c_1054 s_1055 c_1056 c_1057 s_1058 c_1059 c_1060 s_1061
    clear hb
    go_wp2_with fail
    refine (caPmap_same ep2 _ _ vs2 _ _ _ H_1078.out.in1 H_1079.out.in1 (by omega)).mono ?_
    rintro e w6 ⟨rfl, hb⟩
    have c_1081 := (hb.cell (p := ⟨w1.heap.size, 0, none⟩) s_1069).trans c_1067
    have c_1082 := (hb.cell (p := ⟨w1.heap.size, 1, none⟩) s_1069).trans c_1068
    have s_1083 : w1.heap.size < w6.heap.size := Nat.lt_of_lt_of_le s_1069 hb.size
    have c_1084 := (hb.cell (p := ⟨w2.heap.size, 0, none⟩) s_1072).trans c_1070
    have c_1085 := (hb.cell (p := ⟨w2.heap.size, 1, none⟩) s_1072).trans c_1071
    have s_1086 : w2.heap.size < w6.heap.size := Nat.lt_of_lt_of_le s_1072 hb.size
    have c_1087 := (hb.cell (p := ⟨w3.heap.size, 0, none⟩) s_1075).trans c_1073
    have c_1088 := (hb.cell (p := ⟨w3.heap.size, 1, none⟩) s_1075).trans c_1074
    have s_1089 : w3.heap.size < w6.heap.size := Nat.lt_of_lt_of_le s_1075 hb.size
    have H_1090 := Lib.hid (H_1076.out.below hb)
    have H_1091 := Lib.hid (H_1077.out.below hb)
    have H_1092 := Lib.hid (H_1078.out.below hb)
    have H_1093 := Lib.hid (H_1079.out.below hb)
    have HB := Lib.hid (HB.out.trans (hb.mono HB.out.size))
    have o_1094 : w5.heap.size ≤ w6.heap.size := hb.size
    clear c_1067 c_1068 s_1069 c_1070 c_1071 s_1072 c_1073 c_1074 s_1075
    clear hb
    go_wp2_with fail
    go_ret
    exact ⟨rfl, HB.out⟩
  · skip
    go_wp2_with fail
    clear hV_37
    refine (caPmap_same ep2 _ _ vs2 _ _ _ H_50.out.in1 H_51.out.in1 (by omega)).mono ?_
    rintro e w4 ⟨rfl, hb⟩
    have c_1053 := (hb.cell (p := ⟨w1.heap.size, 0, none⟩) s_44).trans c_42
    have c_1054 := (hb.cell (p := ⟨w1.heap.size, 1, none⟩) s_44).trans c_43
    have s_1055 : w1.heap.size < w4.heap.size := Nat.lt_of_lt_of_le s_44 hb.size
    have c_1056 := (hb.cell (p := ⟨w2.heap.size, 0, none⟩) s_47).trans c_45
    have c_1057 := (hb.cell (p := ⟨w2.heap.size, 1, none⟩) s_47).trans c_46
    have s_1058 : w2.heap.size < w4.heap.size := Nat.lt_of_lt_of_le s_47 hb.size
    have c_1059 := (hb.cell (p := ⟨w3.heap.size, 0, none⟩) s_40).trans c_38
    have c_1060 := (hb.cell (p := ⟨w3.heap.size, 1, none⟩) s_40).trans c_39
    have s_1061 : w3.heap.size < w4.heap.size := Nat.lt_of_lt_of_le s_40 hb.size
    have H_1062 := Lib.hid (H_48.out.below hb)
    have H_1063 := Lib.hid (H_49.out.below hb)
    have H_1064 := Lib.hid (H_50.out.below hb)
    have H_1065 := Lib.hid (H_51.out.below hb)
    have HB := Lib.hid (HB.out.trans (hb.mono HB.out.size))
    have o_1066 : V_37.heap.size ≤ w4.heap.size := hb.size
    clear c_42 c_43 s_44 c_45 c_46 s_47 c_38 c_39 s_40
    clear hb
    go_wp2_with fail
    refine (pmapOk_bool HOK.out am c _ H_1062.out.inn HF.out (by unfold maxLen; omega)).mono ?_
    rintro e w5 ⟨rfl, hb⟩
    have c_1067 := (hb.cell (p := ⟨w1.heap.size, 0, none⟩) s_1055).trans c_1053
    have c_1068 := (hb.cell (p := ⟨w1.heap.size, 1, none⟩) s_1055).trans c_1054
    have s_1069 : w1.heap.size < w5.heap.size := Nat.lt_of_lt_of_le s_1055 hb.size
    have c_1070 := (hb.cell (p := ⟨w2.heap.size, 0, none⟩) s_1058).trans c_1056
    have c_1071 := (hb.cell (p := ⟨w2.heap.size, 1, none⟩) s_1058).trans c_1057
    have s_1072 : w2.heap.size < w5.heap.size := Nat.lt_of_lt_of_le s_1058 hb.size
    have c_1073 := (hb.cell (p := ⟨w3.heap.size, 0, none⟩) s_1061).trans c_1059
    have c_1074 := (hb.cell (p := ⟨w3.heap.size, 1, none⟩) s_1061).trans c_1060
    have s_1075 : w3.heap.size < w5.heap.size := Nat.lt_of_lt_of_le s_1061 hb.size
    have H_1076 := Lib.hid (H_1062.out.below hb)
    have H_1077 := Lib.hid (H_1063.out.below hb)
    have H_1078 := Lib.hid (H_1064.out.below hb)
    have H_1079 := Lib.hid (H_1065.out.below hb)
    have HB := Lib.hid (HB.out.trans (hb.mono HB.out.size))
    have o_1080 : w4.heap.size ≤ w5.heap.size := hb.size
    clear c_1053 c_1054 s_1055 c_1056 c_1057 s_1058 c_1059 c_1060 s_1061
    clear hb
    go_wp2_with fail
    refine (caPmap_same ep2 _ _ vs2 _ _ _ H_1078.out.in1 H_1076.out.inn (by omega)).mono ?_
    rintro e w6 ⟨rfl, hb⟩
    have c_1081 := (hb.cell (p := ⟨w1.heap.size, 0, none⟩) s_1069).trans c_1067
    have c_1082 := (hb.cell (p := ⟨w1.heap.size, 1, none⟩) s_1069).trans c_1068
    have s_1083 : w1.heap.size < w6.heap.size := Nat.lt_of_lt_of_le s_1069 hb.size
    have c_1084 := (hb.cell (p := ⟨w2.heap.size, 0, none⟩) s_1072).trans c_1070
    have c_1085 := (hb.cell (p := ⟨w2.heap.size, 1, none⟩) s_1072).trans c_1071
    have s_1086 : w2.heap.size < w6.heap.size := Nat.lt_of_lt_of_le s_1072 hb.size
    have c_1087 := (hb.cell (p := ⟨w3.heap.size, 0, none⟩) s_1075).trans c_1073
    have c_1088 := (hb.cell (p := ⟨w3.heap.size, 1, none⟩) s_1075).trans c_1074
    have s_1089 : w3.heap.size < w6.heap.size := Nat.lt_of_lt_of_le s_1075 hb.size
    have H_1090 := Lib.hid (H_1076.out.below hb)
    have H_1091 := Lib.hid (H_1077.out.below hb)
    have H_1092 := Lib.hid (H_1078.out.below hb)
    have H_1093 := Lib.hid (H_1079.out.below hb)
    have HB := Lib.hid (HB.out.trans (hb.mono HB.out.size))
    have o_1094 : w5.heap.size ≤ w6.heap.size := hb.size
    clear c_1067 c_1068 s_1069 c_1070 c_1071 s_1072 c_1073 c_1074 s_1075
    clear hb
    go_wp2_with fail
    go_ret
    exact ⟨rfl, HB.out⟩
  · skip
    have hkf := hF.1.1
    obtain ⟨c1, c2, c3, c4, c5⟩ := hc
    have hp2 : PmapOkP ep2 vs2 := by rw [he, hv]; exact pmapOk_split hp ⟨c1, c2, c3, c4, c5⟩ hF
    have hlen : vs2.length = vs.length + 1 := by rw [hv]; exact splitAt_len hkf
    have he1 := ((inB_iff _ _ _).1 hp.2.2).1
    have he2 := ((inB_iff _ _ _).1 hp2.2.2).2
    have hself : FindAt vs2 key (kf + 1) := by rw [hv]; exact split_find_self hF
    have hj1 : kf + 1 < vs2.length := by omega
    have hat : vs2[kf + 1] = ⟨key, node⟩ := by subst hv; exact split_at hkf hj1
    have d2 : (ep2 == ep + 1) = true := by rw [beq_iff_eq]; exact he
    have X := Lib.hid (And.intro hp (And.intro hp2 (And.intro hself (And.intro c1 (And.intro hF hv)))))
    have HX2 := Lib.hid (show OkIs true ep2 vs2 from ⟨fun _ => hp2, fun _ => rfl⟩)
    have HF2 := Lib.hid (pmapOk_fits hp2)
    have D2 := Lib.hid d2
    have HAT := Lib.hid hat
    have HLN := Lib.hid hlen
    have hl2 : vs2.length ≤ 5 := by omega
    clear hp hp2 c1 c2 c5 hv hself d2 hat hF he hlen
    go_wp2_with fail
    clear hV_37
    refine (caPmap_same ep2 _ _ vs2 _ _ _ H_50.out.in1 H_51.out.in1 (by omega)).mono ?_
    rintro e w4 ⟨rfl, hb⟩
    have c_1053 := (hb.cell (p := ⟨w1.heap.size, 0, none⟩) s_44).trans c_42
    have c_1054 := (hb.cell (p := ⟨w1.heap.size, 1, none⟩) s_44).trans c_43
    have s_1055 : w1.heap.size < w4.heap.size := Nat.lt_of_lt_of_le s_44 hb.size
    have c_1056 := (hb.cell (p := ⟨w2.heap.size, 0, none⟩) s_47).trans c_45
    have c_1057 := (hb.cell (p := ⟨w2.heap.size, 1, none⟩) s_47).trans c_46
    have s_1058 : w2.heap.size < w4.heap.size := Nat.lt_of_lt_of_le s_47 hb.size
    have c_1059 := (hb.cell (p := ⟨w3.heap.size, 0, none⟩) s_40).trans c_38
    have c_1060 := (hb.cell (p := ⟨w3.heap.size, 1, none⟩) s_40).trans c_39
    have s_1061 : w3.heap.size < w4.heap.size := Nat.lt_of_lt_of_le s_40 hb.size
    have H_1062 := Lib.hid (H_48.out.below hb)
    have H_1063 := Lib.hid (H_49.out.below hb)
    have H_1064 := Lib.hid (H_50.out.below hb)
    have H_1065 := Lib.hid (H_51.out.below hb)
    have HB := Lib.hid (HB.out.trans (hb.mono HB.out.size))
    have o_1066 : V_37.heap.size ≤ w4.heap.size := hb.size
    clear c_42 c_43 s_44 c_45 c_46 s_47 c_38 c_39 s_40
    clear hb
    go_wp2_with fail
    refine (pmapOk_bool HOK.out am c _ H_1062.out.inn HF.out (by unfold maxLen; omega)).mono ?_
    rintro e w5 ⟨rfl, hb⟩
    have c_1067 := (hb.cell (p := ⟨w1.heap.size, 0, none⟩) s_1055).trans c_1053
    have c_1068 := (hb.cell (p := ⟨w1.heap.size, 1, none⟩) s_1055).trans c_1054
    have s_1069 : w1.heap.size < w5.heap.size := Nat.lt_of_lt_of_le s_1055 hb.size
    have c_1070 := (hb.cell (p := ⟨w2.heap.size, 0, none⟩) s_1058).trans c_1056
    have c_1071 := (hb.cell (p := ⟨w2.heap.size, 1, none⟩) s_1058).trans c_1057
    have s_1072 : w2.heap.size < w5.heap.size := Nat.lt_of_lt_of_le s_1058 hb.size
    have c_1073 := (hb.cell (p := ⟨w3.heap.size, 0, none⟩) s_1061).trans c_1059
    have c_1074 := (hb.cell (p := ⟨w3.heap.size, 1, none⟩) s_1061).trans c_1060
    have s_1075 : w3.heap.size < w5.heap.size := Nat.lt_of_lt_of_le s_1061 hb.size
    have H_1076 := Lib.hid (H_1062.out.below hb)
    have H_1077 := Lib.hid (H_1063.out.below hb)
    have H_1078 := Lib.hid (H_1064.out.below hb)
    have H_1079 := Lib.hid (H_1065.out.below hb)
    have HB := Lib.hid (HB.out.trans (hb.mono HB.out.size))
    have o_1080 : w4.heap.size ≤ w5.heap.size := hb.size
    clear c_1053 c_1054 s_1055 c_1056 c_1057 s_1058 c_1059 c_1060 s_1061
    clear hb
    go_wp2_with fail
    refine (pmapFind_any ep2 ax vs2 cx key _ H_1078.out.in1 HF2.out (by omega) HKY.out).mono ?_
    rintro e w6 ⟨r, rfl, hr1, hr2, hb⟩
    obtain ⟨kk, rfl, hkk⟩ := hr1 ⟨X.out.2.1, X.out.2.2.2.1⟩
    obtain rfl := hkk.unique X.out.2.2.1
    clear hr2 hkk
    have c_1081 := (hb.cell (p := ⟨w1.heap.size, 0, none⟩) s_1069).trans c_1067
    have c_1082 := (hb.cell (p := ⟨w1.heap.size, 1, none⟩) s_1069).trans c_1068
    have s_1083 : w1.heap.size < w6.heap.size := Nat.lt_of_lt_of_le s_1069 hb.size
    have c_1084 := (hb.cell (p := ⟨w2.heap.size, 0, none⟩) s_1072).trans c_1070
    have c_1085 := (hb.cell (p := ⟨w2.heap.size, 1, none⟩) s_1072).trans c_1071
    have s_1086 : w2.heap.size < w6.heap.size := Nat.lt_of_lt_of_le s_1072 hb.size
    have c_1087 := (hb.cell (p := ⟨w3.heap.size, 0, none⟩) s_1075).trans c_1073
    have c_1088 := (hb.cell (p := ⟨w3.heap.size, 1, none⟩) s_1075).trans c_1074
    have s_1089 : w3.heap.size < w6.heap.size := Nat.lt_of_lt_of_le s_1075 hb.size
    have H_1090 := Lib.hid (H_1076.out.below hb)
    have H_1091 := Lib.hid (H_1077.out.below hb)
    have H_1092 := Lib.hid (H_1078.out.below hb)
    have H_1093 := Lib.hid (H_1079.out.below hb)
    have HB := Lib.hid (HB.out.trans (hb.mono HB.out.size))
    have o_1094 : w5.heap.size ≤ w6.heap.size := hb.size
    clear c_1067 c_1068 s_1069 c_1070 c_1071 s_1072 c_1073 c_1074 s_1075
    clear hb
    go_wp2_with fail
    refine (pmapMerge_any ep2 ax vs2 cx _ _ H_1092.out.in1 HF2.out (by omega)).mono ?_
    rintro e w7 ⟨ep4, vs4, b4, hrel, ab, cb, rfl, hatb, hb⟩
    have hfine : (ep2 == 99) = true ∨ (b4 = true ∧ vs4.length = vs.length) := by
      rcases hrel with ⟨hn, _⟩ | ⟨_, hn, _⟩ | ⟨_, hc, _, hv4, e⟩
      · exact absurd X.out.2.1 hn
      · left
        rw [beq_iff_eq]
        by_cases q : ep2 = 99
        · exact q
        · exact absurd ⟨by omega, by omega, by omega⟩ hn
      · right
        refine ⟨e, ?_⟩
        have := merge_len (vs := vs2) (j := kf) hj1
        have hl := HLN.out
        rw [hv4, Int.toNat_natCast]; omega
    have hv4 : vs4.length ≤ 6 := by have := PmapMergeRel_len hrel; omega
    have HFI := Lib.hid hfine
    have c_1095 := (hb.cell (p := ⟨w1.heap.size, 0, none⟩) s_1083).trans c_1081
    have c_1096 := (hb.cell (p := ⟨w1.heap.size, 1, none⟩) s_1083).trans c_1082
    have s_1097 : w1.heap.size < w7.heap.size := Nat.lt_of_lt_of_le s_1083 hb.size
    have c_1098 := (hb.cell (p := ⟨w2.heap.size, 0, none⟩) s_1086).trans c_1084
    have c_1099 := (hb.cell (p := ⟨w2.heap.size, 1, none⟩) s_1086).trans c_1085
    have s_1100 : w2.heap.size < w7.heap.size := Nat.lt_of_lt_of_le s_1086 hb.size
    have c_1101 := (hb.cell (p := ⟨w3.heap.size, 0, none⟩) s_1089).trans c_1087
    have c_1102 := (hb.cell (p := ⟨w3.heap.size, 1, none⟩) s_1089).trans c_1088
    have s_1103 : w3.heap.size < w7.heap.size := Nat.lt_of_lt_of_le s_1089 hb.size
    have H_1104 := Lib.hid (H_1090.out.below hb)
    have H_1105 := Lib.hid (H_1091.out.below hb)
    have H_1106 := Lib.hid (H_1092.out.below hb)
    have H_1107 := Lib.hid (H_1093.out.below hb)
    have HB := Lib.hid (HB.out.trans (hb.mono HB.out.size))
    have o_1108 : w6.heap.size ≤ w7.heap.size := hb.size
    clear c_1081 c_1082 s_1083 c_1084 c_1085 s_1086 c_1087 c_1088 s_1089
    clear hb hrel hatb hfine
    obtain ⟨V_1109, hV_1109⟩ : ∃ V_1109, w7.alloc (.cells #[.int .i64 ep4, .slice ab vs4.length cb] 80) = V_1109 := ⟨_, rfl⟩
    have bV_1109 : Below w7.heap.size w7 V_1109 := by rw [← hV_1109]; exact (Below.refl _ _).alloc (Nat.le_refl _) _
    have c_1110 : V_1109.cell? ⟨w7.heap.size, 0, none⟩ = some (.int .i64 ep4) := by rw [← hV_1109]; simp [go_sem]
    have c_1111 : V_1109.cell? ⟨w7.heap.size, 1, none⟩ = some (.slice ab vs4.length cb) := by rw [← hV_1109]; simp [go_sem]
    have s_1112 : w7.heap.size < V_1109.heap.size := by rw [← hV_1109]; simp
    have k_1113 : w7.heap.size < V_1109.heap.size := s_1112
    have c_1114 := (bV_1109.cell (p := ⟨w1.heap.size, 0, none⟩) s_1097).trans c_1095
    have c_1115 := (bV_1109.cell (p := ⟨w1.heap.size, 1, none⟩) s_1097).trans c_1096
    have s_1116 : w1.heap.size < V_1109.heap.size := Nat.lt_of_lt_of_le s_1097 bV_1109.size
    have c_1117 := (bV_1109.cell (p := ⟨w2.heap.size, 0, none⟩) s_1100).trans c_1098
    have c_1118 := (bV_1109.cell (p := ⟨w2.heap.size, 1, none⟩) s_1100).trans c_1099
    have s_1119 : w2.heap.size < V_1109.heap.size := Nat.lt_of_lt_of_le s_1100 bV_1109.size
    have c_1120 := (bV_1109.cell (p := ⟨w3.heap.size, 0, none⟩) s_1103).trans c_1101
    have c_1121 := (bV_1109.cell (p := ⟨w3.heap.size, 1, none⟩) s_1103).trans c_1102
    have s_1122 : w3.heap.size < V_1109.heap.size := Nat.lt_of_lt_of_le s_1103 bV_1109.size
    have H_1123 := Lib.hid (H_1104.out.below bV_1109)
    have H_1124 := Lib.hid (H_1105.out.below bV_1109)
    have H_1125 := Lib.hid (H_1106.out.below bV_1109)
    have H_1126 := Lib.hid (H_1107.out.below bV_1109)
    have HB := Lib.hid (HB.out.trans (bV_1109.mono HB.out.size))
    have o_1127 : w7.heap.size ≤ V_1109.heap.size := bV_1109.size
    clear c_1095 c_1096 s_1097 c_1098 c_1099 s_1100 c_1101 c_1102 s_1103
    clear bV_1109
    go_wp2_with fail
    clear hV_1109
    refine (drawPmapFind_any am2 len2 cap2 _ H_1124.out).mono ?_
    rintro e w8 ⟨ep5, vs5, a5, c5, other, hok, rfl, hD5, -, hb⟩
    have hv55 := hD5.five
    have HKO := Lib.hid hok
    have c_1128 := (hb.cell (p := ⟨w1.heap.size, 0, none⟩) s_1116).trans c_1114
    have c_1129 := (hb.cell (p := ⟨w1.heap.size, 1, none⟩) s_1116).trans c_1115
    have s_1130 : w1.heap.size < w8.heap.size := Nat.lt_of_lt_of_le s_1116 hb.size
    have c_1131 := (hb.cell (p := ⟨w2.heap.size, 0, none⟩) s_1119).trans c_1117
    have c_1132 := (hb.cell (p := ⟨w2.heap.size, 1, none⟩) s_1119).trans c_1118
    have s_1133 : w2.heap.size < w8.heap.size := Nat.lt_of_lt_of_le s_1119 hb.size
    have c_1134 := (hb.cell (p := ⟨w3.heap.size, 0, none⟩) s_1122).trans c_1120
    have c_1135 := (hb.cell (p := ⟨w3.heap.size, 1, none⟩) s_1122).trans c_1121
    have s_1136 : w3.heap.size < w8.heap.size := Nat.lt_of_lt_of_le s_1122 hb.size
    have c_1137 := (hb.cell (p := ⟨w7.heap.size, 0, none⟩) s_1112).trans c_1110
    have c_1138 := (hb.cell (p := ⟨w7.heap.size, 1, none⟩) s_1112).trans c_1111
    have s_1139 : w7.heap.size < w8.heap.size := Nat.lt_of_lt_of_le s_1112 hb.size
    have H_1140 := Lib.hid (H_1123.out.below hb)
    have H_1141 := Lib.hid (H_1124.out.below hb)
    have H_1142 := Lib.hid (H_1125.out.below hb)
    have H_1143 := Lib.hid (H_1126.out.below hb)
    have HB := Lib.hid (HB.out.trans (hb.mono HB.out.size))
    have o_1144 : V_1109.heap.size ≤ w8.heap.size := hb.size
    clear c_1114 c_1115 s_1116 c_1117 c_1118 s_1119 c_1120 c_1121 s_1122 c_1110 c_1111 s_1112
    clear hb hD5 hok
    obtain ⟨V_1145, hV_1145⟩ : ∃ V_1145, w8.alloc (.cells #[.int .i64 ep5, .slice a5 vs5.length c5] 80) = V_1145 := ⟨_, rfl⟩
    have bV_1145 : Below w8.heap.size w8 V_1145 := by rw [← hV_1145]; exact (Below.refl _ _).alloc (Nat.le_refl _) _
    have c_1146 : V_1145.cell? ⟨w8.heap.size, 0, none⟩ = some (.int .i64 ep5) := by rw [← hV_1145]; simp [go_sem]
    have c_1147 : V_1145.cell? ⟨w8.heap.size, 1, none⟩ = some (.slice a5 vs5.length c5) := by rw [← hV_1145]; simp [go_sem]
    have s_1148 : w8.heap.size < V_1145.heap.size := by rw [← hV_1145]; simp
    have k_1149 : w8.heap.size < V_1145.heap.size := s_1148
    have c_1150 := (bV_1145.cell (p := ⟨w1.heap.size, 0, none⟩) s_1130).trans c_1128
    have c_1151 := (bV_1145.cell (p := ⟨w1.heap.size, 1, none⟩) s_1130).trans c_1129
    have s_1152 : w1.heap.size < V_1145.heap.size := Nat.lt_of_lt_of_le s_1130 bV_1145.size
    have c_1153 := (bV_1145.cell (p := ⟨w2.heap.size, 0, none⟩) s_1133).trans c_1131
    have c_1154 := (bV_1145.cell (p := ⟨w2.heap.size, 1, none⟩) s_1133).trans c_1132
    have s_1155 : w2.heap.size < V_1145.heap.size := Nat.lt_of_lt_of_le s_1133 bV_1145.size
    have c_1156 := (bV_1145.cell (p := ⟨w3.heap.size, 0, none⟩) s_1136).trans c_1134
    have c_1157 := (bV_1145.cell (p := ⟨w3.heap.size, 1, none⟩) s_1136).trans c_1135
    have s_1158 : w3.heap.size < V_1145.heap.size := Nat.lt_of_lt_of_le s_1136 bV_1145.size
    have c_1159 := (bV_1145.cell (p := ⟨w7.heap.size, 0, none⟩) s_1139).trans c_1137
    have c_1160 := (bV_1145.cell (p := ⟨w7.heap.size, 1, none⟩) s_1139).trans c_1138
    have s_1161 : w7.heap.size < V_1145.heap.size := Nat.lt_of_lt_of_le s_1139 bV_1145.size
    have H_1162 := Lib.hid (H_1140.out.below bV_1145)
    have H_1163 := Lib.hid (H_1141.out.below bV_1145)
    have H_1164 := Lib.hid (H_1142.out.below bV_1145)
    have H_1165 := Lib.hid (H_1143.out.below bV_1145)
    have HB := Lib.hid (HB.out.trans (bV_1145.mono HB.out.size))
    have o_1166 : w8.heap.size ≤ V_1145.heap.size := bV_1145.size
    clear c_1128 c_1129 s_1130 c_1131 c_1132 s_1133 c_1134 c_1135 s_1136 c_1137 c_1138 s_1139
    clear bV_1145
    go_wp2_with fail
    clear hV_1145
    refine (pmapFind_any ep am vs c other _ H_1162.out.inn HF.out (by omega) HKO.out).mono ?_
    rintro e w9 ⟨r1, rfl, hr1, hr2, hb⟩
    have R1 := Lib.hid (show FindIs r1 ep vs other from And.intro hr1 hr2)
    have c_1167 := (hb.cell (p := ⟨w1.heap.size, 0, none⟩) s_1152).trans c_1150
    have c_1168 := (hb.cell (p := ⟨w1.heap.size, 1, none⟩) s_1152).trans c_1151
    have s_1169 : w1.heap.size < w9.heap.size := Nat.lt_of_lt_of_le s_1152 hb.size
    have c_1170 := (hb.cell (p := ⟨w2.heap.size, 0, none⟩) s_1155).trans c_1153
    have c_1171 := (hb.cell (p := ⟨w2.heap.size, 1, none⟩) s_1155).trans c_1154
    have s_1172 : w2.heap.size < w9.heap.size := Nat.lt_of_lt_of_le s_1155 hb.size
    have c_1173 := (hb.cell (p := ⟨w3.heap.size, 0, none⟩) s_1158).trans c_1156
    have c_1174 := (hb.cell (p := ⟨w3.heap.size, 1, none⟩) s_1158).trans c_1157
    have s_1175 : w3.heap.size < w9.heap.size := Nat.lt_of_lt_of_le s_1158 hb.size
    have c_1176 := (hb.cell (p := ⟨w7.heap.size, 0, none⟩) s_1161).trans c_1159
    have c_1177 := (hb.cell (p := ⟨w7.heap.size, 1, none⟩) s_1161).trans c_1160
    have s_1178 : w7.heap.size < w9.heap.size := Nat.lt_of_lt_of_le s_1161 hb.size
    have c_1179 := (hb.cell (p := ⟨w8.heap.size, 0, none⟩) s_1148).trans c_1146
    have c_1180 := (hb.cell (p := ⟨w8.heap.size, 1, none⟩) s_1148).trans c_1147
    have s_1181 : w8.heap.size < w9.heap.size := Nat.lt_of_lt_of_le s_1148 hb.size
    have H_1182 := Lib.hid (H_1162.out.below hb)
    have H_1183 := Lib.hid (H_1163.out.below hb)
    have H_1184 := Lib.hid (H_1164.out.below hb)
    have H_1185 := Lib.hid (H_1165.out.below hb)
    have HB := Lib.hid (HB.out.trans (hb.mono HB.out.size))
    have o_1186 : V_1145.heap.size ≤ w9.heap.size := hb.size
    clear c_1150 c_1151 s_1152 c_1153 c_1154 s_1155 c_1156 c_1157 s_1158 c_1159 c_1160 s_1161 c_1146 c_1147 s_1148
    clear hb hr1 hr2
    go_wp2_with fail
    refine (pmapFind_any ep2 ax vs2 cx other _ H_1184.out.in1 HF2.out (by omega) HKO.out).mono ?_
    rintro e w10 ⟨r2, rfl, hr1, hr2, hb⟩
    have hfo : (decide (r1 < 0) || (r2 == r1) || (r2 == r1 + 1)) = true ∧ -1 ≤ r1 ∧ r1 ≤ vs.length := by
      have hv := X.out.2.2.2.2.2
      subst hv
      exact split_found X.out.1 X.out.2.1 X.out.2.2.2.2.1 R1.out (And.intro hr1 hr2)
    obtain ⟨hfo, r1a, r1b⟩ := hfo
    have HFO := Lib.hid hfo
    have c_1187 := (hb.cell (p := ⟨w1.heap.size, 0, none⟩) s_1169).trans c_1167
    have c_1188 := (hb.cell (p := ⟨w1.heap.size, 1, none⟩) s_1169).trans c_1168
    have s_1189 : w1.heap.size < w10.heap.size := Nat.lt_of_lt_of_le s_1169 hb.size
    have c_1190 := (hb.cell (p := ⟨w2.heap.size, 0, none⟩) s_1172).trans c_1170
    have c_1191 := (hb.cell (p := ⟨w2.heap.size, 1, none⟩) s_1172).trans c_1171
    have s_1192 : w2.heap.size < w10.heap.size := Nat.lt_of_lt_of_le s_1172 hb.size
    have c_1193 := (hb.cell (p := ⟨w3.heap.size, 0, none⟩) s_1175).trans c_1173
    have c_1194 := (hb.cell (p := ⟨w3.heap.size, 1, none⟩) s_1175).trans c_1174
    have s_1195 : w3.heap.size < w10.heap.size := Nat.lt_of_lt_of_le s_1175 hb.size
    have c_1196 := (hb.cell (p := ⟨w7.heap.size, 0, none⟩) s_1178).trans c_1176
    have c_1197 := (hb.cell (p := ⟨w7.heap.size, 1, none⟩) s_1178).trans c_1177
    have s_1198 : w7.heap.size < w10.heap.size := Nat.lt_of_lt_of_le s_1178 hb.size
    have c_1199 := (hb.cell (p := ⟨w8.heap.size, 0, none⟩) s_1181).trans c_1179
    have c_1200 := (hb.cell (p := ⟨w8.heap.size, 1, none⟩) s_1181).trans c_1180
    have s_1201 : w8.heap.size < w10.heap.size := Nat.lt_of_lt_of_le s_1181 hb.size
    have H_1202 := Lib.hid (H_1182.out.below hb)
    have H_1203 := Lib.hid (H_1183.out.below hb)
    have H_1204 := Lib.hid (H_1184.out.below hb)
    have H_1205 := Lib.hid (H_1185.out.below hb)
    have HB := Lib.hid (HB.out.trans (hb.mono HB.out.size))
    have o_1206 : w9.heap.size ≤ w10.heap.size := hb.size
    clear c_1167 c_1168 s_1169 c_1170 c_1171 s_1172 c_1173 c_1174 s_1175 c_1176 c_1177 s_1178 c_1179 c_1180 s_1181
    clear hb hr1 hr2 hfo R1
    go_wp2_with fail
    refine (pmapOk_bool HX2.out ax cx _ H_1204.out.in1 HF2.out (by unfold maxLen; omega)).mono ?_
    rintro e w11 ⟨rfl, hb⟩
    have c_1207 := (hb.cell (p := ⟨w1.heap.size, 0, none⟩) s_1189).trans c_1187
    have c_1208 := (hb.cell (p := ⟨w1.heap.size, 1, none⟩) s_1189).trans c_1188
    have s_1209 : w1.heap.size < w11.heap.size := Nat.lt_of_lt_of_le s_1189 hb.size
    have c_1210 := (hb.cell (p := ⟨w2.heap.size, 0, none⟩) s_1192).trans c_1190
    have c_1211 := (hb.cell (p := ⟨w2.heap.size, 1, none⟩) s_1192).trans c_1191
    have s_1212 : w2.heap.size < w11.heap.size := Nat.lt_of_lt_of_le s_1192 hb.size
    have c_1213 := (hb.cell (p := ⟨w3.heap.size, 0, none⟩) s_1195).trans c_1193
    have c_1214 := (hb.cell (p := ⟨w3.heap.size, 1, none⟩) s_1195).trans c_1194
    have s_1215 : w3.heap.size < w11.heap.size := Nat.lt_of_lt_of_le s_1195 hb.size
    have c_1216 := (hb.cell (p := ⟨w7.heap.size, 0, none⟩) s_1198).trans c_1196
    have c_1217 := (hb.cell (p := ⟨w7.heap.size, 1, none⟩) s_1198).trans c_1197
    have s_1218 : w7.heap.size < w11.heap.size := Nat.lt_of_lt_of_le s_1198 hb.size
    have c_1219 := (hb.cell (p := ⟨w8.heap.size, 0, none⟩) s_1201).trans c_1199
    have c_1220 := (hb.cell (p := ⟨w8.heap.size, 1, none⟩) s_1201).trans c_1200
    have s_1221 : w8.heap.size < w11.heap.size := Nat.lt_of_lt_of_le s_1201 hb.size
    have H_1222 := Lib.hid (H_1202.out.below hb)
    have H_1223 := Lib.hid (H_1203.out.below hb)
    have H_1224 := Lib.hid (H_1204.out.below hb)
    have H_1225 := Lib.hid (H_1205.out.below hb)
    have HB := Lib.hid (HB.out.trans (hb.mono HB.out.size))
    have o_1226 : w10.heap.size ≤ w11.heap.size := hb.size
    clear c_1187 c_1188 s_1189 c_1190 c_1191 s_1192 c_1193 c_1194 s_1195 c_1196 c_1197 s_1198 c_1199 c_1200 s_1201
    clear hb
    have d2 := D2.out
    rcases H_1224.out.in1 with hnil | ⟨bx, ox, rfl, hbx, hcx⟩
    · rw [hnil] at hj1; simp at hj1
    obtain ⟨g0, g1⟩ := hcx (kf + 1) hj1
    rw [HAT.out] at g0 g1
    have i0 : (0 : Int) ≤ ((kf + 1 : Nat) : Int) := by omega
    have i1 : ((kf + 1 : Nat) : Int) < (vs2.length : Int) := by omega
    have gk : (key.toList == key.toList) = true := by simp
    clear hcx
    have hor : (r1 < 0) ∨ (¬ r1 < 0 ∧ (r2 == r1) = true) ∨ (¬ r1 < 0 ∧ (r2 == r1) = false ∧ (r2 == r1 + 1) = true) := by
      have hfo := HFO.out
      by_cases q : r1 < 0
      · exact .inl q
      · cases q2 : (r2 == r1)
        · rw [q2] at hfo; simp [q] at hfo; exact .inr (.inr ⟨q, rfl, by simpa using hfo⟩)
        · exact .inr (.inl ⟨q, rfl⟩)
    have hln : (vs4.length = vs.length) → ((vs4.length : Int) == (vs.length : Int)) = true := fun e => by rw [e]; simp
    have HLN4 := Lib.hid hln
    clear hln
    cases q99 : (ep2 == 99)
    · rcases HFI.out with hh | ⟨hb4, hh⟩
      · rw [q99] at hh; cases hh
      have d4 := HLN4.out hh
      subst hb4
      clear hh
      rcases hor with h9 | ⟨h8, h9⟩ | ⟨h7, h8, h9⟩
      all_goals
        go_wp2_with fail
        go_ret
        exact ⟨rfl, HB.out⟩
    · rcases hor with h9 | ⟨h8, h9⟩ | ⟨h7, h8, h9⟩
      all_goals
        go_wp2_with fail
        go_ret
        exact ⟨rfl, HB.out⟩
end Go.Proofs.Ytodpodgdhiadnaa
