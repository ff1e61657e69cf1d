/- The law FnVmapJoin: what is joined has all keys of both. -/
import Derived.Test.YtjijichgoodocaaFvD
import Derived.Test.YtjijichgoodocaaDrawJ
namespace Go.Proofs.Ytjijichgoodocaa
open Go.RowKit

theorem joinB_kv {xs bs : List Kv} (h : joinB xs bs = true) : KvOk (xs ++ bs) := by unfold joinB at h; exact @of_decide_eq_true _ (_) h
theorem joinF_kv {xs bs : List Kv} (h : KvOk (xs ++ bs)) : joinF xs bs = xs ++ bs := by unfold joinF; rw [if_pos h]

set_option maxRecDepth 100000 in
set_option maxHeartbeats 8000000 in
theorem fnVmapJoin_law (a : Option Addr) (len cap : Nat) (am2 : Option Addr) (len2 cap2 : Nat) (w : World) (h : BytesIn w a len cap) (h2 : BytesIn w am2 len2 cap2) :
    Calls Try.prog 7 #[.slice a len cap, .slice am2 len2 cap2] w fun e w' => e = .returned (.bool true) ∧ Below w.heap.size w w' := by
  have hcm := h.2.1
  have hlc := h.1
  have hcm2 := h2.2.1
  have hlc2 := h2.1
  have H := Lib.hid h
  clear h
  unfold maxLen at hcm hcm2
  by_cases hl : 1048576 < len
  · go_enter Try.func7, Try.ntmps7
    go_wp2_with fail
    go_ret
    exact ⟨rfl, Below.refl _ _⟩
  by_cases hl2 : 1048576 < len2
  · go_enter Try.func7, Try.ntmps7
    go_wp2_with fail
    go_ret
    exact ⟨rfl, Below.refl _ _⟩
  go_enter Try.func7, Try.ntmps7
  go_wp2_with fail
  refine (drawVmapJoin_any a len cap _ H.out).mono ?_
  rintro e w1 ⟨os, am, c, ps, bm, d, rfl, hD, hE, hb⟩
  have HB := Lib.hid hb
  have hn1 := hD.len
  have hn2 := hE.len
  have HD := Lib.hid hD.mr
  have HE := Lib.hid hE.mr
  have HM := Lib.hid (h2.below hb)
  clear hD hE hb H h2
  obtain ⟨V_1, hV_1⟩ : ∃ V_1, (w1.alloc (.cells #[.slice am os.length c] 25)).alloc (.cells #[.slice bm ps.length d] 25) = V_1 := ⟨_, rfl⟩
  have bV_1 : Below w1.heap.size w1 V_1 := by rw [← hV_1]; exact ((Below.refl _ _).alloc (Nat.le_refl _) _).alloc (by simp) _
  have c_2 : V_1.cell? ⟨w1.heap.size, 0, none⟩ = some (.slice am os.length c) := by rw [← hV_1]; simp [go_sem]
  have s_3 : w1.heap.size < V_1.heap.size := by rw [← hV_1]; simp <;> omega
  have k_4 : w1.heap.size < V_1.heap.size := s_3
  have c_5 : V_1.cell? ⟨w1.heap.size + 1, 0, none⟩ = some (.slice bm ps.length d) := by rw [← hV_1]; simp [go_sem]
  have s_6 : w1.heap.size + 1 < V_1.heap.size := by rw [← hV_1]; simp
  have k_7 : w1.heap.size + 1 < V_1.heap.size := s_6
  have H_8 := Lib.hid (HD.out.below bV_1)
  have H_9 := Lib.hid (HE.out.below bV_1)
  have H_10 := Lib.hid (HM.out.below bV_1)
  have HB := Lib.hid (HB.out.trans (bV_1.mono HB.out.size))
  have o_11 : w1.heap.size ≤ V_1.heap.size := bV_1.size
  clear bV_1
  go_wp2_with fail
  clear hV_1
  refine (vmapJoin_m H_8.out H_9.out c d (by omega)).mono ?_
  rintro e w2 ⟨ax, xs, cx, hkx, rfl, hmx, hb⟩
  obtain ⟨jb, hjb⟩ : ∃ b, b = joinB (os.map ObjD.kv) (ps.map ObjD.kv) := ⟨_, rfl⟩
  rw [← hjb]
  have HJB := Lib.hid hjb
  have c_12 := (hb.cell (p := ⟨w1.heap.size, 0, none⟩) s_3).trans c_2
  have s_13 : w1.heap.size < w2.heap.size := Nat.lt_of_lt_of_le s_3 hb.size
  have c_14 := (hb.cell (p := ⟨w1.heap.size + 1, 0, none⟩) s_6).trans c_5
  have s_15 : w1.heap.size + 1 < w2.heap.size := Nat.lt_of_lt_of_le s_6 hb.size
  have H_16 := Lib.hid (H_8.out.below hb)
  have H_17 := Lib.hid (H_9.out.below hb)
  have H_18 := Lib.hid (H_10.out.below hb)
  have HB := Lib.hid (HB.out.trans (hb.mono HB.out.size))
  have o_19 : V_1.heap.size ≤ w2.heap.size := hb.size
  clear c_2 s_3 c_5 s_6
  have HX := Lib.hid hmx
  have HKX := Lib.hid hkx
  clear hb hmx hkx hjb
  obtain ⟨V_20, hV_20⟩ : ∃ V_20, w2.alloc (.cells #[.slice ax xs.length cx] 25) = V_20 := ⟨_, rfl⟩
  have bV_20 : Below w2.heap.size w2 V_20 := by rw [← hV_20]; exact (Below.refl _ _).alloc (Nat.le_refl _) _
  have c_21 : V_20.cell? ⟨w2.heap.size, 0, none⟩ = some (.slice ax xs.length cx) := by rw [← hV_20]; simp [go_sem]
  have s_22 : w2.heap.size < V_20.heap.size := by rw [← hV_20]; simp
  have k_23 : w2.heap.size < V_20.heap.size := s_22
  have c_24 := (bV_20.cell (p := ⟨w1.heap.size, 0, none⟩) s_13).trans c_12
  have s_25 : w1.heap.size < V_20.heap.size := Nat.lt_of_lt_of_le s_13 bV_20.size
  have c_26 := (bV_20.cell (p := ⟨w1.heap.size + 1, 0, none⟩) s_15).trans c_14
  have s_27 : w1.heap.size + 1 < V_20.heap.size := Nat.lt_of_lt_of_le s_15 bV_20.size
  have H_28 := Lib.hid (H_16.out.below bV_20)
  have H_29 := Lib.hid (H_17.out.below bV_20)
  have H_30 := Lib.hid (H_18.out.below bV_20)
  have H_31 := Lib.hid (HX.out.below bV_20)
  have HB := Lib.hid (HB.out.trans (bV_20.mono HB.out.size))
  have o_32 : w2.heap.size ≤ V_20.heap.size := bV_20.size
  clear c_12 s_13 c_14 s_15
  clear bV_20
  go_wp2_with fail
  clear hV_20
  refine (specVmapJoin_m H_28.out H_29.out c d (by omega)).mono ?_
  rintro e w3 ⟨ay, ys, cy, hky, rfl, hmy, hb⟩
  rw [← HJB.out]
  have c_33 := (hb.cell (p := ⟨w1.heap.size, 0, none⟩) s_25).trans c_24
  have s_34 : w1.heap.size < w3.heap.size := Nat.lt_of_lt_of_le s_25 hb.size
  have c_35 := (hb.cell (p := ⟨w1.heap.size + 1, 0, none⟩) s_27).trans c_26
  have s_36 : w1.heap.size + 1 < w3.heap.size := Nat.lt_of_lt_of_le s_27 hb.size
  have c_37 := (hb.cell (p := ⟨w2.heap.size, 0, none⟩) s_22).trans c_21
  have s_38 : w2.heap.size < w3.heap.size := Nat.lt_of_lt_of_le s_22 hb.size
  have H_39 := Lib.hid (H_28.out.below hb)
  have H_40 := Lib.hid (H_29.out.below hb)
  have H_41 := Lib.hid (H_30.out.below hb)
  have H_42 := Lib.hid (H_31.out.below hb)
  have HB := Lib.hid (HB.out.trans (hb.mono HB.out.size))
  have o_43 : V_20.heap.size ≤ w3.heap.size := hb.size
  clear c_24 s_25 c_26 s_27 c_21 s_22
  have HY := Lib.hid hmy
  have HXY := Lib.hid (HKX.out.trans hky.symm)
  clear hb hmy hky
  obtain ⟨V_44, hV_44⟩ : ∃ V_44, w3.alloc (.cells #[.slice ay ys.length cy] 25) = V_44 := ⟨_, rfl⟩
  have bV_44 : Below w3.heap.size w3 V_44 := by rw [← hV_44]; exact (Below.refl _ _).alloc (Nat.le_refl _) _
  have c_45 : V_44.cell? ⟨w3.heap.size, 0, none⟩ = some (.slice ay ys.length cy) := by rw [← hV_44]; simp [go_sem]
  have s_46 : w3.heap.size < V_44.heap.size := by rw [← hV_44]; simp
  have k_47 : w3.heap.size < V_44.heap.size := s_46
  have c_48 := (bV_44.cell (p := ⟨w1.heap.size, 0, none⟩) s_34).trans c_33
  have s_49 : w1.heap.size < V_44.heap.size := Nat.lt_of_lt_of_le s_34 bV_44.size
  have c_50 := (bV_44.cell (p := ⟨w1.heap.size + 1, 0, none⟩) s_36).trans c_35
  have s_51 : w1.heap.size + 1 < V_44.heap.size := Nat.lt_of_lt_of_le s_36 bV_44.size
  have c_52 := (bV_44.cell (p := ⟨w2.heap.size, 0, none⟩) s_38).trans c_37
  have s_53 : w2.heap.size < V_44.heap.size := Nat.lt_of_lt_of_le s_38 bV_44.size
  have H_54 := Lib.hid (H_39.out.below bV_44)
  have H_55 := Lib.hid (H_40.out.below bV_44)
  have H_56 := Lib.hid (H_41.out.below bV_44)
  have H_57 := Lib.hid (H_42.out.below bV_44)
  have H_58 := Lib.hid (HY.out.below bV_44)
  have HB := Lib.hid (HB.out.trans (bV_44.mono HB.out.size))
  have o_59 : w3.heap.size ≤ V_44.heap.size := bV_44.size
  clear c_33 s_34 c_35 s_36 c_37 s_38
  clear bV_44
  cases jb
  · skip
    go_wp2_with fail
    clear hV_44
    refine (caMap_m H_57.out H_58.out HXY.out cx cy).mono ?_
    rintro e w4 ⟨rfl, hb⟩
    have c_1060 := (hb.cell (p := ⟨w1.heap.size, 0, none⟩) s_49).trans c_48
    have s_1061 : w1.heap.size < w4.heap.size := Nat.lt_of_lt_of_le s_49 hb.size
    have c_1062 := (hb.cell (p := ⟨w1.heap.size + 1, 0, none⟩) s_51).trans c_50
    have s_1063 : w1.heap.size + 1 < w4.heap.size := Nat.lt_of_lt_of_le s_51 hb.size
    have c_1064 := (hb.cell (p := ⟨w2.heap.size, 0, none⟩) s_53).trans c_52
    have s_1065 : w2.heap.size < w4.heap.size := Nat.lt_of_lt_of_le s_53 hb.size
    have c_1066 := (hb.cell (p := ⟨w3.heap.size, 0, none⟩) s_46).trans c_45
    have s_1067 : w3.heap.size < w4.heap.size := Nat.lt_of_lt_of_le s_46 hb.size
    have H_1068 := Lib.hid (H_54.out.below hb)
    have H_1069 := Lib.hid (H_55.out.below hb)
    have H_1070 := Lib.hid (H_56.out.below hb)
    have H_1071 := Lib.hid (H_57.out.below hb)
    have H_1072 := Lib.hid (H_58.out.below hb)
    have HB := Lib.hid (HB.out.trans (hb.mono HB.out.size))
    have o_1073 : V_44.heap.size ≤ w4.heap.size := hb.size
    clear c_48 s_49 c_50 s_51 c_52 s_53 c_45 s_46
    clear hb
    go_wp2_with fail
    refine (caMap_m H_1071.out H_1072.out HXY.out cx cy).mono ?_
    rintro e w5 ⟨rfl, hb⟩
    have c_1074 := (hb.cell (p := ⟨w1.heap.size, 0, none⟩) s_1061).trans c_1060
    have s_1075 : w1.heap.size < w5.heap.size := Nat.lt_of_lt_of_le s_1061 hb.size
    have c_1076 := (hb.cell (p := ⟨w1.heap.size + 1, 0, none⟩) s_1063).trans c_1062
    have s_1077 : w1.heap.size + 1 < w5.heap.size := Nat.lt_of_lt_of_le s_1063 hb.size
    have c_1078 := (hb.cell (p := ⟨w2.heap.size, 0, none⟩) s_1065).trans c_1064
    have s_1079 : w2.heap.size < w5.heap.size := Nat.lt_of_lt_of_le s_1065 hb.size
    have c_1080 := (hb.cell (p := ⟨w3.heap.size, 0, none⟩) s_1067).trans c_1066
    have s_1081 : w3.heap.size < w5.heap.size := Nat.lt_of_lt_of_le s_1067 hb.size
    have H_1082 := Lib.hid (H_1068.out.below hb)
    have H_1083 := Lib.hid (H_1069.out.below hb)
    have H_1084 := Lib.hid (H_1070.out.below hb)
    have H_1085 := Lib.hid (H_1071.out.below hb)
    have H_1086 := Lib.hid (H_1072.out.below hb)
    have HB := Lib.hid (HB.out.trans (hb.mono HB.out.size))
    have o_1087 : w4.heap.size ≤ w5.heap.size := hb.size
    clear c_1060 s_1061 c_1062 s_1063 c_1064 s_1065 c_1066 s_1067
    clear hb
    go_wp2_with fail
    go_ret
    exact ⟨rfl, HB.out⟩
  · skip
    go_wp2_with fail
    clear hV_44
    refine (caMap_m H_57.out H_58.out HXY.out cx cy).mono ?_
    rintro e w4 ⟨rfl, hb⟩
    have c_1060 := (hb.cell (p := ⟨w1.heap.size, 0, none⟩) s_49).trans c_48
    have s_1061 : w1.heap.size < w4.heap.size := Nat.lt_of_lt_of_le s_49 hb.size
    have c_1062 := (hb.cell (p := ⟨w1.heap.size + 1, 0, none⟩) s_51).trans c_50
    have s_1063 : w1.heap.size + 1 < w4.heap.size := Nat.lt_of_lt_of_le s_51 hb.size
    have c_1064 := (hb.cell (p := ⟨w2.heap.size, 0, none⟩) s_53).trans c_52
    have s_1065 : w2.heap.size < w4.heap.size := Nat.lt_of_lt_of_le s_53 hb.size
    have c_1066 := (hb.cell (p := ⟨w3.heap.size, 0, none⟩) s_46).trans c_45
    have s_1067 : w3.heap.size < w4.heap.size := Nat.lt_of_lt_of_le s_46 hb.size
    have H_1068 := Lib.hid (H_54.out.below hb)
    have H_1069 := Lib.hid (H_55.out.below hb)
    have H_1070 := Lib.hid (H_56.out.below hb)
    have H_1071 := Lib.hid (H_57.out.below hb)
    have H_1072 := Lib.hid (H_58.out.below hb)
    have HB := Lib.hid (HB.out.trans (hb.mono HB.out.size))
    have o_1073 : V_44.heap.size ≤ w4.heap.size := hb.size
    clear c_48 s_49 c_50 s_51 c_52 s_53 c_45 s_46
    clear hb
    go_wp2_with fail
    clear c_1066 s_1067
    have HKV := Lib.hid (joinB_kv HJB.out.symm)
    have HXV := Lib.hid (HKX.out.trans (joinF_kv HKV.out))
    refine (drawVmapGet_any am2 len2 cap2 _ H_1070.out).mono ?_
    rintro e w6 ⟨os2, am3, c2, key, hkey, rfl, hD2, hb⟩
    have HKY := Lib.hid hkey
    clear hkey hD2
    have c_1074 := (hb.cell (p := ⟨w1.heap.size, 0, none⟩) s_1061).trans c_1060
    have s_1075 : w1.heap.size < w6.heap.size := Nat.lt_of_lt_of_le s_1061 hb.size
    have c_1076 := (hb.cell (p := ⟨w1.heap.size + 1, 0, none⟩) s_1063).trans c_1062
    have s_1077 : w1.heap.size + 1 < w6.heap.size := Nat.lt_of_lt_of_le s_1063 hb.size
    have c_1078 := (hb.cell (p := ⟨w2.heap.size, 0, none⟩) s_1065).trans c_1064
    have s_1079 : w2.heap.size < w6.heap.size := Nat.lt_of_lt_of_le s_1065 hb.size
    have H_1080 := Lib.hid (H_1068.out.below hb)
    have H_1081 := Lib.hid (H_1069.out.below hb)
    have H_1082 := Lib.hid (H_1070.out.below hb)
    have H_1083 := Lib.hid (H_1071.out.below hb)
    have HB := Lib.hid (HB.out.trans (hb.mono HB.out.size))
    have o_1084 : w4.heap.size ≤ w6.heap.size := hb.size
    clear c_1060 s_1061 c_1062 s_1063 c_1064 s_1065
    clear hb
    obtain ⟨V_1085, hV_1085⟩ : ∃ V_1085, w6.alloc (.cells #[.slice am3 os2.length c2] 25) = V_1085 := ⟨_, rfl⟩
    have bV_1085 : Below w6.heap.size w6 V_1085 := by rw [← hV_1085]; exact (Below.refl _ _).alloc (Nat.le_refl _) _
    have c_1086 : V_1085.cell? ⟨w6.heap.size, 0, none⟩ = some (.slice am3 os2.length c2) := by rw [← hV_1085]; simp [go_sem]
    have s_1087 : w6.heap.size < V_1085.heap.size := by rw [← hV_1085]; simp
    have k_1088 : w6.heap.size < V_1085.heap.size := s_1087
    have c_1089 := (bV_1085.cell (p := ⟨w1.heap.size, 0, none⟩) s_1075).trans c_1074
    have s_1090 : w1.heap.size < V_1085.heap.size := Nat.lt_of_lt_of_le s_1075 bV_1085.size
    have c_1091 := (bV_1085.cell (p := ⟨w1.heap.size + 1, 0, none⟩) s_1077).trans c_1076
    have s_1092 : w1.heap.size + 1 < V_1085.heap.size := Nat.lt_of_lt_of_le s_1077 bV_1085.size
    have c_1093 := (bV_1085.cell (p := ⟨w2.heap.size, 0, none⟩) s_1079).trans c_1078
    have s_1094 : w2.heap.size < V_1085.heap.size := Nat.lt_of_lt_of_le s_1079 bV_1085.size
    have H_1095 := Lib.hid (H_1080.out.below bV_1085)
    have H_1096 := Lib.hid (H_1081.out.below bV_1085)
    have H_1097 := Lib.hid (H_1083.out.below bV_1085)
    have HB := Lib.hid (HB.out.trans (bV_1085.mono HB.out.size))
    have o_1098 : w6.heap.size ≤ V_1085.heap.size := bV_1085.size
    clear c_1074 s_1075 c_1076 s_1077 c_1078 s_1079
    clear bV_1085
    go_wp2_with fail
    clear hV_1085
    clear c_1086 s_1087
    refine (vmapGet_v H_1097.out cx key HKY.out).mono ?_
    rintro e w7 ⟨i1, t1, g1, b1, hv, rfl, hb⟩
    have K1 := Lib.hid hv
    clear hv
    have c_1099 := (hb.cell (p := ⟨w1.heap.size, 0, none⟩) s_1090).trans c_1089
    have s_1100 : w1.heap.size < w7.heap.size := Nat.lt_of_lt_of_le s_1090 hb.size
    have c_1101 := (hb.cell (p := ⟨w1.heap.size + 1, 0, none⟩) s_1092).trans c_1091
    have s_1102 : w1.heap.size + 1 < w7.heap.size := Nat.lt_of_lt_of_le s_1092 hb.size
    have c_1103 := (hb.cell (p := ⟨w2.heap.size, 0, none⟩) s_1094).trans c_1093
    have s_1104 : w2.heap.size < w7.heap.size := Nat.lt_of_lt_of_le s_1094 hb.size
    have H_1105 := Lib.hid (H_1095.out.below hb)
    have H_1106 := Lib.hid (H_1096.out.below hb)
    have H_1107 := Lib.hid (H_1097.out.below hb)
    have HB := Lib.hid (HB.out.trans (hb.mono HB.out.size))
    have o_1108 : V_1085.heap.size ≤ w7.heap.size := hb.size
    clear c_1089 s_1090 c_1091 s_1092 c_1093 s_1094
    clear hb
    obtain ⟨V_1109, hV_1109⟩ : ∃ V_1109, w7.alloc (.cells #[.int .i64 i1, .string t1, .bool g1] 27) = V_1109 := ⟨_, rfl⟩
    have bV_1109 : Below w7.heap.size w7 V_1109 := by rw [← hV_1109]; exact (Below.refl _ _).alloc (Nat.le_refl _) _
    have c_1110 : V_1109.cell? ⟨w7.heap.size, 0, none⟩ = some (.int .i64 i1) := by rw [← hV_1109]; simp [go_sem]
    have c_1111 : V_1109.cell? ⟨w7.heap.size, 1, none⟩ = some (.string t1) := by rw [← hV_1109]; simp [go_sem]
    have c_1112 : V_1109.cell? ⟨w7.heap.size, 2, none⟩ = some (.bool g1) := by rw [← hV_1109]; simp [go_sem]
    have s_1113 : w7.heap.size < V_1109.heap.size := by rw [← hV_1109]; simp
    have k_1114 : w7.heap.size < V_1109.heap.size := s_1113
    have c_1115 := (bV_1109.cell (p := ⟨w1.heap.size, 0, none⟩) s_1100).trans c_1099
    have s_1116 : w1.heap.size < V_1109.heap.size := Nat.lt_of_lt_of_le s_1100 bV_1109.size
    have c_1117 := (bV_1109.cell (p := ⟨w1.heap.size + 1, 0, none⟩) s_1102).trans c_1101
    have s_1118 : w1.heap.size + 1 < V_1109.heap.size := Nat.lt_of_lt_of_le s_1102 bV_1109.size
    have c_1119 := (bV_1109.cell (p := ⟨w2.heap.size, 0, none⟩) s_1104).trans c_1103
    have s_1120 : w2.heap.size < V_1109.heap.size := Nat.lt_of_lt_of_le s_1104 bV_1109.size
    have H_1121 := Lib.hid (H_1105.out.below bV_1109)
    have H_1122 := Lib.hid (H_1106.out.below bV_1109)
    have H_1123 := Lib.hid (H_1107.out.below bV_1109)
    have HB := Lib.hid (HB.out.trans (bV_1109.mono HB.out.size))
    have o_1124 : w7.heap.size ≤ V_1109.heap.size := bV_1109.size
    clear c_1099 s_1100 c_1101 s_1102 c_1103 s_1104
    clear bV_1109
    go_wp2_with fail
    clear hV_1109
    refine (vmapGet_v H_1121.out c key HKY.out).mono ?_
    rintro e w8 ⟨i2, t2, g2, b2, hv, rfl, hb⟩
    have K2 := Lib.hid hv
    clear hv
    have c_1125 := (hb.cell (p := ⟨w1.heap.size, 0, none⟩) s_1116).trans c_1115
    have s_1126 : w1.heap.size < w8.heap.size := Nat.lt_of_lt_of_le s_1116 hb.size
    have c_1127 := (hb.cell (p := ⟨w1.heap.size + 1, 0, none⟩) s_1118).trans c_1117
    have s_1128 : w1.heap.size + 1 < w8.heap.size := Nat.lt_of_lt_of_le s_1118 hb.size
    have c_1129 := (hb.cell (p := ⟨w2.heap.size, 0, none⟩) s_1120).trans c_1119
    have s_1130 : w2.heap.size < w8.heap.size := Nat.lt_of_lt_of_le s_1120 hb.size
    have c_1131 := (hb.cell (p := ⟨w7.heap.size, 0, none⟩) s_1113).trans c_1110
    have c_1132 := (hb.cell (p := ⟨w7.heap.size, 1, none⟩) s_1113).trans c_1111
    have c_1133 := (hb.cell (p := ⟨w7.heap.size, 2, none⟩) s_1113).trans c_1112
    have s_1134 : w7.heap.size < w8.heap.size := Nat.lt_of_lt_of_le s_1113 hb.size
    have H_1135 := Lib.hid (H_1121.out.below hb)
    have H_1136 := Lib.hid (H_1122.out.below hb)
    have H_1137 := Lib.hid (H_1123.out.below hb)
    have HB := Lib.hid (HB.out.trans (hb.mono HB.out.size))
    have o_1138 : V_1109.heap.size ≤ w8.heap.size := hb.size
    clear c_1115 s_1116 c_1117 s_1118 c_1119 s_1120 c_1110 c_1111 c_1112 s_1113
    clear hb
    obtain ⟨V_1139, hV_1139⟩ : ∃ V_1139, w8.alloc (.cells #[.int .i64 i2, .string t2, .bool g2] 27) = V_1139 := ⟨_, rfl⟩
    have bV_1139 : Below w8.heap.size w8 V_1139 := by rw [← hV_1139]; exact (Below.refl _ _).alloc (Nat.le_refl _) _
    have c_1140 : V_1139.cell? ⟨w8.heap.size, 0, none⟩ = some (.int .i64 i2) := by rw [← hV_1139]; simp [go_sem]
    have c_1141 : V_1139.cell? ⟨w8.heap.size, 1, none⟩ = some (.string t2) := by rw [← hV_1139]; simp [go_sem]
    have c_1142 : V_1139.cell? ⟨w8.heap.size, 2, none⟩ = some (.bool g2) := by rw [← hV_1139]; simp [go_sem]
    have s_1143 : w8.heap.size < V_1139.heap.size := by rw [← hV_1139]; simp
    have k_1144 : w8.heap.size < V_1139.heap.size := s_1143
    have c_1145 := (bV_1139.cell (p := ⟨w1.heap.size, 0, none⟩) s_1126).trans c_1125
    have s_1146 : w1.heap.size < V_1139.heap.size := Nat.lt_of_lt_of_le s_1126 bV_1139.size
    have c_1147 := (bV_1139.cell (p := ⟨w1.heap.size + 1, 0, none⟩) s_1128).trans c_1127
    have s_1148 : w1.heap.size + 1 < V_1139.heap.size := Nat.lt_of_lt_of_le s_1128 bV_1139.size
    have c_1149 := (bV_1139.cell (p := ⟨w2.heap.size, 0, none⟩) s_1130).trans c_1129
    have s_1150 : w2.heap.size < V_1139.heap.size := Nat.lt_of_lt_of_le s_1130 bV_1139.size
    have c_1151 := (bV_1139.cell (p := ⟨w7.heap.size, 0, none⟩) s_1134).trans c_1131
    have c_1152 := (bV_1139.cell (p := ⟨w7.heap.size, 1, none⟩) s_1134).trans c_1132
    have c_1153 := (bV_1139.cell (p := ⟨w7.heap.size, 2, none⟩) s_1134).trans c_1133
    have s_1154 : w7.heap.size < V_1139.heap.size := Nat.lt_of_lt_of_le s_1134 bV_1139.size
    have H_1155 := Lib.hid (H_1135.out.below bV_1139)
    have H_1156 := Lib.hid (H_1136.out.below bV_1139)
    have H_1157 := Lib.hid (H_1137.out.below bV_1139)
    have HB := Lib.hid (HB.out.trans (bV_1139.mono HB.out.size))
    have o_1158 : w8.heap.size ≤ V_1139.heap.size := bV_1139.size
    clear c_1125 s_1126 c_1127 s_1128 c_1129 s_1130 c_1131 c_1132 c_1133 s_1134
    clear bV_1139
    go_wp2_with fail
    clear hV_1139
    refine (vmapGet_v H_1156.out d key HKY.out).mono ?_
    rintro e w9 ⟨i3, t3, g3, b3, hv, rfl, hb⟩
    have K3 := Lib.hid hv
    clear hv
    have c_1159 := (hb.cell (p := ⟨w1.heap.size, 0, none⟩) s_1146).trans c_1145
    have s_1160 : w1.heap.size < w9.heap.size := Nat.lt_of_lt_of_le s_1146 hb.size
    have c_1161 := (hb.cell (p := ⟨w1.heap.size + 1, 0, none⟩) s_1148).trans c_1147
    have s_1162 : w1.heap.size + 1 < w9.heap.size := Nat.lt_of_lt_of_le s_1148 hb.size
    have c_1163 := (hb.cell (p := ⟨w2.heap.size, 0, none⟩) s_1150).trans c_1149
    have s_1164 : w2.heap.size < w9.heap.size := Nat.lt_of_lt_of_le s_1150 hb.size
    have c_1165 := (hb.cell (p := ⟨w7.heap.size, 0, none⟩) s_1154).trans c_1151
    have c_1166 := (hb.cell (p := ⟨w7.heap.size, 1, none⟩) s_1154).trans c_1152
    have c_1167 := (hb.cell (p := ⟨w7.heap.size, 2, none⟩) s_1154).trans c_1153
    have s_1168 : w7.heap.size < w9.heap.size := Nat.lt_of_lt_of_le s_1154 hb.size
    have c_1169 := (hb.cell (p := ⟨w8.heap.size, 0, none⟩) s_1143).trans c_1140
    have c_1170 := (hb.cell (p := ⟨w8.heap.size, 1, none⟩) s_1143).trans c_1141
    have c_1171 := (hb.cell (p := ⟨w8.heap.size, 2, none⟩) s_1143).trans c_1142
    have s_1172 : w8.heap.size < w9.heap.size := Nat.lt_of_lt_of_le s_1143 hb.size
    have H_1173 := Lib.hid (H_1155.out.below hb)
    have H_1174 := Lib.hid (H_1156.out.below hb)
    have H_1175 := Lib.hid (H_1157.out.below hb)
    have HB := Lib.hid (HB.out.trans (hb.mono HB.out.size))
    have o_1176 : V_1139.heap.size ≤ w9.heap.size := hb.size
    clear c_1145 s_1146 c_1147 s_1148 c_1149 s_1150 c_1151 c_1152 c_1153 s_1154 c_1140 c_1141 c_1142 s_1143
    clear hb
    obtain ⟨V_1177, hV_1177⟩ : ∃ V_1177, w9.alloc (.cells #[.int .i64 i3, .string t3, .bool g3] 27) = V_1177 := ⟨_, rfl⟩
    have bV_1177 : Below w9.heap.size w9 V_1177 := by rw [← hV_1177]; exact (Below.refl _ _).alloc (Nat.le_refl _) _
    have c_1178 : V_1177.cell? ⟨w9.heap.size, 0, none⟩ = some (.int .i64 i3) := by rw [← hV_1177]; simp [go_sem]
    have c_1179 : V_1177.cell? ⟨w9.heap.size, 1, none⟩ = some (.string t3) := by rw [← hV_1177]; simp [go_sem]
    have c_1180 : V_1177.cell? ⟨w9.heap.size, 2, none⟩ = some (.bool g3) := by rw [← hV_1177]; simp [go_sem]
    have s_1181 : w9.heap.size < V_1177.heap.size := by rw [← hV_1177]; simp
    have k_1182 : w9.heap.size < V_1177.heap.size := s_1181
    have c_1183 := (bV_1177.cell (p := ⟨w1.heap.size, 0, none⟩) s_1160).trans c_1159
    have s_1184 : w1.heap.size < V_1177.heap.size := Nat.lt_of_lt_of_le s_1160 bV_1177.size
    have c_1185 := (bV_1177.cell (p := ⟨w1.heap.size + 1, 0, none⟩) s_1162).trans c_1161
    have s_1186 : w1.heap.size + 1 < V_1177.heap.size := Nat.lt_of_lt_of_le s_1162 bV_1177.size
    have c_1187 := (bV_1177.cell (p := ⟨w2.heap.size, 0, none⟩) s_1164).trans c_1163
    have s_1188 : w2.heap.size < V_1177.heap.size := Nat.lt_of_lt_of_le s_1164 bV_1177.size
    have c_1189 := (bV_1177.cell (p := ⟨w7.heap.size, 0, none⟩) s_1168).trans c_1165
    have c_1190 := (bV_1177.cell (p := ⟨w7.heap.size, 1, none⟩) s_1168).trans c_1166
    have c_1191 := (bV_1177.cell (p := ⟨w7.heap.size, 2, none⟩) s_1168).trans c_1167
    have s_1192 : w7.heap.size < V_1177.heap.size := Nat.lt_of_lt_of_le s_1168 bV_1177.size
    have c_1193 := (bV_1177.cell (p := ⟨w8.heap.size, 0, none⟩) s_1172).trans c_1169
    have c_1194 := (bV_1177.cell (p := ⟨w8.heap.size, 1, none⟩) s_1172).trans c_1170
    have c_1195 := (bV_1177.cell (p := ⟨w8.heap.size, 2, none⟩) s_1172).trans c_1171
    have s_1196 : w8.heap.size < V_1177.heap.size := Nat.lt_of_lt_of_le s_1172 bV_1177.size
    have H_1197 := Lib.hid (H_1173.out.below bV_1177)
    have H_1198 := Lib.hid (H_1174.out.below bV_1177)
    have H_1199 := Lib.hid (H_1175.out.below bV_1177)
    have HB := Lib.hid (HB.out.trans (bV_1177.mono HB.out.size))
    have o_1200 : w9.heap.size ≤ V_1177.heap.size := bV_1177.size
    clear c_1159 s_1160 c_1161 s_1162 c_1163 s_1164 c_1165 c_1166 c_1167 s_1168 c_1169 c_1170 c_1171 s_1172
    clear bV_1177
    obtain ⟨hor, hone⟩ := atR_join (key := key) (id := 9999) HKV.out HXV.out
    have HXO := Lib.hid (show MokIs true xs from ⟨fun _ => by rw [mapOk_kv, HXV.out]; exact HKV.out, fun _ => rfl⟩)
    have hlen : xs.length = os.length + ps.length := by have := congrArg List.length HXV.out; simpa using this
    have HLE := Lib.hid hlen
    have HOR := Lib.hid hor
    have HONE := Lib.hid hone
    clear hor hone hlen
    have hwr : IntKind.i64.wrap ((os.length : Int) + (ps.length : Int)) = (os.length : Int) + (ps.length : Int) := IntWalk.i64_in _ (by omega)
    have hlei : (xs.length : Int) = (os.length : Int) + (ps.length : Int) := by have := HLE.out; omega
    have hleb : ((xs.length : Int) == (os.length : Int) + (ps.length : Int)) = true := by simpa using hlei
    have HLB := Lib.hid hleb
    clear hlei hleb
    cases b2 <;> cases b3
    · skip
      have hx : atR xs key 9999 = none := by rw [HOR.out, K2.out.none_.1, K3.out.none_.1]; rfl
      have KX := K1.out
      rw [hx] at KX
      obtain rfl : b1 = false := by have := KX.bool; simpa using this
      clear hx KX
      have hleb := HLB.out
      go_wp2_with fail
      refine (vmapOk_is HXO.out H_1199.out cx).mono ?_
      rintro e w10 ⟨rfl, hb⟩
      have c_2201 := (hb.cell (p := ⟨w1.heap.size, 0, none⟩) s_1184).trans c_1183
      have s_2202 : w1.heap.size < w10.heap.size := Nat.lt_of_lt_of_le s_1184 hb.size
      have c_2203 := (hb.cell (p := ⟨w1.heap.size + 1, 0, none⟩) s_1186).trans c_1185
      have s_2204 : w1.heap.size + 1 < w10.heap.size := Nat.lt_of_lt_of_le s_1186 hb.size
      have c_2205 := (hb.cell (p := ⟨w2.heap.size, 0, none⟩) s_1188).trans c_1187
      have s_2206 : w2.heap.size < w10.heap.size := Nat.lt_of_lt_of_le s_1188 hb.size
      have c_2207 := (hb.cell (p := ⟨w7.heap.size, 0, none⟩) s_1192).trans c_1189
      have c_2208 := (hb.cell (p := ⟨w7.heap.size, 1, none⟩) s_1192).trans c_1190
      have c_2209 := (hb.cell (p := ⟨w7.heap.size, 2, none⟩) s_1192).trans c_1191
      have s_2210 : w7.heap.size < w10.heap.size := Nat.lt_of_lt_of_le s_1192 hb.size
      have c_2211 := (hb.cell (p := ⟨w8.heap.size, 0, none⟩) s_1196).trans c_1193
      have c_2212 := (hb.cell (p := ⟨w8.heap.size, 1, none⟩) s_1196).trans c_1194
      have c_2213 := (hb.cell (p := ⟨w8.heap.size, 2, none⟩) s_1196).trans c_1195
      have s_2214 : w8.heap.size < w10.heap.size := Nat.lt_of_lt_of_le s_1196 hb.size
      have c_2215 := (hb.cell (p := ⟨w9.heap.size, 0, none⟩) s_1181).trans c_1178
      have c_2216 := (hb.cell (p := ⟨w9.heap.size, 1, none⟩) s_1181).trans c_1179
      have c_2217 := (hb.cell (p := ⟨w9.heap.size, 2, none⟩) s_1181).trans c_1180
      have s_2218 : w9.heap.size < w10.heap.size := Nat.lt_of_lt_of_le s_1181 hb.size
      have H_2219 := Lib.hid (H_1197.out.below hb)
      have H_2220 := Lib.hid (H_1198.out.below hb)
      have H_2221 := Lib.hid (H_1199.out.below hb)
      have HB := Lib.hid (HB.out.trans (hb.mono HB.out.size))
      have o_2222 : V_1177.heap.size ≤ w10.heap.size := hb.size
      clear c_1183 s_1184 c_1185 s_1186 c_1187 s_1188 c_1189 c_1190 c_1191 s_1192 c_1193 c_1194 c_1195 s_1196 c_1178 c_1179 c_1180 s_1181
      clear hb
      go_wp2_with fail
      go_ret
      exact ⟨rfl, HB.out⟩
    · skip
      have hx : atR xs key 9999 = atR ps key 9999 := by rw [HOR.out, K2.out.none_.1]; simp
      have KX := K1.out
      rw [hx] at KX
      obtain ⟨rfl, rfl, rfl, rfl⟩ := VerIs.one K3.out KX
      clear hx KX
      have hleb := HLB.out
      go_wp2_with fail
      refine (vmapOk_is HXO.out H_1199.out cx).mono ?_
      rintro e w10 ⟨rfl, hb⟩
      have c_2201 := (hb.cell (p := ⟨w1.heap.size, 0, none⟩) s_1184).trans c_1183
      have s_2202 : w1.heap.size < w10.heap.size := Nat.lt_of_lt_of_le s_1184 hb.size
      have c_2203 := (hb.cell (p := ⟨w1.heap.size + 1, 0, none⟩) s_1186).trans c_1185
      have s_2204 : w1.heap.size + 1 < w10.heap.size := Nat.lt_of_lt_of_le s_1186 hb.size
      have c_2205 := (hb.cell (p := ⟨w2.heap.size, 0, none⟩) s_1188).trans c_1187
      have s_2206 : w2.heap.size < w10.heap.size := Nat.lt_of_lt_of_le s_1188 hb.size
      have c_2207 := (hb.cell (p := ⟨w7.heap.size, 0, none⟩) s_1192).trans c_1189
      have c_2208 := (hb.cell (p := ⟨w7.heap.size, 1, none⟩) s_1192).trans c_1190
      have c_2209 := (hb.cell (p := ⟨w7.heap.size, 2, none⟩) s_1192).trans c_1191
      have s_2210 : w7.heap.size < w10.heap.size := Nat.lt_of_lt_of_le s_1192 hb.size
      have c_2211 := (hb.cell (p := ⟨w8.heap.size, 0, none⟩) s_1196).trans c_1193
      have c_2212 := (hb.cell (p := ⟨w8.heap.size, 1, none⟩) s_1196).trans c_1194
      have c_2213 := (hb.cell (p := ⟨w8.heap.size, 2, none⟩) s_1196).trans c_1195
      have s_2214 : w8.heap.size < w10.heap.size := Nat.lt_of_lt_of_le s_1196 hb.size
      have c_2215 := (hb.cell (p := ⟨w9.heap.size, 0, none⟩) s_1181).trans c_1178
      have c_2216 := (hb.cell (p := ⟨w9.heap.size, 1, none⟩) s_1181).trans c_1179
      have c_2217 := (hb.cell (p := ⟨w9.heap.size, 2, none⟩) s_1181).trans c_1180
      have s_2218 : w9.heap.size < w10.heap.size := Nat.lt_of_lt_of_le s_1181 hb.size
      have H_2219 := Lib.hid (H_1197.out.below hb)
      have H_2220 := Lib.hid (H_1198.out.below hb)
      have H_2221 := Lib.hid (H_1199.out.below hb)
      have HB := Lib.hid (HB.out.trans (hb.mono HB.out.size))
      have o_2222 : V_1177.heap.size ≤ w10.heap.size := hb.size
      clear c_1183 s_1184 c_1185 s_1186 c_1187 s_1188 c_1189 c_1190 c_1191 s_1192 c_1193 c_1194 c_1195 s_1196 c_1178 c_1179 c_1180 s_1181
      clear hb
      go_wp2_with fail
      go_ret
      exact ⟨rfl, HB.out⟩
    · skip
      have hx : atR xs key 9999 = atR os key 9999 := by rw [HOR.out, K3.out.none_.1]; simp
      have KX := K1.out
      rw [hx] at KX
      obtain ⟨rfl, rfl, rfl, rfl⟩ := VerIs.one K2.out KX
      clear hx KX
      have hleb := HLB.out
      go_wp2_with fail
      refine (vmapOk_is HXO.out H_1199.out cx).mono ?_
      rintro e w10 ⟨rfl, hb⟩
      have c_2201 := (hb.cell (p := ⟨w1.heap.size, 0, none⟩) s_1184).trans c_1183
      have s_2202 : w1.heap.size < w10.heap.size := Nat.lt_of_lt_of_le s_1184 hb.size
      have c_2203 := (hb.cell (p := ⟨w1.heap.size + 1, 0, none⟩) s_1186).trans c_1185
      have s_2204 : w1.heap.size + 1 < w10.heap.size := Nat.lt_of_lt_of_le s_1186 hb.size
      have c_2205 := (hb.cell (p := ⟨w2.heap.size, 0, none⟩) s_1188).trans c_1187
      have s_2206 : w2.heap.size < w10.heap.size := Nat.lt_of_lt_of_le s_1188 hb.size
      have c_2207 := (hb.cell (p := ⟨w7.heap.size, 0, none⟩) s_1192).trans c_1189
      have c_2208 := (hb.cell (p := ⟨w7.heap.size, 1, none⟩) s_1192).trans c_1190
      have c_2209 := (hb.cell (p := ⟨w7.heap.size, 2, none⟩) s_1192).trans c_1191
      have s_2210 : w7.heap.size < w10.heap.size := Nat.lt_of_lt_of_le s_1192 hb.size
      have c_2211 := (hb.cell (p := ⟨w8.heap.size, 0, none⟩) s_1196).trans c_1193
      have c_2212 := (hb.cell (p := ⟨w8.heap.size, 1, none⟩) s_1196).trans c_1194
      have c_2213 := (hb.cell (p := ⟨w8.heap.size, 2, none⟩) s_1196).trans c_1195
      have s_2214 : w8.heap.size < w10.heap.size := Nat.lt_of_lt_of_le s_1196 hb.size
      have c_2215 := (hb.cell (p := ⟨w9.heap.size, 0, none⟩) s_1181).trans c_1178
      have c_2216 := (hb.cell (p := ⟨w9.heap.size, 1, none⟩) s_1181).trans c_1179
      have c_2217 := (hb.cell (p := ⟨w9.heap.size, 2, none⟩) s_1181).trans c_1180
      have s_2218 : w9.heap.size < w10.heap.size := Nat.lt_of_lt_of_le s_1181 hb.size
      have H_2219 := Lib.hid (H_1197.out.below hb)
      have H_2220 := Lib.hid (H_1198.out.below hb)
      have H_2221 := Lib.hid (H_1199.out.below hb)
      have HB := Lib.hid (HB.out.trans (hb.mono HB.out.size))
      have o_2222 : V_1177.heap.size ≤ w10.heap.size := hb.size
      clear c_1183 s_1184 c_1185 s_1186 c_1187 s_1188 c_1189 c_1190 c_1191 s_1192 c_1193 c_1194 c_1195 s_1196 c_1178 c_1179 c_1180 s_1181
      clear hb
      go_wp2_with fail
      go_ret
      exact ⟨rfl, HB.out⟩
    · skip
      exfalso
      rcases HONE.out with h | h
      · rw [K2.out.some_] at h; cases h
      · rw [K3.out.some_] at h; cases h
end Go.Proofs.Ytjijichgoodocaa
