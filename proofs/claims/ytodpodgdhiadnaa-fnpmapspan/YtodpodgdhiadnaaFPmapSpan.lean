/- The law FnPmapSpan: rows are one behind the other. -/
import Derived.Test.YtodpodgdhiadnaaDrawT
import Derived.Test.YtodpodgdhiadnaaPmK
import Derived.Test.YtodpodgdhiadnaaPmSpanS
namespace Go.Proofs.Ytodpodgdhiadnaa
open Go.RowKit

theorem pmSpan_both {ep : Int} {vs : List RowD} {k : Int} {b c : Bool} (h : b = true ↔ PmapOkP ep vs ∧ 0 ≤ k ∧ k < vs.length) (g : c = true ↔ PmapOkP ep vs ∧ 0 ≤ k ∧ k < vs.length) : b = c := by rw [Bool.eq_iff_iff, h, g]

set_option maxRecDepth 100000 in
set_option maxHeartbeats 4000000 in
theorem fnPmapSpan_law (a : Option Addr) (len cap : Nat) (w : World) (h : BytesIn w a len cap) :
    Calls Try.prog 9 #[.slice a len cap] w fun e w' => e = .returned (.bool true) ∧ Below w.heap.size w w' := by
  have hcm := h.2.1
  have hlc := h.1
  have H := Lib.hid h
  clear h
  unfold maxLen at hcm
  by_cases hl : 1048576 < len
  · go_enter Try.func9, Try.ntmps9
    go_wp2_with fail
    go_ret
    exact ⟨rfl, Below.refl _ _⟩
  go_enter Try.func9, Try.ntmps9
  go_wp2_with fail
  refine (drawPmapSpan_any a len cap _ H.out).mono ?_
  rintro e w1 ⟨ep, vs, am, c, k, hk1, hk2, rfl, hD, -, hb⟩
  have HB := Lib.hid hb
  have HD := Lib.hid hD
  have hv5 := hD.five
  have hv0 := hD.pos
  have HF := Lib.hid hD.fits
  clear hD hb H
  obtain ⟨V_1, hV_1⟩ : ∃ V_1, w1.alloc (.cells #[.int .i64 ep, .slice am vs.length c] 80) = V_1 := ⟨_, rfl⟩
  have bV_1 : Below w1.heap.size w1 V_1 := by rw [← hV_1]; exact (Below.refl _ _).alloc (Nat.le_refl _) _
  have c_2 : V_1.cell? ⟨w1.heap.size, 0, none⟩ = some (.int .i64 ep) := by rw [← hV_1]; simp [go_sem]
  have c_3 : V_1.cell? ⟨w1.heap.size, 1, none⟩ = some (.slice am vs.length c) := by rw [← hV_1]; simp [go_sem]
  have s_4 : w1.heap.size < V_1.heap.size := by rw [← hV_1]; simp
  have k_5 : w1.heap.size < V_1.heap.size := s_4
  have H_6 := Lib.hid (HD.out.below bV_1)
  have HB := Lib.hid (HB.out.trans (bV_1.mono HB.out.size))
  have o_7 : w1.heap.size ≤ V_1.heap.size := bV_1.size
  clear bV_1
  go_wp2_with fail
  clear hV_1
  refine (pmapSpan_any ep am vs c k _ H_6.out.inn HF.out (by omega)).mono ?_
  rintro e w2 ⟨b1, hk, rfl, hb⟩
  obtain ⟨lo, hlo⟩ : ∃ lo, lo = (if b1 then loOf vs (k).toNat else ⟨#[]⟩) := ⟨_, rfl⟩
  obtain ⟨hi, hhi⟩ : ∃ hi, hi = (if b1 then hiOf vs (k).toNat else ⟨#[]⟩) := ⟨_, rfl⟩
  rw [← hlo, ← hhi]
  have Kb1 := Lib.hid hk
  have Llo := Lib.hid hlo
  have Lhi := Lib.hid hhi
  clear hk hlo hhi
  have c_8 := (hb.cell (p := ⟨w1.heap.size, 0, none⟩) s_4).trans c_2
  have c_9 := (hb.cell (p := ⟨w1.heap.size, 1, none⟩) s_4).trans c_3
  have s_10 : w1.heap.size < w2.heap.size := Nat.lt_of_lt_of_le s_4 hb.size
  have H_11 := Lib.hid (H_6.out.below hb)
  have HB := Lib.hid (HB.out.trans (hb.mono HB.out.size))
  have o_12 : V_1.heap.size ≤ w2.heap.size := hb.size
  clear c_2 c_3 s_4
  clear hb
  obtain ⟨V_13, hV_13⟩ : ∃ V_13, w2.alloc (.cells #[.string lo, .string hi] 84) = V_13 := ⟨_, rfl⟩
  have bV_13 : Below w2.heap.size w2 V_13 := by rw [← hV_13]; exact (Below.refl _ _).alloc (Nat.le_refl _) _
  have c_14 : V_13.cell? ⟨w2.heap.size, 0, none⟩ = some (.string lo) := by rw [← hV_13]; simp [go_sem]
  have c_15 : V_13.cell? ⟨w2.heap.size, 1, none⟩ = some (.string hi) := by rw [← hV_13]; simp [go_sem]
  have s_16 : w2.heap.size < V_13.heap.size := by rw [← hV_13]; simp
  have k_17 : w2.heap.size < V_13.heap.size := s_16
  have c_18 := (bV_13.cell (p := ⟨w1.heap.size, 0, none⟩) s_10).trans c_8
  have c_19 := (bV_13.cell (p := ⟨w1.heap.size, 1, none⟩) s_10).trans c_9
  have s_20 : w1.heap.size < V_13.heap.size := Nat.lt_of_lt_of_le s_10 bV_13.size
  have H_21 := Lib.hid (H_11.out.below bV_13)
  have HB := Lib.hid (HB.out.trans (bV_13.mono HB.out.size))
  have o_22 : w2.heap.size ≤ V_13.heap.size := bV_13.size
  clear c_8 c_9 s_10
  clear bV_13
  go_wp2_with fail
  clear hV_13
  refine (specPmapSpan_any ep am vs c k _ H_21.out.inn HF.out (by omega)).mono ?_
  rintro e w3 ⟨b2, hk, rfl, hb⟩
  obtain rfl : b2 = b1 := pmSpan_both hk Kb1.out
  rw [← Llo.out, ← Lhi.out]
  clear hk
  have c_23 := (hb.cell (p := ⟨w1.heap.size, 0, none⟩) s_20).trans c_18
  have c_24 := (hb.cell (p := ⟨w1.heap.size, 1, none⟩) s_20).trans c_19
  have s_25 : w1.heap.size < w3.heap.size := Nat.lt_of_lt_of_le s_20 hb.size
  have c_26 := (hb.cell (p := ⟨w2.heap.size, 0, none⟩) s_16).trans c_14
  have c_27 := (hb.cell (p := ⟨w2.heap.size, 1, none⟩) s_16).trans c_15
  have s_28 : w2.heap.size < w3.heap.size := Nat.lt_of_lt_of_le s_16 hb.size
  have H_29 := Lib.hid (H_21.out.below hb)
  have HB := Lib.hid (HB.out.trans (hb.mono HB.out.size))
  have o_30 : V_13.heap.size ≤ w3.heap.size := hb.size
  clear c_18 c_19 s_20 c_14 c_15 s_16
  clear hb
  obtain ⟨V_31, hV_31⟩ : ∃ V_31, w3.alloc (.cells #[.string lo, .string hi] 84) = V_31 := ⟨_, rfl⟩
  have bV_31 : Below w3.heap.size w3 V_31 := by rw [← hV_31]; exact (Below.refl _ _).alloc (Nat.le_refl _) _
  have c_32 : V_31.cell? ⟨w3.heap.size, 0, none⟩ = some (.string lo) := by rw [← hV_31]; simp [go_sem]
  have c_33 : V_31.cell? ⟨w3.heap.size, 1, none⟩ = some (.string hi) := by rw [← hV_31]; simp [go_sem]
  have s_34 : w3.heap.size < V_31.heap.size := by rw [← hV_31]; simp
  have k_35 : w3.heap.size < V_31.heap.size := s_34
  have c_36 := (bV_31.cell (p := ⟨w1.heap.size, 0, none⟩) s_25).trans c_23
  have c_37 := (bV_31.cell (p := ⟨w1.heap.size, 1, none⟩) s_25).trans c_24
  have s_38 : w1.heap.size < V_31.heap.size := Nat.lt_of_lt_of_le s_25 bV_31.size
  have c_39 := (bV_31.cell (p := ⟨w2.heap.size, 0, none⟩) s_28).trans c_26
  have c_40 := (bV_31.cell (p := ⟨w2.heap.size, 1, none⟩) s_28).trans c_27
  have s_41 : w2.heap.size < V_31.heap.size := Nat.lt_of_lt_of_le s_28 bV_31.size
  have H_42 := Lib.hid (H_29.out.below bV_31)
  have HB := Lib.hid (HB.out.trans (bV_31.mono HB.out.size))
  have o_43 : w3.heap.size ≤ V_31.heap.size := bV_31.size
  clear c_23 c_24 s_25 c_26 c_27 s_28
  clear bV_31
  cases b2
  · go_wp2_with fail
    go_ret
    exact ⟨rfl, HB.out⟩
  go_wp2_with fail
  clear hV_31
  obtain ⟨hP, hk0, hkl⟩ := Kb1.out.1 (by simp)
  have HP := Lib.hid hP
  obtain ⟨j, rfl⟩ := Int.eq_ofNat_of_zero_le hk0
  have hj : j < vs.length := by omega
  have Elo := Lib.hid (show lo = loOf vs j by have := Llo.out; simpa using this)
  have Ehi := Lib.hid (show hi = hiOf vs j by have := Lhi.out; simpa using this)
  clear hP Llo Lhi Kb1
  refine (pmapSpan_any ep am vs c ((j : Int) + 1) _ H_42.out.inn HF.out (by omega)).mono ?_
  rintro e w4 ⟨b3, hk, rfl, hb⟩
  obtain ⟨lo2, hlo2⟩ : ∃ lo2, lo2 = (if b3 then loOf vs ((j : Int) + 1).toNat else ⟨#[]⟩) := ⟨_, rfl⟩
  obtain ⟨hi2, hhi2⟩ : ∃ hi2, hi2 = (if b3 then hiOf vs ((j : Int) + 1).toNat else ⟨#[]⟩) := ⟨_, rfl⟩
  rw [← hlo2, ← hhi2]
  have Kb3 := Lib.hid hk
  have Llo2 := Lib.hid hlo2
  have Lhi2 := Lib.hid hhi2
  clear hk hlo2 hhi2
  have c_44 := (hb.cell (p := ⟨w1.heap.size, 0, none⟩) s_38).trans c_36
  have c_45 := (hb.cell (p := ⟨w1.heap.size, 1, none⟩) s_38).trans c_37
  have s_46 : w1.heap.size < w4.heap.size := Nat.lt_of_lt_of_le s_38 hb.size
  have c_47 := (hb.cell (p := ⟨w2.heap.size, 0, none⟩) s_41).trans c_39
  have c_48 := (hb.cell (p := ⟨w2.heap.size, 1, none⟩) s_41).trans c_40
  have s_49 : w2.heap.size < w4.heap.size := Nat.lt_of_lt_of_le s_41 hb.size
  have c_50 := (hb.cell (p := ⟨w3.heap.size, 0, none⟩) s_34).trans c_32
  have c_51 := (hb.cell (p := ⟨w3.heap.size, 1, none⟩) s_34).trans c_33
  have s_52 : w3.heap.size < w4.heap.size := Nat.lt_of_lt_of_le s_34 hb.size
  have H_53 := Lib.hid (H_42.out.below hb)
  have HB := Lib.hid (HB.out.trans (hb.mono HB.out.size))
  have o_54 : V_31.heap.size ≤ w4.heap.size := hb.size
  clear c_36 c_37 s_38 c_39 c_40 s_41 c_32 c_33 s_34
  clear hb
  obtain ⟨V_55, hV_55⟩ : ∃ V_55, w4.alloc (.cells #[.string lo2, .string hi2] 84) = V_55 := ⟨_, rfl⟩
  have bV_55 : Below w4.heap.size w4 V_55 := by rw [← hV_55]; exact (Below.refl _ _).alloc (Nat.le_refl _) _
  have c_56 : V_55.cell? ⟨w4.heap.size, 0, none⟩ = some (.string lo2) := by rw [← hV_55]; simp [go_sem]
  have c_57 : V_55.cell? ⟨w4.heap.size, 1, none⟩ = some (.string hi2) := by rw [← hV_55]; simp [go_sem]
  have s_58 : w4.heap.size < V_55.heap.size := by rw [← hV_55]; simp
  have k_59 : w4.heap.size < V_55.heap.size := s_58
  have c_60 := (bV_55.cell (p := ⟨w1.heap.size, 0, none⟩) s_46).trans c_44
  have c_61 := (bV_55.cell (p := ⟨w1.heap.size, 1, none⟩) s_46).trans c_45
  have s_62 : w1.heap.size < V_55.heap.size := Nat.lt_of_lt_of_le s_46 bV_55.size
  have c_63 := (bV_55.cell (p := ⟨w2.heap.size, 0, none⟩) s_49).trans c_47
  have c_64 := (bV_55.cell (p := ⟨w2.heap.size, 1, none⟩) s_49).trans c_48
  have s_65 : w2.heap.size < V_55.heap.size := Nat.lt_of_lt_of_le s_49 bV_55.size
  have c_66 := (bV_55.cell (p := ⟨w3.heap.size, 0, none⟩) s_52).trans c_50
  have c_67 := (bV_55.cell (p := ⟨w3.heap.size, 1, none⟩) s_52).trans c_51
  have s_68 : w3.heap.size < V_55.heap.size := Nat.lt_of_lt_of_le s_52 bV_55.size
  have H_69 := Lib.hid (H_53.out.below bV_55)
  have HB := Lib.hid (HB.out.trans (bV_55.mono HB.out.size))
  have o_70 : w4.heap.size ≤ V_55.heap.size := bV_55.size
  clear c_44 c_45 s_46 c_47 c_48 s_49 c_50 c_51 s_52
  clear bV_55
  have sz1 : lo.size ≤ maxLen := by rw [Elo.out, loOf_lt hj]; exact HF.out _ (List.getElem_mem hj)
  have sz0 : (⟨#[]⟩ : ByteArray).size ≤ maxLen := by unfold maxLen; exact Nat.zero_le _
  have szh : ∀ i, (hiOf vs i).size ≤ maxLen := fun i => by
    by_cases q : i + 1 < vs.length
    · rw [hiOf_lt q]; exact HF.out _ (List.getElem_mem q)
    · rw [hiOf_ge q]; exact sz0
  have sz2 : hi.size ≤ maxLen := by rw [Ehi.out]; exact szh j
  have hsp := pm_span_ok HP.out hj
  rw [← Elo.out, ← Ehi.out] at hsp
  have HSP := Lib.hid hsp
  have SZ := Lib.hid (And.intro sz1 (And.intro sz2 szh))
  clear hsp sz1 sz2 szh
  by_cases hl2 : j + 1 < vs.length
  · skip
    obtain rfl : b3 = true := Kb3.out.2 ⟨HP.out, by omega, by omega⟩
    have hn1 : loOf vs ((j : Int) + 1).toNat = loOf vs (j + 1) := by congr 1
    have E2 := Lib.hid (show lo2 = loOf vs (j + 1) by have := Llo2.out; simpa using this)
    have E3 := Lib.hid (show hi2 = hiOf vs (j + 1) by have := Lhi2.out; simpa using this)
    have hjn := pm_join HP.out hl2
    rw [← Elo.out, ← Ehi.out, ← E2.out, ← E3.out] at hjn
    have HJ := Lib.hid hjn
    have hne := pm_hi_ne HP.out hl2
    rw [← Ehi.out] at hne
    have HNE := Lib.hid hne
    have sz4 : lo2.size ≤ maxLen := by rw [E2.out, loOf_lt hl2]; exact HF.out _ (List.getElem_mem hl2)
    have sz5 : hi2.size ≤ maxLen := by rw [E3.out]; exact SZ.out.2.2 _
    clear hjn hne hn1 Kb3 Llo2 Lhi2
    go_wp2_with fail
    clear hV_55
    refine (join_yes lo hi lo2 hi2 _ SZ.out.1 SZ.out.2.1 sz4 sz5 HJ.out).mono ?_
    rintro e w5 ⟨rfl, hb⟩
    have c_1071 := (hb.cell (p := ⟨w1.heap.size, 0, none⟩) s_62).trans c_60
    have c_1072 := (hb.cell (p := ⟨w1.heap.size, 1, none⟩) s_62).trans c_61
    have s_1073 : w1.heap.size < w5.heap.size := Nat.lt_of_lt_of_le s_62 hb.size
    have c_1074 := (hb.cell (p := ⟨w2.heap.size, 0, none⟩) s_65).trans c_63
    have c_1075 := (hb.cell (p := ⟨w2.heap.size, 1, none⟩) s_65).trans c_64
    have s_1076 : w2.heap.size < w5.heap.size := Nat.lt_of_lt_of_le s_65 hb.size
    have c_1077 := (hb.cell (p := ⟨w3.heap.size, 0, none⟩) s_68).trans c_66
    have c_1078 := (hb.cell (p := ⟨w3.heap.size, 1, none⟩) s_68).trans c_67
    have s_1079 : w3.heap.size < w5.heap.size := Nat.lt_of_lt_of_le s_68 hb.size
    have c_1080 := (hb.cell (p := ⟨w4.heap.size, 0, none⟩) s_58).trans c_56
    have c_1081 := (hb.cell (p := ⟨w4.heap.size, 1, none⟩) s_58).trans c_57
    have s_1082 : w4.heap.size < w5.heap.size := Nat.lt_of_lt_of_le s_58 hb.size
    have H_1083 := Lib.hid (H_69.out.below hb)
    have HB := Lib.hid (HB.out.trans (hb.mono HB.out.size))
    have o_1084 : V_55.heap.size ≤ w5.heap.size := hb.size
    clear c_60 c_61 s_62 c_63 c_64 s_65 c_66 c_67 s_68 c_56 c_57 s_58
    clear hb
    obtain ⟨V_1085, hV_1085⟩ : ∃ V_1085, w5.alloc (.cells #[.string lo, .string hi2] 84) = V_1085 := ⟨_, rfl⟩
    have bV_1085 : Below w5.heap.size w5 V_1085 := by rw [← hV_1085]; exact (Below.refl _ _).alloc (Nat.le_refl _) _
    have c_1086 : V_1085.cell? ⟨w5.heap.size, 0, none⟩ = some (.string lo) := by rw [← hV_1085]; simp [go_sem]
    have c_1087 : V_1085.cell? ⟨w5.heap.size, 1, none⟩ = some (.string hi2) := by rw [← hV_1085]; simp [go_sem]
    have s_1088 : w5.heap.size < V_1085.heap.size := by rw [← hV_1085]; simp
    have k_1089 : w5.heap.size < V_1085.heap.size := s_1088
    have c_1090 := (bV_1085.cell (p := ⟨w1.heap.size, 0, none⟩) s_1073).trans c_1071
    have c_1091 := (bV_1085.cell (p := ⟨w1.heap.size, 1, none⟩) s_1073).trans c_1072
    have s_1092 : w1.heap.size < V_1085.heap.size := Nat.lt_of_lt_of_le s_1073 bV_1085.size
    have c_1093 := (bV_1085.cell (p := ⟨w2.heap.size, 0, none⟩) s_1076).trans c_1074
    have c_1094 := (bV_1085.cell (p := ⟨w2.heap.size, 1, none⟩) s_1076).trans c_1075
    have s_1095 : w2.heap.size < V_1085.heap.size := Nat.lt_of_lt_of_le s_1076 bV_1085.size
    have c_1096 := (bV_1085.cell (p := ⟨w3.heap.size, 0, none⟩) s_1079).trans c_1077
    have c_1097 := (bV_1085.cell (p := ⟨w3.heap.size, 1, none⟩) s_1079).trans c_1078
    have s_1098 : w3.heap.size < V_1085.heap.size := Nat.lt_of_lt_of_le s_1079 bV_1085.size
    have c_1099 := (bV_1085.cell (p := ⟨w4.heap.size, 0, none⟩) s_1082).trans c_1080
    have c_1100 := (bV_1085.cell (p := ⟨w4.heap.size, 1, none⟩) s_1082).trans c_1081
    have s_1101 : w4.heap.size < V_1085.heap.size := Nat.lt_of_lt_of_le s_1082 bV_1085.size
    have H_1102 := Lib.hid (H_1083.out.below bV_1085)
    have HB := Lib.hid (HB.out.trans (bV_1085.mono HB.out.size))
    have o_1103 : w5.heap.size ≤ V_1085.heap.size := bV_1085.size
    clear c_1071 c_1072 s_1073 c_1074 c_1075 s_1076 c_1077 c_1078 s_1079 c_1080 c_1081 s_1082
    clear bV_1085
    go_wp2_with fail
    clear hV_1085
    refine (spanOk_is HSP.out SZ.out.1 SZ.out.2.1 _).mono ?_
    rintro e w6 ⟨rfl, hb⟩
    have c_1104 := (hb.cell (p := ⟨w1.heap.size, 0, none⟩) s_1092).trans c_1090
    have c_1105 := (hb.cell (p := ⟨w1.heap.size, 1, none⟩) s_1092).trans c_1091
    have s_1106 : w1.heap.size < w6.heap.size := Nat.lt_of_lt_of_le s_1092 hb.size
    have c_1107 := (hb.cell (p := ⟨w2.heap.size, 0, none⟩) s_1095).trans c_1093
    have c_1108 := (hb.cell (p := ⟨w2.heap.size, 1, none⟩) s_1095).trans c_1094
    have s_1109 : w2.heap.size < w6.heap.size := Nat.lt_of_lt_of_le s_1095 hb.size
    have c_1110 := (hb.cell (p := ⟨w3.heap.size, 0, none⟩) s_1098).trans c_1096
    have c_1111 := (hb.cell (p := ⟨w3.heap.size, 1, none⟩) s_1098).trans c_1097
    have s_1112 : w3.heap.size < w6.heap.size := Nat.lt_of_lt_of_le s_1098 hb.size
    have c_1113 := (hb.cell (p := ⟨w4.heap.size, 0, none⟩) s_1101).trans c_1099
    have c_1114 := (hb.cell (p := ⟨w4.heap.size, 1, none⟩) s_1101).trans c_1100
    have s_1115 : w4.heap.size < w6.heap.size := Nat.lt_of_lt_of_le s_1101 hb.size
    have c_1116 := (hb.cell (p := ⟨w5.heap.size, 0, none⟩) s_1088).trans c_1086
    have c_1117 := (hb.cell (p := ⟨w5.heap.size, 1, none⟩) s_1088).trans c_1087
    have s_1118 : w5.heap.size < w6.heap.size := Nat.lt_of_lt_of_le s_1088 hb.size
    have H_1119 := Lib.hid (H_1102.out.below hb)
    have HB := Lib.hid (HB.out.trans (hb.mono HB.out.size))
    have o_1120 : V_1085.heap.size ≤ w6.heap.size := hb.size
    clear c_1090 c_1091 s_1092 c_1093 c_1094 s_1095 c_1096 c_1097 s_1098 c_1099 c_1100 s_1101 c_1086 c_1087 s_1088
    clear hb
    have e1 : hi.toList.isEmpty = false := HNE.out
    have e2 : ¬ hi.toList = [] := by intro q; rw [q] at e1; cases e1
    by_cases j0 : (0 : Int) < (j : Int)
    · go_wp2_with fail
      go_ret
      exact ⟨rfl, HB.out⟩
    · have hj0 : j = 0 := by omega
      have f1 : lo.toList = [] := by rw [Elo.out, hj0]; exact pm_first HP.out
      have f2 : lo.toList.isEmpty = true := by rw [f1]; rfl
      clear hj0
      go_wp2_with fail
      go_ret
      exact ⟨rfl, HB.out⟩
  · skip
    obtain rfl : b3 = false := by
      cases b3
      · rfl
      · have := Kb3.out.1 rfl; omega
    have HJ := Lib.hid (show joinOkB lo hi lo2 hi2 = false by unfold joinOkB; rw [Ehi.out, hiOf_ge hl2, nil_toList]; simp)
    have f3 : hi.toList = [] := by rw [Ehi.out, hiOf_ge hl2, nil_toList]
    have f4 : hi.toList.isEmpty = true := by rw [f3]; rfl
    have sz4 : lo2.size ≤ maxLen := by have := Llo2.out; rw [if_neg (by decide)] at this; rw [this]; exact sz0
    have sz5 : hi2.size ≤ maxLen := by have := Lhi2.out; rw [if_neg (by decide)] at this; rw [this]; exact sz0
    clear Kb3
    go_wp2_with fail
    clear hV_55
    refine (join_no lo hi lo2 hi2 _ SZ.out.1 SZ.out.2.1 sz4 sz5 HJ.out).mono ?_
    rintro e w5 ⟨rfl, hb⟩
    have c_1071 := (hb.cell (p := ⟨w1.heap.size, 0, none⟩) s_62).trans c_60
    have c_1072 := (hb.cell (p := ⟨w1.heap.size, 1, none⟩) s_62).trans c_61
    have s_1073 : w1.heap.size < w5.heap.size := Nat.lt_of_lt_of_le s_62 hb.size
    have c_1074 := (hb.cell (p := ⟨w2.heap.size, 0, none⟩) s_65).trans c_63
    have c_1075 := (hb.cell (p := ⟨w2.heap.size, 1, none⟩) s_65).trans c_64
    have s_1076 : w2.heap.size < w5.heap.size := Nat.lt_of_lt_of_le s_65 hb.size
    have c_1077 := (hb.cell (p := ⟨w3.heap.size, 0, none⟩) s_68).trans c_66
    have c_1078 := (hb.cell (p := ⟨w3.heap.size, 1, none⟩) s_68).trans c_67
    have s_1079 : w3.heap.size < w5.heap.size := Nat.lt_of_lt_of_le s_68 hb.size
    have c_1080 := (hb.cell (p := ⟨w4.heap.size, 0, none⟩) s_58).trans c_56
    have c_1081 := (hb.cell (p := ⟨w4.heap.size, 1, none⟩) s_58).trans c_57
    have s_1082 : w4.heap.size < w5.heap.size := Nat.lt_of_lt_of_le s_58 hb.size
    have H_1083 := Lib.hid (H_69.out.below hb)
    have HB := Lib.hid (HB.out.trans (hb.mono HB.out.size))
    have o_1084 : V_55.heap.size ≤ w5.heap.size := hb.size
    clear c_60 c_61 s_62 c_63 c_64 s_65 c_66 c_67 s_68 c_56 c_57 s_58
    clear hb
    go_wp2_with fail
    obtain ⟨V_1085, hV_1085⟩ : ∃ V_1085, w5.alloc (.cells #[.string ⟨#[]⟩, .string ⟨#[]⟩] 84) = V_1085 := ⟨_, rfl⟩
    have bV_1085 : Below w5.heap.size w5 V_1085 := by rw [← hV_1085]; exact (Below.refl _ _).alloc (Nat.le_refl _) _
    have c_1086 : V_1085.cell? ⟨w5.heap.size, 0, none⟩ = some (.string ⟨#[]⟩) := by rw [← hV_1085]; simp [go_sem]
    have c_1087 : V_1085.cell? ⟨w5.heap.size, 1, none⟩ = some (.string ⟨#[]⟩) := by rw [← hV_1085]; simp [go_sem]
    have s_1088 : w5.heap.size < V_1085.heap.size := by rw [← hV_1085]; simp
    have k_1089 : w5.heap.size < V_1085.heap.size := s_1088
    have c_1090 := (bV_1085.cell (p := ⟨w1.heap.size, 0, none⟩) s_1073).trans c_1071
    have c_1091 := (bV_1085.cell (p := ⟨w1.heap.size, 1, none⟩) s_1073).trans c_1072
    have s_1092 : w1.heap.size < V_1085.heap.size := Nat.lt_of_lt_of_le s_1073 bV_1085.size
    have c_1093 := (bV_1085.cell (p := ⟨w2.heap.size, 0, none⟩) s_1076).trans c_1074
    have c_1094 := (bV_1085.cell (p := ⟨w2.heap.size, 1, none⟩) s_1076).trans c_1075
    have s_1095 : w2.heap.size < V_1085.heap.size := Nat.lt_of_lt_of_le s_1076 bV_1085.size
    have c_1096 := (bV_1085.cell (p := ⟨w3.heap.size, 0, none⟩) s_1079).trans c_1077
    have c_1097 := (bV_1085.cell (p := ⟨w3.heap.size, 1, none⟩) s_1079).trans c_1078
    have s_1098 : w3.heap.size < V_1085.heap.size := Nat.lt_of_lt_of_le s_1079 bV_1085.size
    have c_1099 := (bV_1085.cell (p := ⟨w4.heap.size, 0, none⟩) s_1082).trans c_1080
    have c_1100 := (bV_1085.cell (p := ⟨w4.heap.size, 1, none⟩) s_1082).trans c_1081
    have s_1101 : w4.heap.size < V_1085.heap.size := Nat.lt_of_lt_of_le s_1082 bV_1085.size
    have H_1102 := Lib.hid (H_1083.out.below bV_1085)
    have HB := Lib.hid (HB.out.trans (bV_1085.mono HB.out.size))
    have o_1103 : w5.heap.size ≤ V_1085.heap.size := bV_1085.size
    clear c_1071 c_1072 s_1073 c_1074 c_1075 s_1076 c_1077 c_1078 s_1079 c_1080 c_1081 s_1082
    clear bV_1085
    rw [hV_1085]
    clear hV_1085
    refine (spanOk_is HSP.out SZ.out.1 SZ.out.2.1 _).mono ?_
    rintro e w6 ⟨rfl, hb⟩
    have c_1104 := (hb.cell (p := ⟨w1.heap.size, 0, none⟩) s_1092).trans c_1090
    have c_1105 := (hb.cell (p := ⟨w1.heap.size, 1, none⟩) s_1092).trans c_1091
    have s_1106 : w1.heap.size < w6.heap.size := Nat.lt_of_lt_of_le s_1092 hb.size
    have c_1107 := (hb.cell (p := ⟨w2.heap.size, 0, none⟩) s_1095).trans c_1093
    have c_1108 := (hb.cell (p := ⟨w2.heap.size, 1, none⟩) s_1095).trans c_1094
    have s_1109 : w2.heap.size < w6.heap.size := Nat.lt_of_lt_of_le s_1095 hb.size
    have c_1110 := (hb.cell (p := ⟨w3.heap.size, 0, none⟩) s_1098).trans c_1096
    have c_1111 := (hb.cell (p := ⟨w3.heap.size, 1, none⟩) s_1098).trans c_1097
    have s_1112 : w3.heap.size < w6.heap.size := Nat.lt_of_lt_of_le s_1098 hb.size
    have c_1113 := (hb.cell (p := ⟨w4.heap.size, 0, none⟩) s_1101).trans c_1099
    have c_1114 := (hb.cell (p := ⟨w4.heap.size, 1, none⟩) s_1101).trans c_1100
    have s_1115 : w4.heap.size < w6.heap.size := Nat.lt_of_lt_of_le s_1101 hb.size
    have c_1116 := (hb.cell (p := ⟨w5.heap.size, 0, none⟩) s_1088).trans c_1086
    have c_1117 := (hb.cell (p := ⟨w5.heap.size, 1, none⟩) s_1088).trans c_1087
    have s_1118 : w5.heap.size < w6.heap.size := Nat.lt_of_lt_of_le s_1088 hb.size
    have H_1119 := Lib.hid (H_1102.out.below hb)
    have HB := Lib.hid (HB.out.trans (hb.mono HB.out.size))
    have o_1120 : V_1085.heap.size ≤ w6.heap.size := hb.size
    clear c_1090 c_1091 s_1092 c_1093 c_1094 s_1095 c_1096 c_1097 s_1098 c_1099 c_1100 s_1101 c_1086 c_1087 s_1088
    clear hb
    by_cases j0 : (0 : Int) < (j : Int)
    · go_wp2_with fail
      go_ret
      exact ⟨rfl, HB.out⟩
    · have hj0 : j = 0 := by omega
      have f1 : lo.toList = [] := by rw [Elo.out, hj0]; exact pm_first HP.out
      have f2 : lo.toList.isEmpty = true := by rw [f1]; rfl
      clear hj0
      go_wp2_with fail
      go_ret
      exact ⟨rfl, HB.out⟩
end Go.Proofs.Ytodpodgdhiadnaa
