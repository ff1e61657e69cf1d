/- The law FnVmapAt: what is seen as of a number is the newest that is no later. -/
import Derived.Test.YtjijichgoodocaaFvC
namespace Go.Proofs.Ytjijichgoodocaa
open Go.RowKit

set_option maxRecDepth 100000 in
set_option maxHeartbeats 4000000 in
theorem fnVmapAt_law (a : Option Addr) (len cap : Nat) (w : World) (h : BytesIn w a len cap) :
    Calls Try.prog 4 #[.slice a len cap] w fun e w' => e = .returned (.bool true) ∧ Below w.heap.size w w' := by
  have hcm := h.2.1
  have hlc := h.1
  have H := Lib.hid h
  clear h
  unfold maxLen at hcm
  by_cases hl : 1048576 < len
  · go_enter Try.func4, Try.ntmps4
    go_wp2_with fail
    go_ret
    exact ⟨rfl, Below.refl _ _⟩
  go_enter Try.func4, Try.ntmps4
  go_wp2_with fail
  refine (drawVmapAt_any a len cap _ H.out).mono ?_
  rintro e w1 ⟨os, am, c, key, id, hkey, hid0, hid1, rfl, hD, hb⟩
  have HB := Lib.hid hb
  have hn20 := hD.len
  have HD0 := Lib.hid hD
  have HD := Lib.hid hD.mr
  have HKY := Lib.hid hkey
  clear hD hb H hkey
  obtain ⟨V_1, hV_1⟩ : ∃ V_1, w1.alloc (.cells #[.slice am os.length c] 25) = V_1 := ⟨_, rfl⟩
  have bV_1 : Below w1.heap.size w1 V_1 := by rw [← hV_1]; exact (Below.refl _ _).alloc (Nat.le_refl _) _
  have c_2 : V_1.cell? ⟨w1.heap.size, 0, none⟩ = some (.slice am os.length c) := by rw [← hV_1]; simp [go_sem]
  have s_3 : w1.heap.size < V_1.heap.size := by rw [← hV_1]; simp
  have k_4 : w1.heap.size < V_1.heap.size := s_3
  have H_5 := Lib.hid (HD.out.below bV_1)
  have HB := Lib.hid (HB.out.trans (bV_1.mono HB.out.size))
  have o_6 : w1.heap.size ≤ V_1.heap.size := bV_1.size
  clear bV_1
  go_wp2_with fail
  clear hV_1
  refine (vmapAt_v H_5.out c key id HKY.out).mono ?_
  rintro e w2 ⟨i1, t1, g1, b1, hv, rfl, hb⟩
  have K1 := Lib.hid hv
  clear hv
  have c_7 := (hb.cell (p := ⟨w1.heap.size, 0, none⟩) s_3).trans c_2
  have s_8 : w1.heap.size < w2.heap.size := Nat.lt_of_lt_of_le s_3 hb.size
  have H_9 := Lib.hid (H_5.out.below hb)
  have HB := Lib.hid (HB.out.trans (hb.mono HB.out.size))
  have o_10 : V_1.heap.size ≤ w2.heap.size := hb.size
  clear c_2 s_3
  clear hb
  obtain ⟨V_11, hV_11⟩ : ∃ V_11, w2.alloc (.cells #[.int .i64 i1, .string t1, .bool g1] 27) = V_11 := ⟨_, rfl⟩
  have bV_11 : Below w2.heap.size w2 V_11 := by rw [← hV_11]; exact (Below.refl _ _).alloc (Nat.le_refl _) _
  have c_12 : V_11.cell? ⟨w2.heap.size, 0, none⟩ = some (.int .i64 i1) := by rw [← hV_11]; simp [go_sem]
  have c_13 : V_11.cell? ⟨w2.heap.size, 1, none⟩ = some (.string t1) := by rw [← hV_11]; simp [go_sem]
  have c_14 : V_11.cell? ⟨w2.heap.size, 2, none⟩ = some (.bool g1) := by rw [← hV_11]; simp [go_sem]
  have s_15 : w2.heap.size < V_11.heap.size := by rw [← hV_11]; simp
  have k_16 : w2.heap.size < V_11.heap.size := s_15
  have c_17 := (bV_11.cell (p := ⟨w1.heap.size, 0, none⟩) s_8).trans c_7
  have s_18 : w1.heap.size < V_11.heap.size := Nat.lt_of_lt_of_le s_8 bV_11.size
  have H_19 := Lib.hid (H_9.out.below bV_11)
  have HB := Lib.hid (HB.out.trans (bV_11.mono HB.out.size))
  have o_20 : w2.heap.size ≤ V_11.heap.size := bV_11.size
  clear c_7 s_8
  clear bV_11
  go_wp2_with fail
  clear hV_11
  refine (specVmapAt_v H_19.out c key id HKY.out).mono ?_
  rintro e w3 ⟨i2, t2, g2, b2, hv, rfl, hb⟩
  obtain ⟨rfl, rfl, rfl, rfl⟩ := VerIs.one K1.out hv
  clear hv
  have c_21 := (hb.cell (p := ⟨w1.heap.size, 0, none⟩) s_18).trans c_17
  have s_22 : w1.heap.size < w3.heap.size := Nat.lt_of_lt_of_le s_18 hb.size
  have c_23 := (hb.cell (p := ⟨w2.heap.size, 0, none⟩) s_15).trans c_12
  have c_24 := (hb.cell (p := ⟨w2.heap.size, 1, none⟩) s_15).trans c_13
  have c_25 := (hb.cell (p := ⟨w2.heap.size, 2, none⟩) s_15).trans c_14
  have s_26 : w2.heap.size < w3.heap.size := Nat.lt_of_lt_of_le s_15 hb.size
  have H_27 := Lib.hid (H_19.out.below hb)
  have HB := Lib.hid (HB.out.trans (hb.mono HB.out.size))
  have o_28 : V_11.heap.size ≤ w3.heap.size := hb.size
  clear c_17 s_18 c_12 c_13 c_14 s_15
  clear hb
  obtain ⟨V_29, hV_29⟩ : ∃ V_29, w3.alloc (.cells #[.int .i64 i1, .string t1, .bool g1] 27) = V_29 := ⟨_, rfl⟩
  have bV_29 : Below w3.heap.size w3 V_29 := by rw [← hV_29]; exact (Below.refl _ _).alloc (Nat.le_refl _) _
  have c_30 : V_29.cell? ⟨w3.heap.size, 0, none⟩ = some (.int .i64 i1) := by rw [← hV_29]; simp [go_sem]
  have c_31 : V_29.cell? ⟨w3.heap.size, 1, none⟩ = some (.string t1) := by rw [← hV_29]; simp [go_sem]
  have c_32 : V_29.cell? ⟨w3.heap.size, 2, none⟩ = some (.bool g1) := by rw [← hV_29]; simp [go_sem]
  have s_33 : w3.heap.size < V_29.heap.size := by rw [← hV_29]; simp
  have k_34 : w3.heap.size < V_29.heap.size := s_33
  have c_35 := (bV_29.cell (p := ⟨w1.heap.size, 0, none⟩) s_22).trans c_21
  have s_36 : w1.heap.size < V_29.heap.size := Nat.lt_of_lt_of_le s_22 bV_29.size
  have c_37 := (bV_29.cell (p := ⟨w2.heap.size, 0, none⟩) s_26).trans c_23
  have c_38 := (bV_29.cell (p := ⟨w2.heap.size, 1, none⟩) s_26).trans c_24
  have c_39 := (bV_29.cell (p := ⟨w2.heap.size, 2, none⟩) s_26).trans c_25
  have s_40 : w2.heap.size < V_29.heap.size := Nat.lt_of_lt_of_le s_26 bV_29.size
  have H_41 := Lib.hid (H_27.out.below bV_29)
  have HB := Lib.hid (HB.out.trans (bV_29.mono HB.out.size))
  have o_42 : w3.heap.size ≤ V_29.heap.size := bV_29.size
  clear c_21 s_22 c_23 c_24 c_25 s_26
  clear bV_29
  obtain ⟨ok, hok⟩ := mok_ex os
  have HOK := Lib.hid hok
  clear hok
  go_wp2_with fail
  clear hV_29
  refine (vmapOk_is HOK.out H_41.out c).mono ?_
  rintro e w4 ⟨rfl, hb⟩
  have c_43 := (hb.cell (p := ⟨w1.heap.size, 0, none⟩) s_36).trans c_35
  have s_44 : w1.heap.size < w4.heap.size := Nat.lt_of_lt_of_le s_36 hb.size
  have c_45 := (hb.cell (p := ⟨w2.heap.size, 0, none⟩) s_40).trans c_37
  have c_46 := (hb.cell (p := ⟨w2.heap.size, 1, none⟩) s_40).trans c_38
  have c_47 := (hb.cell (p := ⟨w2.heap.size, 2, none⟩) s_40).trans c_39
  have s_48 : w2.heap.size < w4.heap.size := Nat.lt_of_lt_of_le s_40 hb.size
  have c_49 := (hb.cell (p := ⟨w3.heap.size, 0, none⟩) s_33).trans c_30
  have c_50 := (hb.cell (p := ⟨w3.heap.size, 1, none⟩) s_33).trans c_31
  have c_51 := (hb.cell (p := ⟨w3.heap.size, 2, none⟩) s_33).trans c_32
  have s_52 : w3.heap.size < w4.heap.size := Nat.lt_of_lt_of_le s_33 hb.size
  have H_53 := Lib.hid (H_41.out.below hb)
  have HB := Lib.hid (HB.out.trans (hb.mono HB.out.size))
  have o_54 : V_29.heap.size ≤ w4.heap.size := hb.size
  clear c_35 s_36 c_37 c_38 c_39 s_40 c_30 c_31 c_32 s_33
  clear hb
  cases ok
  · go_wp2_with fail
    go_ret
    exact ⟨rfl, HB.out⟩
  go_wp2_with fail
  refine (vmapGet_v H_53.out c key HKY.out).mono ?_
  rintro e w5 ⟨i3, t3, g3, b3, hv, rfl, hb⟩
  have K3 := Lib.hid hv
  clear hv
  have c_55 := (hb.cell (p := ⟨w1.heap.size, 0, none⟩) s_44).trans c_43
  have s_56 : w1.heap.size < w5.heap.size := Nat.lt_of_lt_of_le s_44 hb.size
  have c_57 := (hb.cell (p := ⟨w2.heap.size, 0, none⟩) s_48).trans c_45
  have c_58 := (hb.cell (p := ⟨w2.heap.size, 1, none⟩) s_48).trans c_46
  have c_59 := (hb.cell (p := ⟨w2.heap.size, 2, none⟩) s_48).trans c_47
  have s_60 : w2.heap.size < w5.heap.size := Nat.lt_of_lt_of_le s_48 hb.size
  have c_61 := (hb.cell (p := ⟨w3.heap.size, 0, none⟩) s_52).trans c_49
  have c_62 := (hb.cell (p := ⟨w3.heap.size, 1, none⟩) s_52).trans c_50
  have c_63 := (hb.cell (p := ⟨w3.heap.size, 2, none⟩) s_52).trans c_51
  have s_64 : w3.heap.size < w5.heap.size := Nat.lt_of_lt_of_le s_52 hb.size
  have H_65 := Lib.hid (H_53.out.below hb)
  have HB := Lib.hid (HB.out.trans (hb.mono HB.out.size))
  have o_66 : w4.heap.size ≤ w5.heap.size := hb.size
  clear c_43 s_44 c_45 c_46 c_47 s_48 c_49 c_50 c_51 s_52
  clear hb
  obtain ⟨V_67, hV_67⟩ : ∃ V_67, w5.alloc (.cells #[.int .i64 i3, .string t3, .bool g3] 27) = V_67 := ⟨_, rfl⟩
  have bV_67 : Below w5.heap.size w5 V_67 := by rw [← hV_67]; exact (Below.refl _ _).alloc (Nat.le_refl _) _
  have c_68 : V_67.cell? ⟨w5.heap.size, 0, none⟩ = some (.int .i64 i3) := by rw [← hV_67]; simp [go_sem]
  have c_69 : V_67.cell? ⟨w5.heap.size, 1, none⟩ = some (.string t3) := by rw [← hV_67]; simp [go_sem]
  have c_70 : V_67.cell? ⟨w5.heap.size, 2, none⟩ = some (.bool g3) := by rw [← hV_67]; simp [go_sem]
  have s_71 : w5.heap.size < V_67.heap.size := by rw [← hV_67]; simp
  have k_72 : w5.heap.size < V_67.heap.size := s_71
  have c_73 := (bV_67.cell (p := ⟨w1.heap.size, 0, none⟩) s_56).trans c_55
  have s_74 : w1.heap.size < V_67.heap.size := Nat.lt_of_lt_of_le s_56 bV_67.size
  have c_75 := (bV_67.cell (p := ⟨w2.heap.size, 0, none⟩) s_60).trans c_57
  have c_76 := (bV_67.cell (p := ⟨w2.heap.size, 1, none⟩) s_60).trans c_58
  have c_77 := (bV_67.cell (p := ⟨w2.heap.size, 2, none⟩) s_60).trans c_59
  have s_78 : w2.heap.size < V_67.heap.size := Nat.lt_of_lt_of_le s_60 bV_67.size
  have c_79 := (bV_67.cell (p := ⟨w3.heap.size, 0, none⟩) s_64).trans c_61
  have c_80 := (bV_67.cell (p := ⟨w3.heap.size, 1, none⟩) s_64).trans c_62
  have c_81 := (bV_67.cell (p := ⟨w3.heap.size, 2, none⟩) s_64).trans c_63
  have s_82 : w3.heap.size < V_67.heap.size := Nat.lt_of_lt_of_le s_64 bV_67.size
  have H_83 := Lib.hid (H_65.out.below bV_67)
  have HB := Lib.hid (HB.out.trans (bV_67.mono HB.out.size))
  have o_84 : w5.heap.size ≤ V_67.heap.size := bV_67.size
  clear c_55 s_56 c_57 c_58 c_59 s_60 c_61 c_62 c_63 s_64
  clear bV_67
  go_wp2_with fail
  clear hV_67
  refine (vmapAt_v H_83.out c key 9999 HKY.out).mono ?_
  rintro e w6 ⟨i4, t4, g4, b4, hv, rfl, hb⟩
  obtain ⟨rfl, rfl, rfl, rfl⟩ := VerIs.one K3.out hv
  clear hv
  have c_85 := (hb.cell (p := ⟨w1.heap.size, 0, none⟩) s_74).trans c_73
  have s_86 : w1.heap.size < w6.heap.size := Nat.lt_of_lt_of_le s_74 hb.size
  have c_87 := (hb.cell (p := ⟨w2.heap.size, 0, none⟩) s_78).trans c_75
  have c_88 := (hb.cell (p := ⟨w2.heap.size, 1, none⟩) s_78).trans c_76
  have c_89 := (hb.cell (p := ⟨w2.heap.size, 2, none⟩) s_78).trans c_77
  have s_90 : w2.heap.size < w6.heap.size := Nat.lt_of_lt_of_le s_78 hb.size
  have c_91 := (hb.cell (p := ⟨w3.heap.size, 0, none⟩) s_82).trans c_79
  have c_92 := (hb.cell (p := ⟨w3.heap.size, 1, none⟩) s_82).trans c_80
  have c_93 := (hb.cell (p := ⟨w3.heap.size, 2, none⟩) s_82).trans c_81
  have s_94 : w3.heap.size < w6.heap.size := Nat.lt_of_lt_of_le s_82 hb.size
  have c_95 := (hb.cell (p := ⟨w5.heap.size, 0, none⟩) s_71).trans c_68
  have c_96 := (hb.cell (p := ⟨w5.heap.size, 1, none⟩) s_71).trans c_69
  have c_97 := (hb.cell (p := ⟨w5.heap.size, 2, none⟩) s_71).trans c_70
  have s_98 : w5.heap.size < w6.heap.size := Nat.lt_of_lt_of_le s_71 hb.size
  have H_99 := Lib.hid (H_83.out.below hb)
  have HB := Lib.hid (HB.out.trans (hb.mono HB.out.size))
  have o_100 : V_67.heap.size ≤ w6.heap.size := hb.size
  clear c_73 s_74 c_75 c_76 c_77 s_78 c_79 c_80 c_81 s_82 c_68 c_69 c_70 s_71
  clear hb
  obtain ⟨V_101, hV_101⟩ : ∃ V_101, w6.alloc (.cells #[.int .i64 i3, .string t3, .bool g3] 27) = V_101 := ⟨_, rfl⟩
  have bV_101 : Below w6.heap.size w6 V_101 := by rw [← hV_101]; exact (Below.refl _ _).alloc (Nat.le_refl _) _
  have c_102 : V_101.cell? ⟨w6.heap.size, 0, none⟩ = some (.int .i64 i3) := by rw [← hV_101]; simp [go_sem]
  have c_103 : V_101.cell? ⟨w6.heap.size, 1, none⟩ = some (.string t3) := by rw [← hV_101]; simp [go_sem]
  have c_104 : V_101.cell? ⟨w6.heap.size, 2, none⟩ = some (.bool g3) := by rw [← hV_101]; simp [go_sem]
  have s_105 : w6.heap.size < V_101.heap.size := by rw [← hV_101]; simp
  have k_106 : w6.heap.size < V_101.heap.size := s_105
  have c_107 := (bV_101.cell (p := ⟨w1.heap.size, 0, none⟩) s_86).trans c_85
  have s_108 : w1.heap.size < V_101.heap.size := Nat.lt_of_lt_of_le s_86 bV_101.size
  have c_109 := (bV_101.cell (p := ⟨w2.heap.size, 0, none⟩) s_90).trans c_87
  have c_110 := (bV_101.cell (p := ⟨w2.heap.size, 1, none⟩) s_90).trans c_88
  have c_111 := (bV_101.cell (p := ⟨w2.heap.size, 2, none⟩) s_90).trans c_89
  have s_112 : w2.heap.size < V_101.heap.size := Nat.lt_of_lt_of_le s_90 bV_101.size
  have c_113 := (bV_101.cell (p := ⟨w3.heap.size, 0, none⟩) s_94).trans c_91
  have c_114 := (bV_101.cell (p := ⟨w3.heap.size, 1, none⟩) s_94).trans c_92
  have c_115 := (bV_101.cell (p := ⟨w3.heap.size, 2, none⟩) s_94).trans c_93
  have s_116 : w3.heap.size < V_101.heap.size := Nat.lt_of_lt_of_le s_94 bV_101.size
  have c_117 := (bV_101.cell (p := ⟨w5.heap.size, 0, none⟩) s_98).trans c_95
  have c_118 := (bV_101.cell (p := ⟨w5.heap.size, 1, none⟩) s_98).trans c_96
  have c_119 := (bV_101.cell (p := ⟨w5.heap.size, 2, none⟩) s_98).trans c_97
  have s_120 : w5.heap.size < V_101.heap.size := Nat.lt_of_lt_of_le s_98 bV_101.size
  have H_121 := Lib.hid (H_99.out.below bV_101)
  have HB := Lib.hid (HB.out.trans (bV_101.mono HB.out.size))
  have o_122 : w6.heap.size ≤ V_101.heap.size := bV_101.size
  clear c_85 s_86 c_87 c_88 c_89 s_90 c_91 c_92 c_93 s_94 c_95 c_96 c_97 s_98
  clear bV_101
  go_wp2_with fail
  clear hV_101
  refine (vmapAt_v H_121.out c key i1 HKY.out).mono ?_
  rintro e w7 ⟨i5, t5, g5, b5, hv, rfl, hb⟩
  have K5 := Lib.hid hv
  clear hv
  have c_123 := (hb.cell (p := ⟨w1.heap.size, 0, none⟩) s_108).trans c_107
  have s_124 : w1.heap.size < w7.heap.size := Nat.lt_of_lt_of_le s_108 hb.size
  have c_125 := (hb.cell (p := ⟨w2.heap.size, 0, none⟩) s_112).trans c_109
  have c_126 := (hb.cell (p := ⟨w2.heap.size, 1, none⟩) s_112).trans c_110
  have c_127 := (hb.cell (p := ⟨w2.heap.size, 2, none⟩) s_112).trans c_111
  have s_128 : w2.heap.size < w7.heap.size := Nat.lt_of_lt_of_le s_112 hb.size
  have c_129 := (hb.cell (p := ⟨w3.heap.size, 0, none⟩) s_116).trans c_113
  have c_130 := (hb.cell (p := ⟨w3.heap.size, 1, none⟩) s_116).trans c_114
  have c_131 := (hb.cell (p := ⟨w3.heap.size, 2, none⟩) s_116).trans c_115
  have s_132 : w3.heap.size < w7.heap.size := Nat.lt_of_lt_of_le s_116 hb.size
  have c_133 := (hb.cell (p := ⟨w5.heap.size, 0, none⟩) s_120).trans c_117
  have c_134 := (hb.cell (p := ⟨w5.heap.size, 1, none⟩) s_120).trans c_118
  have c_135 := (hb.cell (p := ⟨w5.heap.size, 2, none⟩) s_120).trans c_119
  have s_136 : w5.heap.size < w7.heap.size := Nat.lt_of_lt_of_le s_120 hb.size
  have c_137 := (hb.cell (p := ⟨w6.heap.size, 0, none⟩) s_105).trans c_102
  have c_138 := (hb.cell (p := ⟨w6.heap.size, 1, none⟩) s_105).trans c_103
  have c_139 := (hb.cell (p := ⟨w6.heap.size, 2, none⟩) s_105).trans c_104
  have s_140 : w6.heap.size < w7.heap.size := Nat.lt_of_lt_of_le s_105 hb.size
  have H_141 := Lib.hid (H_121.out.below hb)
  have HB := Lib.hid (HB.out.trans (hb.mono HB.out.size))
  have o_142 : V_101.heap.size ≤ w7.heap.size := hb.size
  clear c_107 s_108 c_109 c_110 c_111 s_112 c_113 c_114 c_115 s_116 c_117 c_118 c_119 s_120 c_102 c_103 c_104 s_105
  clear hb
  cases b1
  · skip
    obtain ⟨V_1143, hV_1143⟩ : ∃ V_1143, w7.alloc (.cells #[.int .i64 i5, .string t5, .bool g5] 27) = V_1143 := ⟨_, rfl⟩
    have bV_1143 : Below w7.heap.size w7 V_1143 := by rw [← hV_1143]; exact (Below.refl _ _).alloc (Nat.le_refl _) _
    have c_1144 : V_1143.cell? ⟨w7.heap.size, 0, none⟩ = some (.int .i64 i5) := by rw [← hV_1143]; simp [go_sem]
    have c_1145 : V_1143.cell? ⟨w7.heap.size, 1, none⟩ = some (.string t5) := by rw [← hV_1143]; simp [go_sem]
    have c_1146 : V_1143.cell? ⟨w7.heap.size, 2, none⟩ = some (.bool g5) := by rw [← hV_1143]; simp [go_sem]
    have s_1147 : w7.heap.size < V_1143.heap.size := by rw [← hV_1143]; simp
    have k_1148 : w7.heap.size < V_1143.heap.size := s_1147
    have c_1149 := (bV_1143.cell (p := ⟨w1.heap.size, 0, none⟩) s_124).trans c_123
    have s_1150 : w1.heap.size < V_1143.heap.size := Nat.lt_of_lt_of_le s_124 bV_1143.size
    have c_1151 := (bV_1143.cell (p := ⟨w2.heap.size, 0, none⟩) s_128).trans c_125
    have c_1152 := (bV_1143.cell (p := ⟨w2.heap.size, 1, none⟩) s_128).trans c_126
    have c_1153 := (bV_1143.cell (p := ⟨w2.heap.size, 2, none⟩) s_128).trans c_127
    have s_1154 : w2.heap.size < V_1143.heap.size := Nat.lt_of_lt_of_le s_128 bV_1143.size
    have c_1155 := (bV_1143.cell (p := ⟨w3.heap.size, 0, none⟩) s_132).trans c_129
    have c_1156 := (bV_1143.cell (p := ⟨w3.heap.size, 1, none⟩) s_132).trans c_130
    have c_1157 := (bV_1143.cell (p := ⟨w3.heap.size, 2, none⟩) s_132).trans c_131
    have s_1158 : w3.heap.size < V_1143.heap.size := Nat.lt_of_lt_of_le s_132 bV_1143.size
    have c_1159 := (bV_1143.cell (p := ⟨w5.heap.size, 0, none⟩) s_136).trans c_133
    have c_1160 := (bV_1143.cell (p := ⟨w5.heap.size, 1, none⟩) s_136).trans c_134
    have c_1161 := (bV_1143.cell (p := ⟨w5.heap.size, 2, none⟩) s_136).trans c_135
    have s_1162 : w5.heap.size < V_1143.heap.size := Nat.lt_of_lt_of_le s_136 bV_1143.size
    have c_1163 := (bV_1143.cell (p := ⟨w6.heap.size, 0, none⟩) s_140).trans c_137
    have c_1164 := (bV_1143.cell (p := ⟨w6.heap.size, 1, none⟩) s_140).trans c_138
    have c_1165 := (bV_1143.cell (p := ⟨w6.heap.size, 2, none⟩) s_140).trans c_139
    have s_1166 : w6.heap.size < V_1143.heap.size := Nat.lt_of_lt_of_le s_140 bV_1143.size
    have H_1167 := Lib.hid (H_141.out.below bV_1143)
    have HB := Lib.hid (HB.out.trans (bV_1143.mono HB.out.size))
    have o_1168 : w7.heap.size ≤ V_1143.heap.size := bV_1143.size
    clear c_123 s_124 c_125 c_126 c_127 s_128 c_129 c_130 c_131 s_132 c_133 c_134 c_135 s_136 c_137 c_138 c_139 s_140
    clear bV_1143
    go_wp2_with fail
    go_ret
    exact ⟨rfl, HB.out⟩
  have hself := atR_self K1.out.some_
  obtain ⟨hle, -, hs⟩ := hself
  have K6 := K5.out
  rw [show atR os key i1 = some ⟨i1, t1, g1⟩ from hs] at K6
  obtain ⟨rfl, rfl, rfl, rfl⟩ := VerIs.one (VerIs.of_some ⟨i1, t1, g1⟩) K6
  clear hs K6 K5
  have hle : i1 ≤ id := hle
  obtain ⟨V_1143, hV_1143⟩ : ∃ V_1143, w7.alloc (.cells #[.int .i64 i1, .string t1, .bool g1] 27) = V_1143 := ⟨_, rfl⟩
  have bV_1143 : Below w7.heap.size w7 V_1143 := by rw [← hV_1143]; exact (Below.refl _ _).alloc (Nat.le_refl _) _
  have c_1144 : V_1143.cell? ⟨w7.heap.size, 0, none⟩ = some (.int .i64 i1) := by rw [← hV_1143]; simp [go_sem]
  have c_1145 : V_1143.cell? ⟨w7.heap.size, 1, none⟩ = some (.string t1) := by rw [← hV_1143]; simp [go_sem]
  have c_1146 : V_1143.cell? ⟨w7.heap.size, 2, none⟩ = some (.bool g1) := by rw [← hV_1143]; simp [go_sem]
  have s_1147 : w7.heap.size < V_1143.heap.size := by rw [← hV_1143]; simp
  have k_1148 : w7.heap.size < V_1143.heap.size := s_1147
  have c_1149 := (bV_1143.cell (p := ⟨w1.heap.size, 0, none⟩) s_124).trans c_123
  have s_1150 : w1.heap.size < V_1143.heap.size := Nat.lt_of_lt_of_le s_124 bV_1143.size
  have c_1151 := (bV_1143.cell (p := ⟨w2.heap.size, 0, none⟩) s_128).trans c_125
  have c_1152 := (bV_1143.cell (p := ⟨w2.heap.size, 1, none⟩) s_128).trans c_126
  have c_1153 := (bV_1143.cell (p := ⟨w2.heap.size, 2, none⟩) s_128).trans c_127
  have s_1154 : w2.heap.size < V_1143.heap.size := Nat.lt_of_lt_of_le s_128 bV_1143.size
  have c_1155 := (bV_1143.cell (p := ⟨w3.heap.size, 0, none⟩) s_132).trans c_129
  have c_1156 := (bV_1143.cell (p := ⟨w3.heap.size, 1, none⟩) s_132).trans c_130
  have c_1157 := (bV_1143.cell (p := ⟨w3.heap.size, 2, none⟩) s_132).trans c_131
  have s_1158 : w3.heap.size < V_1143.heap.size := Nat.lt_of_lt_of_le s_132 bV_1143.size
  have c_1159 := (bV_1143.cell (p := ⟨w5.heap.size, 0, none⟩) s_136).trans c_133
  have c_1160 := (bV_1143.cell (p := ⟨w5.heap.size, 1, none⟩) s_136).trans c_134
  have c_1161 := (bV_1143.cell (p := ⟨w5.heap.size, 2, none⟩) s_136).trans c_135
  have s_1162 : w5.heap.size < V_1143.heap.size := Nat.lt_of_lt_of_le s_136 bV_1143.size
  have c_1163 := (bV_1143.cell (p := ⟨w6.heap.size, 0, none⟩) s_140).trans c_137
  have c_1164 := (bV_1143.cell (p := ⟨w6.heap.size, 1, none⟩) s_140).trans c_138
  have c_1165 := (bV_1143.cell (p := ⟨w6.heap.size, 2, none⟩) s_140).trans c_139
  have s_1166 : w6.heap.size < V_1143.heap.size := Nat.lt_of_lt_of_le s_140 bV_1143.size
  have H_1167 := Lib.hid (H_141.out.below bV_1143)
  have HB := Lib.hid (HB.out.trans (bV_1143.mono HB.out.size))
  have o_1168 : w7.heap.size ≤ V_1143.heap.size := bV_1143.size
  clear c_123 s_124 c_125 c_126 c_127 s_128 c_129 c_130 c_131 s_132 c_133 c_134 c_135 s_136 c_137 c_138 c_139 s_140
  clear bV_1143
  go_wp2_with fail
  go_ret
  exact ⟨rfl, HB.out⟩
end Go.Proofs.Ytjijichgoodocaa
