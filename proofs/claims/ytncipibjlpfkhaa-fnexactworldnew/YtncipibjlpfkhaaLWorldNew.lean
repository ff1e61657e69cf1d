/- The law of WorldNew, walked. -/
import Derived.Test.YtncipibjlpfkhaaWNewD
namespace Go.Proofs.Ytncipibjlpfkhaa
open Go.RowKit

set_option maxRecDepth 100000 in
set_option maxHeartbeats 8000000 in
theorem worldNew_law (w : World) : Calls Try.prog 5 #[] w fun e w' => e = .returned (.bool true) ∧ Below w.heap.size w w' := by
  have HB := Lib.hid (Below.refl w.heap.size w)
  go_enter Try.func5, Try.ntmps5
  go_wp2_with fail
  refine (specWorldNew_any _).mono ?_
  rintro e w1 ⟨p1, p2, p3, rfl, hat, hb⟩
  have Tp := Lib.hid hat
  have lp : w.heap.size ≤ w1.heap.size := hb.size
  have HB := Lib.hid (HB.out.trans (hb.mono HB.out.size))
  have o_1 : w.heap.size ≤ w1.heap.size := hb.size
  clear hat hb
  go_wp2_with fail
  obtain ⟨V_2, hV_2⟩ : ∃ V_2, w1.alloc (.cells #[.int .i64 1, .slice (some ⟨p1, 0, none⟩) 1 1, .slice (some ⟨p2, 0, none⟩) 1 1, .slice none 0 0, .slice none 0 0, .slice none 0 0, .int .i64 0, .slice (some ⟨p3, 0, none⟩) 3 3, .slice none 0 0] 37) = V_2 := ⟨_, rfl⟩
  have bV_2 : Below w1.heap.size w1 V_2 := by rw [← hV_2]; exact (Below.refl _ _).alloc (Nat.le_refl _) _
  have c_3 : V_2.cell? ⟨w1.heap.size, 0, none⟩ = some (.int .i64 1) := by rw [← hV_2]; simp [go_sem]
  have c_4 : V_2.cell? ⟨w1.heap.size, 1, none⟩ = some (.slice (some ⟨p1, 0, none⟩) 1 1) := by rw [← hV_2]; simp [go_sem]
  have c_5 : V_2.cell? ⟨w1.heap.size, 2, none⟩ = some (.slice (some ⟨p2, 0, none⟩) 1 1) := by rw [← hV_2]; simp [go_sem]
  have c_6 : V_2.cell? ⟨w1.heap.size, 3, none⟩ = some (.slice none 0 0) := by rw [← hV_2]; simp [go_sem]
  have c_7 : V_2.cell? ⟨w1.heap.size, 4, none⟩ = some (.slice none 0 0) := by rw [← hV_2]; simp [go_sem]
  have c_8 : V_2.cell? ⟨w1.heap.size, 5, none⟩ = some (.slice none 0 0) := by rw [← hV_2]; simp [go_sem]
  have c_9 : V_2.cell? ⟨w1.heap.size, 6, none⟩ = some (.int .i64 0) := by rw [← hV_2]; simp [go_sem]
  have c_10 : V_2.cell? ⟨w1.heap.size, 7, none⟩ = some (.slice (some ⟨p3, 0, none⟩) 3 3) := by rw [← hV_2]; simp [go_sem]
  have c_11 : V_2.cell? ⟨w1.heap.size, 8, none⟩ = some (.slice none 0 0) := by rw [← hV_2]; simp [go_sem]
  have s_12 : w1.heap.size < V_2.heap.size := by rw [← hV_2]; simp
  have k_13 : w1.heap.size < V_2.heap.size := s_12
  have H_14 := Lib.hid (Tp.out.below bV_2)
  have HB := Lib.hid (HB.out.trans (bV_2.mono HB.out.size))
  have o_15 : w1.heap.size ≤ V_2.heap.size := bV_2.size
  clear bV_2
  rw [hV_2]
  clear hV_2
  refine (implWorldNew_any _).mono ?_
  rintro e w2 ⟨g1, g2, g3, rfl, hat, hb⟩
  have Tg := Lib.hid hat
  have lg : V_2.heap.size ≤ w2.heap.size := hb.size
  have c_16 := (hb.cell (p := ⟨w1.heap.size, 0, none⟩) s_12).trans c_3
  have c_17 := (hb.cell (p := ⟨w1.heap.size, 1, none⟩) s_12).trans c_4
  have c_18 := (hb.cell (p := ⟨w1.heap.size, 2, none⟩) s_12).trans c_5
  have c_19 := (hb.cell (p := ⟨w1.heap.size, 3, none⟩) s_12).trans c_6
  have c_20 := (hb.cell (p := ⟨w1.heap.size, 4, none⟩) s_12).trans c_7
  have c_21 := (hb.cell (p := ⟨w1.heap.size, 5, none⟩) s_12).trans c_8
  have c_22 := (hb.cell (p := ⟨w1.heap.size, 6, none⟩) s_12).trans c_9
  have c_23 := (hb.cell (p := ⟨w1.heap.size, 7, none⟩) s_12).trans c_10
  have c_24 := (hb.cell (p := ⟨w1.heap.size, 8, none⟩) s_12).trans c_11
  have s_25 : w1.heap.size < w2.heap.size := Nat.lt_of_lt_of_le s_12 hb.size
  have H_26 := Lib.hid (H_14.out.below hb)
  have HB := Lib.hid (HB.out.trans (hb.mono HB.out.size))
  have o_27 : V_2.heap.size ≤ w2.heap.size := hb.size
  clear c_3 c_4 c_5 c_6 c_7 c_8 c_9 c_10 c_11 s_12
  clear hat hb
  go_wp2_with fail
  obtain ⟨V_28, hV_28⟩ : ∃ V_28, w2.alloc (.cells #[.int .i64 1, .slice (some ⟨g1, 0, none⟩) 1 1, .slice (some ⟨g2, 0, none⟩) 1 1, .slice none 0 0, .slice none 0 0, .slice none 0 0, .int .i64 0, .slice (some ⟨g3, 0, none⟩) 3 3, .slice none 0 0] 37) = V_28 := ⟨_, rfl⟩
  have bV_28 : Below w2.heap.size w2 V_28 := by rw [← hV_28]; exact (Below.refl _ _).alloc (Nat.le_refl _) _
  have c_29 : V_28.cell? ⟨w2.heap.size, 0, none⟩ = some (.int .i64 1) := by rw [← hV_28]; simp [go_sem]
  have c_30 : V_28.cell? ⟨w2.heap.size, 1, none⟩ = some (.slice (some ⟨g1, 0, none⟩) 1 1) := by rw [← hV_28]; simp [go_sem]
  have c_31 : V_28.cell? ⟨w2.heap.size, 2, none⟩ = some (.slice (some ⟨g2, 0, none⟩) 1 1) := by rw [← hV_28]; simp [go_sem]
  have c_32 : V_28.cell? ⟨w2.heap.size, 3, none⟩ = some (.slice none 0 0) := by rw [← hV_28]; simp [go_sem]
  have c_33 : V_28.cell? ⟨w2.heap.size, 4, none⟩ = some (.slice none 0 0) := by rw [← hV_28]; simp [go_sem]
  have c_34 : V_28.cell? ⟨w2.heap.size, 5, none⟩ = some (.slice none 0 0) := by rw [← hV_28]; simp [go_sem]
  have c_35 : V_28.cell? ⟨w2.heap.size, 6, none⟩ = some (.int .i64 0) := by rw [← hV_28]; simp [go_sem]
  have c_36 : V_28.cell? ⟨w2.heap.size, 7, none⟩ = some (.slice (some ⟨g3, 0, none⟩) 3 3) := by rw [← hV_28]; simp [go_sem]
  have c_37 : V_28.cell? ⟨w2.heap.size, 8, none⟩ = some (.slice none 0 0) := by rw [← hV_28]; simp [go_sem]
  have s_38 : w2.heap.size < V_28.heap.size := by rw [← hV_28]; simp
  have k_39 : w2.heap.size < V_28.heap.size := s_38
  have c_40 := (bV_28.cell (p := ⟨w1.heap.size, 0, none⟩) s_25).trans c_16
  have c_41 := (bV_28.cell (p := ⟨w1.heap.size, 1, none⟩) s_25).trans c_17
  have c_42 := (bV_28.cell (p := ⟨w1.heap.size, 2, none⟩) s_25).trans c_18
  have c_43 := (bV_28.cell (p := ⟨w1.heap.size, 3, none⟩) s_25).trans c_19
  have c_44 := (bV_28.cell (p := ⟨w1.heap.size, 4, none⟩) s_25).trans c_20
  have c_45 := (bV_28.cell (p := ⟨w1.heap.size, 5, none⟩) s_25).trans c_21
  have c_46 := (bV_28.cell (p := ⟨w1.heap.size, 6, none⟩) s_25).trans c_22
  have c_47 := (bV_28.cell (p := ⟨w1.heap.size, 7, none⟩) s_25).trans c_23
  have c_48 := (bV_28.cell (p := ⟨w1.heap.size, 8, none⟩) s_25).trans c_24
  have s_49 : w1.heap.size < V_28.heap.size := Nat.lt_of_lt_of_le s_25 bV_28.size
  have H_50 := Lib.hid (H_26.out.below bV_28)
  have H_51 := Lib.hid (Tg.out.below bV_28)
  have HB := Lib.hid (HB.out.trans (bV_28.mono HB.out.size))
  have o_52 : w2.heap.size ≤ V_28.heap.size := bV_28.size
  clear c_16 c_17 c_18 c_19 c_20 c_21 c_22 c_23 c_24 s_25
  clear bV_28
  rw [hV_28]
  clear hV_28
  refine (eqWorld_at H_51.out H_50.out).mono ?_
  rintro e w3 ⟨rfl, hb⟩
  have c_53 := (hb.cell (p := ⟨w1.heap.size, 0, none⟩) s_49).trans c_40
  have c_54 := (hb.cell (p := ⟨w1.heap.size, 1, none⟩) s_49).trans c_41
  have c_55 := (hb.cell (p := ⟨w1.heap.size, 2, none⟩) s_49).trans c_42
  have c_56 := (hb.cell (p := ⟨w1.heap.size, 3, none⟩) s_49).trans c_43
  have c_57 := (hb.cell (p := ⟨w1.heap.size, 4, none⟩) s_49).trans c_44
  have c_58 := (hb.cell (p := ⟨w1.heap.size, 5, none⟩) s_49).trans c_45
  have c_59 := (hb.cell (p := ⟨w1.heap.size, 6, none⟩) s_49).trans c_46
  have c_60 := (hb.cell (p := ⟨w1.heap.size, 7, none⟩) s_49).trans c_47
  have c_61 := (hb.cell (p := ⟨w1.heap.size, 8, none⟩) s_49).trans c_48
  have s_62 : w1.heap.size < w3.heap.size := Nat.lt_of_lt_of_le s_49 hb.size
  have c_63 := (hb.cell (p := ⟨w2.heap.size, 0, none⟩) s_38).trans c_29
  have c_64 := (hb.cell (p := ⟨w2.heap.size, 1, none⟩) s_38).trans c_30
  have c_65 := (hb.cell (p := ⟨w2.heap.size, 2, none⟩) s_38).trans c_31
  have c_66 := (hb.cell (p := ⟨w2.heap.size, 3, none⟩) s_38).trans c_32
  have c_67 := (hb.cell (p := ⟨w2.heap.size, 4, none⟩) s_38).trans c_33
  have c_68 := (hb.cell (p := ⟨w2.heap.size, 5, none⟩) s_38).trans c_34
  have c_69 := (hb.cell (p := ⟨w2.heap.size, 6, none⟩) s_38).trans c_35
  have c_70 := (hb.cell (p := ⟨w2.heap.size, 7, none⟩) s_38).trans c_36
  have c_71 := (hb.cell (p := ⟨w2.heap.size, 8, none⟩) s_38).trans c_37
  have s_72 : w2.heap.size < w3.heap.size := Nat.lt_of_lt_of_le s_38 hb.size
  have H_73 := Lib.hid (H_50.out.below hb)
  have H_74 := Lib.hid (H_51.out.below hb)
  have HB := Lib.hid (HB.out.trans (hb.mono HB.out.size))
  have o_75 : V_28.heap.size ≤ w3.heap.size := hb.size
  clear c_40 c_41 c_42 c_43 c_44 c_45 c_46 c_47 c_48 s_49 c_29 c_30 c_31 c_32 c_33 c_34 c_35 c_36 c_37 s_38
  clear hb
  go_wp2_with fail
  refine (markWorld_at H_74.out).mono ?_
  rintro e w4 ⟨rfl, hatm, hb⟩
  have Tm := Lib.hid hatm
  have c_76 := (hb.cellS (p := ⟨w1.heap.size, 0, none⟩) s_62 (by show ¬ (_ ≤ w1.heap.size ∧ w1.heap.size < _); omega)).trans c_53
  have c_77 := (hb.cellS (p := ⟨w1.heap.size, 1, none⟩) s_62 (by show ¬ (_ ≤ w1.heap.size ∧ w1.heap.size < _); omega)).trans c_54
  have c_78 := (hb.cellS (p := ⟨w1.heap.size, 2, none⟩) s_62 (by show ¬ (_ ≤ w1.heap.size ∧ w1.heap.size < _); omega)).trans c_55
  have c_79 := (hb.cellS (p := ⟨w1.heap.size, 3, none⟩) s_62 (by show ¬ (_ ≤ w1.heap.size ∧ w1.heap.size < _); omega)).trans c_56
  have c_80 := (hb.cellS (p := ⟨w1.heap.size, 4, none⟩) s_62 (by show ¬ (_ ≤ w1.heap.size ∧ w1.heap.size < _); omega)).trans c_57
  have c_81 := (hb.cellS (p := ⟨w1.heap.size, 5, none⟩) s_62 (by show ¬ (_ ≤ w1.heap.size ∧ w1.heap.size < _); omega)).trans c_58
  have c_82 := (hb.cellS (p := ⟨w1.heap.size, 6, none⟩) s_62 (by show ¬ (_ ≤ w1.heap.size ∧ w1.heap.size < _); omega)).trans c_59
  have c_83 := (hb.cellS (p := ⟨w1.heap.size, 7, none⟩) s_62 (by show ¬ (_ ≤ w1.heap.size ∧ w1.heap.size < _); omega)).trans c_60
  have c_84 := (hb.cellS (p := ⟨w1.heap.size, 8, none⟩) s_62 (by show ¬ (_ ≤ w1.heap.size ∧ w1.heap.size < _); omega)).trans c_61
  have s_85 : w1.heap.size < w4.heap.size := Nat.lt_of_lt_of_le s_62 hb.size
  have c_86 := (hb.cellS (p := ⟨w2.heap.size, 0, none⟩) s_72 (by show ¬ (_ ≤ w2.heap.size ∧ w2.heap.size < _); omega)).trans c_63
  have c_87 := (hb.cellS (p := ⟨w2.heap.size, 1, none⟩) s_72 (by show ¬ (_ ≤ w2.heap.size ∧ w2.heap.size < _); omega)).trans c_64
  have c_88 := (hb.cellS (p := ⟨w2.heap.size, 2, none⟩) s_72 (by show ¬ (_ ≤ w2.heap.size ∧ w2.heap.size < _); omega)).trans c_65
  have c_89 := (hb.cellS (p := ⟨w2.heap.size, 3, none⟩) s_72 (by show ¬ (_ ≤ w2.heap.size ∧ w2.heap.size < _); omega)).trans c_66
  have c_90 := (hb.cellS (p := ⟨w2.heap.size, 4, none⟩) s_72 (by show ¬ (_ ≤ w2.heap.size ∧ w2.heap.size < _); omega)).trans c_67
  have c_91 := (hb.cellS (p := ⟨w2.heap.size, 5, none⟩) s_72 (by show ¬ (_ ≤ w2.heap.size ∧ w2.heap.size < _); omega)).trans c_68
  have c_92 := (hb.cellS (p := ⟨w2.heap.size, 6, none⟩) s_72 (by show ¬ (_ ≤ w2.heap.size ∧ w2.heap.size < _); omega)).trans c_69
  have c_93 := (hb.cellS (p := ⟨w2.heap.size, 7, none⟩) s_72 (by show ¬ (_ ≤ w2.heap.size ∧ w2.heap.size < _); omega)).trans c_70
  have c_94 := (hb.cellS (p := ⟨w2.heap.size, 8, none⟩) s_72 (by show ¬ (_ ≤ w2.heap.size ∧ w2.heap.size < _); omega)).trans c_71
  have s_95 : w2.heap.size < w4.heap.size := Nat.lt_of_lt_of_le s_72 hb.size
  have H_96 := Lib.hid (H_73.out.turned (by intro b h1 h2; omega) hb)
  have HB := Lib.hid (step_turned HB.out hb (by omega) HB.out.size)
  have o_97 : w3.heap.size ≤ w4.heap.size := hb.size
  clear c_53 c_54 c_55 c_56 c_57 c_58 c_59 c_60 c_61 s_62 c_63 c_64 c_65 c_66 c_67 c_68 c_69 c_70 c_71 s_72
  clear hatm hb
  go_wp2_with fail
  refine (heldWorld_at Tm.out).mono ?_
  rintro e w5 ⟨rfl, hb⟩
  have c_98 := (hb.cell (p := ⟨w1.heap.size, 0, none⟩) s_85).trans c_76
  have c_99 := (hb.cell (p := ⟨w1.heap.size, 1, none⟩) s_85).trans c_77
  have c_100 := (hb.cell (p := ⟨w1.heap.size, 2, none⟩) s_85).trans c_78
  have c_101 := (hb.cell (p := ⟨w1.heap.size, 3, none⟩) s_85).trans c_79
  have c_102 := (hb.cell (p := ⟨w1.heap.size, 4, none⟩) s_85).trans c_80
  have c_103 := (hb.cell (p := ⟨w1.heap.size, 5, none⟩) s_85).trans c_81
  have c_104 := (hb.cell (p := ⟨w1.heap.size, 6, none⟩) s_85).trans c_82
  have c_105 := (hb.cell (p := ⟨w1.heap.size, 7, none⟩) s_85).trans c_83
  have c_106 := (hb.cell (p := ⟨w1.heap.size, 8, none⟩) s_85).trans c_84
  have s_107 : w1.heap.size < w5.heap.size := Nat.lt_of_lt_of_le s_85 hb.size
  have c_108 := (hb.cell (p := ⟨w2.heap.size, 0, none⟩) s_95).trans c_86
  have c_109 := (hb.cell (p := ⟨w2.heap.size, 1, none⟩) s_95).trans c_87
  have c_110 := (hb.cell (p := ⟨w2.heap.size, 2, none⟩) s_95).trans c_88
  have c_111 := (hb.cell (p := ⟨w2.heap.size, 3, none⟩) s_95).trans c_89
  have c_112 := (hb.cell (p := ⟨w2.heap.size, 4, none⟩) s_95).trans c_90
  have c_113 := (hb.cell (p := ⟨w2.heap.size, 5, none⟩) s_95).trans c_91
  have c_114 := (hb.cell (p := ⟨w2.heap.size, 6, none⟩) s_95).trans c_92
  have c_115 := (hb.cell (p := ⟨w2.heap.size, 7, none⟩) s_95).trans c_93
  have c_116 := (hb.cell (p := ⟨w2.heap.size, 8, none⟩) s_95).trans c_94
  have s_117 : w2.heap.size < w5.heap.size := Nat.lt_of_lt_of_le s_95 hb.size
  have H_118 := Lib.hid (H_96.out.below hb)
  have H_119 := Lib.hid (Tm.out.below hb)
  have HB := Lib.hid (HB.out.trans (hb.mono HB.out.size))
  have o_120 : w4.heap.size ≤ w5.heap.size := hb.size
  clear c_76 c_77 c_78 c_79 c_80 c_81 c_82 c_83 c_84 s_85 c_86 c_87 c_88 c_89 c_90 c_91 c_92 c_93 c_94 s_95
  clear hb
  go_wp2_with fail
  refine (implWorldNew_any _).mono ?_
  rintro e w6 ⟨h1, h2, h3, rfl, hat, hb⟩
  have Th := Lib.hid hat
  have lh : w5.heap.size ≤ w6.heap.size := hb.size
  have c_121 := (hb.cell (p := ⟨w1.heap.size, 0, none⟩) s_107).trans c_98
  have c_122 := (hb.cell (p := ⟨w1.heap.size, 1, none⟩) s_107).trans c_99
  have c_123 := (hb.cell (p := ⟨w1.heap.size, 2, none⟩) s_107).trans c_100
  have c_124 := (hb.cell (p := ⟨w1.heap.size, 3, none⟩) s_107).trans c_101
  have c_125 := (hb.cell (p := ⟨w1.heap.size, 4, none⟩) s_107).trans c_102
  have c_126 := (hb.cell (p := ⟨w1.heap.size, 5, none⟩) s_107).trans c_103
  have c_127 := (hb.cell (p := ⟨w1.heap.size, 6, none⟩) s_107).trans c_104
  have c_128 := (hb.cell (p := ⟨w1.heap.size, 7, none⟩) s_107).trans c_105
  have c_129 := (hb.cell (p := ⟨w1.heap.size, 8, none⟩) s_107).trans c_106
  have s_130 : w1.heap.size < w6.heap.size := Nat.lt_of_lt_of_le s_107 hb.size
  have c_131 := (hb.cell (p := ⟨w2.heap.size, 0, none⟩) s_117).trans c_108
  have c_132 := (hb.cell (p := ⟨w2.heap.size, 1, none⟩) s_117).trans c_109
  have c_133 := (hb.cell (p := ⟨w2.heap.size, 2, none⟩) s_117).trans c_110
  have c_134 := (hb.cell (p := ⟨w2.heap.size, 3, none⟩) s_117).trans c_111
  have c_135 := (hb.cell (p := ⟨w2.heap.size, 4, none⟩) s_117).trans c_112
  have c_136 := (hb.cell (p := ⟨w2.heap.size, 5, none⟩) s_117).trans c_113
  have c_137 := (hb.cell (p := ⟨w2.heap.size, 6, none⟩) s_117).trans c_114
  have c_138 := (hb.cell (p := ⟨w2.heap.size, 7, none⟩) s_117).trans c_115
  have c_139 := (hb.cell (p := ⟨w2.heap.size, 8, none⟩) s_117).trans c_116
  have s_140 : w2.heap.size < w6.heap.size := Nat.lt_of_lt_of_le s_117 hb.size
  have H_141 := Lib.hid (H_118.out.below hb)
  have H_142 := Lib.hid (H_119.out.below hb)
  have HB := Lib.hid (HB.out.trans (hb.mono HB.out.size))
  have o_143 : w5.heap.size ≤ w6.heap.size := hb.size
  clear c_98 c_99 c_100 c_101 c_102 c_103 c_104 c_105 c_106 s_107 c_108 c_109 c_110 c_111 c_112 c_113 c_114 c_115 c_116 s_117
  clear hat hb
  go_wp2_with fail
  obtain ⟨V_144, hV_144⟩ : ∃ V_144, w6.alloc (.cells #[.int .i64 1, .slice (some ⟨h1, 0, none⟩) 1 1, .slice (some ⟨h2, 0, none⟩) 1 1, .slice none 0 0, .slice none 0 0, .slice none 0 0, .int .i64 0, .slice (some ⟨h3, 0, none⟩) 3 3, .slice none 0 0] 37) = V_144 := ⟨_, rfl⟩
  have bV_144 : Below w6.heap.size w6 V_144 := by rw [← hV_144]; exact (Below.refl _ _).alloc (Nat.le_refl _) _
  have c_145 : V_144.cell? ⟨w6.heap.size, 0, none⟩ = some (.int .i64 1) := by rw [← hV_144]; simp [go_sem]
  have c_146 : V_144.cell? ⟨w6.heap.size, 1, none⟩ = some (.slice (some ⟨h1, 0, none⟩) 1 1) := by rw [← hV_144]; simp [go_sem]
  have c_147 : V_144.cell? ⟨w6.heap.size, 2, none⟩ = some (.slice (some ⟨h2, 0, none⟩) 1 1) := by rw [← hV_144]; simp [go_sem]
  have c_148 : V_144.cell? ⟨w6.heap.size, 3, none⟩ = some (.slice none 0 0) := by rw [← hV_144]; simp [go_sem]
  have c_149 : V_144.cell? ⟨w6.heap.size, 4, none⟩ = some (.slice none 0 0) := by rw [← hV_144]; simp [go_sem]
  have c_150 : V_144.cell? ⟨w6.heap.size, 5, none⟩ = some (.slice none 0 0) := by rw [← hV_144]; simp [go_sem]
  have c_151 : V_144.cell? ⟨w6.heap.size, 6, none⟩ = some (.int .i64 0) := by rw [← hV_144]; simp [go_sem]
  have c_152 : V_144.cell? ⟨w6.heap.size, 7, none⟩ = some (.slice (some ⟨h3, 0, none⟩) 3 3) := by rw [← hV_144]; simp [go_sem]
  have c_153 : V_144.cell? ⟨w6.heap.size, 8, none⟩ = some (.slice none 0 0) := by rw [← hV_144]; simp [go_sem]
  have s_154 : w6.heap.size < V_144.heap.size := by rw [← hV_144]; simp
  have k_155 : w6.heap.size < V_144.heap.size := s_154
  have c_156 := (bV_144.cell (p := ⟨w1.heap.size, 0, none⟩) s_130).trans c_121
  have c_157 := (bV_144.cell (p := ⟨w1.heap.size, 1, none⟩) s_130).trans c_122
  have c_158 := (bV_144.cell (p := ⟨w1.heap.size, 2, none⟩) s_130).trans c_123
  have c_159 := (bV_144.cell (p := ⟨w1.heap.size, 3, none⟩) s_130).trans c_124
  have c_160 := (bV_144.cell (p := ⟨w1.heap.size, 4, none⟩) s_130).trans c_125
  have c_161 := (bV_144.cell (p := ⟨w1.heap.size, 5, none⟩) s_130).trans c_126
  have c_162 := (bV_144.cell (p := ⟨w1.heap.size, 6, none⟩) s_130).trans c_127
  have c_163 := (bV_144.cell (p := ⟨w1.heap.size, 7, none⟩) s_130).trans c_128
  have c_164 := (bV_144.cell (p := ⟨w1.heap.size, 8, none⟩) s_130).trans c_129
  have s_165 : w1.heap.size < V_144.heap.size := Nat.lt_of_lt_of_le s_130 bV_144.size
  have c_166 := (bV_144.cell (p := ⟨w2.heap.size, 0, none⟩) s_140).trans c_131
  have c_167 := (bV_144.cell (p := ⟨w2.heap.size, 1, none⟩) s_140).trans c_132
  have c_168 := (bV_144.cell (p := ⟨w2.heap.size, 2, none⟩) s_140).trans c_133
  have c_169 := (bV_144.cell (p := ⟨w2.heap.size, 3, none⟩) s_140).trans c_134
  have c_170 := (bV_144.cell (p := ⟨w2.heap.size, 4, none⟩) s_140).trans c_135
  have c_171 := (bV_144.cell (p := ⟨w2.heap.size, 5, none⟩) s_140).trans c_136
  have c_172 := (bV_144.cell (p := ⟨w2.heap.size, 6, none⟩) s_140).trans c_137
  have c_173 := (bV_144.cell (p := ⟨w2.heap.size, 7, none⟩) s_140).trans c_138
  have c_174 := (bV_144.cell (p := ⟨w2.heap.size, 8, none⟩) s_140).trans c_139
  have s_175 : w2.heap.size < V_144.heap.size := Nat.lt_of_lt_of_le s_140 bV_144.size
  have H_176 := Lib.hid (H_141.out.below bV_144)
  have H_177 := Lib.hid (H_142.out.below bV_144)
  have H_178 := Lib.hid (Th.out.below bV_144)
  have HB := Lib.hid (HB.out.trans (bV_144.mono HB.out.size))
  have o_179 : w6.heap.size ≤ V_144.heap.size := bV_144.size
  clear c_121 c_122 c_123 c_124 c_125 c_126 c_127 c_128 c_129 s_130 c_131 c_132 c_133 c_134 c_135 c_136 c_137 c_138 c_139 s_140
  clear bV_144
  rw [hV_144]
  clear hV_144
  refine (eqWorld_at H_178.out H_176.out).mono ?_
  rintro e w7 ⟨rfl, hb⟩
  have c_180 := (hb.cell (p := ⟨w1.heap.size, 0, none⟩) s_165).trans c_156
  have c_181 := (hb.cell (p := ⟨w1.heap.size, 1, none⟩) s_165).trans c_157
  have c_182 := (hb.cell (p := ⟨w1.heap.size, 2, none⟩) s_165).trans c_158
  have c_183 := (hb.cell (p := ⟨w1.heap.size, 3, none⟩) s_165).trans c_159
  have c_184 := (hb.cell (p := ⟨w1.heap.size, 4, none⟩) s_165).trans c_160
  have c_185 := (hb.cell (p := ⟨w1.heap.size, 5, none⟩) s_165).trans c_161
  have c_186 := (hb.cell (p := ⟨w1.heap.size, 6, none⟩) s_165).trans c_162
  have c_187 := (hb.cell (p := ⟨w1.heap.size, 7, none⟩) s_165).trans c_163
  have c_188 := (hb.cell (p := ⟨w1.heap.size, 8, none⟩) s_165).trans c_164
  have s_189 : w1.heap.size < w7.heap.size := Nat.lt_of_lt_of_le s_165 hb.size
  have c_190 := (hb.cell (p := ⟨w2.heap.size, 0, none⟩) s_175).trans c_166
  have c_191 := (hb.cell (p := ⟨w2.heap.size, 1, none⟩) s_175).trans c_167
  have c_192 := (hb.cell (p := ⟨w2.heap.size, 2, none⟩) s_175).trans c_168
  have c_193 := (hb.cell (p := ⟨w2.heap.size, 3, none⟩) s_175).trans c_169
  have c_194 := (hb.cell (p := ⟨w2.heap.size, 4, none⟩) s_175).trans c_170
  have c_195 := (hb.cell (p := ⟨w2.heap.size, 5, none⟩) s_175).trans c_171
  have c_196 := (hb.cell (p := ⟨w2.heap.size, 6, none⟩) s_175).trans c_172
  have c_197 := (hb.cell (p := ⟨w2.heap.size, 7, none⟩) s_175).trans c_173
  have c_198 := (hb.cell (p := ⟨w2.heap.size, 8, none⟩) s_175).trans c_174
  have s_199 : w2.heap.size < w7.heap.size := Nat.lt_of_lt_of_le s_175 hb.size
  have c_200 := (hb.cell (p := ⟨w6.heap.size, 0, none⟩) s_154).trans c_145
  have c_201 := (hb.cell (p := ⟨w6.heap.size, 1, none⟩) s_154).trans c_146
  have c_202 := (hb.cell (p := ⟨w6.heap.size, 2, none⟩) s_154).trans c_147
  have c_203 := (hb.cell (p := ⟨w6.heap.size, 3, none⟩) s_154).trans c_148
  have c_204 := (hb.cell (p := ⟨w6.heap.size, 4, none⟩) s_154).trans c_149
  have c_205 := (hb.cell (p := ⟨w6.heap.size, 5, none⟩) s_154).trans c_150
  have c_206 := (hb.cell (p := ⟨w6.heap.size, 6, none⟩) s_154).trans c_151
  have c_207 := (hb.cell (p := ⟨w6.heap.size, 7, none⟩) s_154).trans c_152
  have c_208 := (hb.cell (p := ⟨w6.heap.size, 8, none⟩) s_154).trans c_153
  have s_209 : w6.heap.size < w7.heap.size := Nat.lt_of_lt_of_le s_154 hb.size
  have H_210 := Lib.hid (H_176.out.below hb)
  have H_211 := Lib.hid (H_177.out.below hb)
  have H_212 := Lib.hid (H_178.out.below hb)
  have HB := Lib.hid (HB.out.trans (hb.mono HB.out.size))
  have o_213 : V_144.heap.size ≤ w7.heap.size := hb.size
  clear c_156 c_157 c_158 c_159 c_160 c_161 c_162 c_163 c_164 s_165 c_166 c_167 c_168 c_169 c_170 c_171 c_172 c_173 c_174 s_175 c_145 c_146 c_147 c_148 c_149 c_150 c_151 c_152 c_153 s_154
  clear hb
  go_wp2_with fail
  refine (heldWorld_at H_211.out).mono ?_
  rintro e w8 ⟨rfl, hb⟩
  have c_214 := (hb.cell (p := ⟨w1.heap.size, 0, none⟩) s_189).trans c_180
  have c_215 := (hb.cell (p := ⟨w1.heap.size, 1, none⟩) s_189).trans c_181
  have c_216 := (hb.cell (p := ⟨w1.heap.size, 2, none⟩) s_189).trans c_182
  have c_217 := (hb.cell (p := ⟨w1.heap.size, 3, none⟩) s_189).trans c_183
  have c_218 := (hb.cell (p := ⟨w1.heap.size, 4, none⟩) s_189).trans c_184
  have c_219 := (hb.cell (p := ⟨w1.heap.size, 5, none⟩) s_189).trans c_185
  have c_220 := (hb.cell (p := ⟨w1.heap.size, 6, none⟩) s_189).trans c_186
  have c_221 := (hb.cell (p := ⟨w1.heap.size, 7, none⟩) s_189).trans c_187
  have c_222 := (hb.cell (p := ⟨w1.heap.size, 8, none⟩) s_189).trans c_188
  have s_223 : w1.heap.size < w8.heap.size := Nat.lt_of_lt_of_le s_189 hb.size
  have c_224 := (hb.cell (p := ⟨w2.heap.size, 0, none⟩) s_199).trans c_190
  have c_225 := (hb.cell (p := ⟨w2.heap.size, 1, none⟩) s_199).trans c_191
  have c_226 := (hb.cell (p := ⟨w2.heap.size, 2, none⟩) s_199).trans c_192
  have c_227 := (hb.cell (p := ⟨w2.heap.size, 3, none⟩) s_199).trans c_193
  have c_228 := (hb.cell (p := ⟨w2.heap.size, 4, none⟩) s_199).trans c_194
  have c_229 := (hb.cell (p := ⟨w2.heap.size, 5, none⟩) s_199).trans c_195
  have c_230 := (hb.cell (p := ⟨w2.heap.size, 6, none⟩) s_199).trans c_196
  have c_231 := (hb.cell (p := ⟨w2.heap.size, 7, none⟩) s_199).trans c_197
  have c_232 := (hb.cell (p := ⟨w2.heap.size, 8, none⟩) s_199).trans c_198
  have s_233 : w2.heap.size < w8.heap.size := Nat.lt_of_lt_of_le s_199 hb.size
  have c_234 := (hb.cell (p := ⟨w6.heap.size, 0, none⟩) s_209).trans c_200
  have c_235 := (hb.cell (p := ⟨w6.heap.size, 1, none⟩) s_209).trans c_201
  have c_236 := (hb.cell (p := ⟨w6.heap.size, 2, none⟩) s_209).trans c_202
  have c_237 := (hb.cell (p := ⟨w6.heap.size, 3, none⟩) s_209).trans c_203
  have c_238 := (hb.cell (p := ⟨w6.heap.size, 4, none⟩) s_209).trans c_204
  have c_239 := (hb.cell (p := ⟨w6.heap.size, 5, none⟩) s_209).trans c_205
  have c_240 := (hb.cell (p := ⟨w6.heap.size, 6, none⟩) s_209).trans c_206
  have c_241 := (hb.cell (p := ⟨w6.heap.size, 7, none⟩) s_209).trans c_207
  have c_242 := (hb.cell (p := ⟨w6.heap.size, 8, none⟩) s_209).trans c_208
  have s_243 : w6.heap.size < w8.heap.size := Nat.lt_of_lt_of_le s_209 hb.size
  have H_244 := Lib.hid (H_210.out.below hb)
  have H_245 := Lib.hid (H_211.out.below hb)
  have H_246 := Lib.hid (H_212.out.below hb)
  have HB := Lib.hid (HB.out.trans (hb.mono HB.out.size))
  have o_247 : w7.heap.size ≤ w8.heap.size := hb.size
  clear c_180 c_181 c_182 c_183 c_184 c_185 c_186 c_187 c_188 s_189 c_190 c_191 c_192 c_193 c_194 c_195 c_196 c_197 c_198 s_199 c_200 c_201 c_202 c_203 c_204 c_205 c_206 c_207 c_208 s_209
  clear hb
  go_wp2_with fail
  go_ret
  exact ⟨rfl, HB.out⟩
end Go.Proofs.Ytncipibjlpfkhaa
