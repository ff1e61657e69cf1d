/- The law of PmapSplit, walked. -/
import Derived.Test.YtncipibjlpfkhaaPmAt
import Derived.Test.YtncipibjlpfkhaaPmapSplitI
import Derived.Test.YtncipibjlpfkhaaPmapSplitS
import Derived.Test.YtncipibjlpfkhaaLVmapOk
namespace Go.Proofs.Ytncipibjlpfkhaa
open Go.RowKit

set_option maxRecDepth 100000 in
set_option maxHeartbeats 4000000 in
theorem pmapSplit_law (ep : Int) (a : Option Addr) (vs : List RowD) (cap : Nat) (key : ByteArray) (node : Int) (w : World) (hv : RowsIn w a vs) (hf : ∀ v ∈ vs, v.fits) (hn : vs.length ≤ maxLen) (hkey : key.size ≤ maxLen) :
    Calls Try.prog 8 #[.agg #[.int .i64 ep, .slice a vs.length cap], .string key, .int .i64 node] w fun e w' => e = .returned (.bool true) ∧ Below w.heap.size w w' := by
  have HV := Lib.hid hv
  have HF := Lib.hid hf
  have HN := Lib.hid hn
  clear hv hf hn
  have Hkey := Lib.hid hkey
  unfold maxLen at hkey
  by_cases hlong : 1048576 < key.size
  · go_enter Try.func8, Try.ntmps8
    go_wp2_with fail
    go_ret
    exact ⟨rfl, (Below.refl _ _).alloc (Nat.le_refl _) _⟩
  obtain ⟨W0, hW0⟩ : ∃ W0, w.alloc (.cells #[.int .i64 ep, .slice a vs.length cap] 67) = W0 := ⟨_, rfl⟩
  have B0 : Below w.heap.size w W0 := by rw [← hW0]; exact (Below.refl _ _).alloc (Nat.le_refl _) _
  have x0 : W0.cell? ⟨w.heap.size, 0, none⟩ = some (.int .i64 ep) := by rw [← hW0]; simp [go_sem]
  have x1 : W0.cell? ⟨w.heap.size, 1, none⟩ = some (.slice a vs.length cap) := by rw [← hW0]; simp [go_sem]
  have x2 : w.heap.size < W0.heap.size := by rw [← hW0]; simp
  have kx2 : w.heap.size < W0.heap.size := x2
  have HB0 := Lib.hid B0
  clear B0
  go_enter Try.func8, Try.ntmps8
  go_wp2_with fail
  clear hW0
  refine (szPmap_any ep a vs cap _ _ (HV.out.below HB0.out) HF.out HN.out (by omega) (by omega)).mono ?_
  rintro e w1 ⟨z, rfl, hz, hb1⟩
  have c1 := (hb1.cell (p := ⟨w.heap.size, 0, none⟩) x2).trans x0
  have c2 := (hb1.cell (p := ⟨w.heap.size, 1, none⟩) x2).trans x1
  have s3 : w.heap.size < w1.heap.size := Nat.lt_of_lt_of_le x2 hb1.size
  have B4 := Lib.hid (step (HB0.out) hb1)
  have o5 : W0.heap.size ≤ w1.heap.size := hb1.size
  clear x0 x1 x2
  clear hb1
  rcases hz with rfl | ⟨hz, hsum⟩
  · go_wp2_with fail
    go_ret
    exact ⟨rfl, B4.out⟩
  have hL : vs.length ≤ 1048576 := by have := RowsSize_len vs; omega
  clear hsum
  go_wp2_with fail
  refine (toPmap_at ep a vs cap _ (HV.out.below B4.out) hL).mono ?_
  rintro e w2 ⟨aq, cq, rfl, hat, hb2, hcp, hcm⟩
  have Tq := Lib.hid hat
  have c6 := (hb2.cell (p := ⟨w.heap.size, 0, none⟩) s3).trans c1
  have c7 := (hb2.cell (p := ⟨w.heap.size, 1, none⟩) s3).trans c2
  have s8 : w.heap.size < w2.heap.size := Nat.lt_of_lt_of_le s3 hb2.size
  have B9 := Lib.hid (step (B4.out) hb2)
  have o10 : w1.heap.size ≤ w2.heap.size := hb2.size
  clear c1 c2 s3
  clear hat hb2
  go_wp2_with fail
  refine (specPmapSplit_any ep aq vs cq key node _ Tq.out.in1 HF.out hL hcp hcm Hkey.out).mono ?_
  rintro e w3 ⟨ep', us, r, hR, aw, cw, rfl, hatw, hb3⟩
  have HR := Lib.hid hR
  have Tw := Lib.hid hatw
  have c11 := (hb3.cell (p := ⟨w.heap.size, 0, none⟩) s8).trans c6
  have c12 := (hb3.cell (p := ⟨w.heap.size, 1, none⟩) s8).trans c7
  have s13 : w.heap.size < w3.heap.size := Nat.lt_of_lt_of_le s8 hb3.size
  have B14 := Lib.hid (step (B9.out) hb3)
  have o15 : w2.heap.size ≤ w3.heap.size := hb3.size
  clear c6 c7 s8
  clear hR hatw hb3
  have hUs := PmapSplitRel_len HR.out
  obtain ⟨V16, hV16⟩ : ∃ V16, w3.alloc (.cells #[.int .i64 ep', .slice aw us.length cw] 29) = V16 := ⟨_, rfl⟩
  have bV16 : Below w3.heap.size w3 V16 := by rw [← hV16]; exact (Below.refl _ _).alloc (Nat.le_refl _) _
  have c17 : V16.cell? ⟨w3.heap.size, 0, none⟩ = some (.int .i64 ep') := by rw [← hV16]; simp [go_sem]
  have c18 : V16.cell? ⟨w3.heap.size, 1, none⟩ = some (.slice aw us.length cw) := by rw [← hV16]; simp [go_sem]
  have s19 : w3.heap.size < V16.heap.size := by rw [← hV16]; simp
  have k20 : w3.heap.size < V16.heap.size := s19
  have c21 := (bV16.cell (p := ⟨w.heap.size, 0, none⟩) s13).trans c11
  have c22 := (bV16.cell (p := ⟨w.heap.size, 1, none⟩) s13).trans c12
  have s23 : w.heap.size < V16.heap.size := Nat.lt_of_lt_of_le s13 bV16.size
  have H24 := Lib.hid ((Tw.out).below bV16)
  have B25 := Lib.hid (step (B14.out) bV16)
  have o26 : w3.heap.size ≤ V16.heap.size := bV16.size
  clear c11 c12 s13
  clear bV16
  go_wp2_with fail
  clear hV16
  refine (toPmap_at ep a vs cap _ (HV.out.below B25.out) hL).mono ?_
  rintro e w4 ⟨ax, cx, rfl, hatx, hb4, hcx1, hcx2⟩
  have Tx := Lib.hid hatx
  have c27 := (hb4.cell (p := ⟨w.heap.size, 0, none⟩) s23).trans c21
  have c28 := (hb4.cell (p := ⟨w.heap.size, 1, none⟩) s23).trans c22
  have s29 : w.heap.size < w4.heap.size := Nat.lt_of_lt_of_le s23 hb4.size
  have c30 := (hb4.cell (p := ⟨w3.heap.size, 0, none⟩) s19).trans c17
  have c31 := (hb4.cell (p := ⟨w3.heap.size, 1, none⟩) s19).trans c18
  have s32 : w3.heap.size < w4.heap.size := Nat.lt_of_lt_of_le s19 hb4.size
  have H33 := Lib.hid ((H24.out).below hb4)
  have B34 := Lib.hid (step (B25.out) hb4)
  have o35 : V16.heap.size ≤ w4.heap.size := hb4.size
  clear c21 c22 s23 c17 c18 s19
  clear hatx hb4
  obtain ⟨V36, hV36⟩ : ∃ V36, w4.alloc (.cells #[.int .i64 ep, .slice ax vs.length cx] 29) = V36 := ⟨_, rfl⟩
  have bV36 : Below w4.heap.size w4 V36 := by rw [← hV36]; exact (Below.refl _ _).alloc (Nat.le_refl _) _
  have c37 : V36.cell? ⟨w4.heap.size, 0, none⟩ = some (.int .i64 ep) := by rw [← hV36]; simp [go_sem]
  have c38 : V36.cell? ⟨w4.heap.size, 1, none⟩ = some (.slice ax vs.length cx) := by rw [← hV36]; simp [go_sem]
  have s39 : w4.heap.size < V36.heap.size := by rw [← hV36]; simp
  have k40 : w4.heap.size < V36.heap.size := s39
  have c41 := (bV36.cell (p := ⟨w.heap.size, 0, none⟩) s29).trans c27
  have c42 := (bV36.cell (p := ⟨w.heap.size, 1, none⟩) s29).trans c28
  have s43 : w.heap.size < V36.heap.size := Nat.lt_of_lt_of_le s29 bV36.size
  have c44 := (bV36.cell (p := ⟨w3.heap.size, 0, none⟩) s32).trans c30
  have c45 := (bV36.cell (p := ⟨w3.heap.size, 1, none⟩) s32).trans c31
  have s46 : w3.heap.size < V36.heap.size := Nat.lt_of_lt_of_le s32 bV36.size
  have H47 := Lib.hid ((H33.out).below bV36)
  have H48 := Lib.hid ((Tx.out).below bV36)
  have B49 := Lib.hid (step (B34.out) bV36)
  have o50 : w4.heap.size ≤ V36.heap.size := bV36.size
  clear c27 c28 s29 c30 c31 s32
  clear bV36
  go_wp2_with fail
  clear hV36
  refine (pmapSplit_any ep ax vs cx key node _ H48.out.in1 HF.out hL hcx1 hcx2 Hkey.out).mono ?_
  rintro e w5 ⟨ep5, us5, r5, hR5, ag, cg, rfl, hatg, hb5⟩
  have HR5 := Lib.hid hR5
  have Tg := Lib.hid hatg
  have c51 := (hb5.cell (p := ⟨w.heap.size, 0, none⟩) s43).trans c41
  have c52 := (hb5.cell (p := ⟨w.heap.size, 1, none⟩) s43).trans c42
  have s53 : w.heap.size < w5.heap.size := Nat.lt_of_lt_of_le s43 hb5.size
  have c54 := (hb5.cell (p := ⟨w3.heap.size, 0, none⟩) s46).trans c44
  have c55 := (hb5.cell (p := ⟨w3.heap.size, 1, none⟩) s46).trans c45
  have s56 : w3.heap.size < w5.heap.size := Nat.lt_of_lt_of_le s46 hb5.size
  have c57 := (hb5.cell (p := ⟨w4.heap.size, 0, none⟩) s39).trans c37
  have c58 := (hb5.cell (p := ⟨w4.heap.size, 1, none⟩) s39).trans c38
  have s59 : w4.heap.size < w5.heap.size := Nat.lt_of_lt_of_le s39 hb5.size
  have H60 := Lib.hid ((H47.out).below hb5)
  have H61 := Lib.hid ((H48.out).below hb5)
  have B62 := Lib.hid (step (B49.out) hb5)
  have o63 : V36.heap.size ≤ w5.heap.size := hb5.size
  clear c41 c42 s43 c44 c45 s46 c37 c38 s39
  clear hR5 hatg hb5
  obtain ⟨rfl, rfl, rfl⟩ := PmapSplitRel_unique HR5.out HR.out
  obtain ⟨V64, hV64⟩ : ∃ V64, w5.alloc (.cells #[.int .i64 ep5, .slice ag us5.length cg] 29) = V64 := ⟨_, rfl⟩
  have bV64 : Below w5.heap.size w5 V64 := by rw [← hV64]; exact (Below.refl _ _).alloc (Nat.le_refl _) _
  have c65 : V64.cell? ⟨w5.heap.size, 0, none⟩ = some (.int .i64 ep5) := by rw [← hV64]; simp [go_sem]
  have c66 : V64.cell? ⟨w5.heap.size, 1, none⟩ = some (.slice ag us5.length cg) := by rw [← hV64]; simp [go_sem]
  have s67 : w5.heap.size < V64.heap.size := by rw [← hV64]; simp
  have k68 : w5.heap.size < V64.heap.size := s67
  have c69 := (bV64.cell (p := ⟨w.heap.size, 0, none⟩) s53).trans c51
  have c70 := (bV64.cell (p := ⟨w.heap.size, 1, none⟩) s53).trans c52
  have s71 : w.heap.size < V64.heap.size := Nat.lt_of_lt_of_le s53 bV64.size
  have c72 := (bV64.cell (p := ⟨w3.heap.size, 0, none⟩) s56).trans c54
  have c73 := (bV64.cell (p := ⟨w3.heap.size, 1, none⟩) s56).trans c55
  have s74 : w3.heap.size < V64.heap.size := Nat.lt_of_lt_of_le s56 bV64.size
  have c75 := (bV64.cell (p := ⟨w4.heap.size, 0, none⟩) s59).trans c57
  have c76 := (bV64.cell (p := ⟨w4.heap.size, 1, none⟩) s59).trans c58
  have s77 : w4.heap.size < V64.heap.size := Nat.lt_of_lt_of_le s59 bV64.size
  have H78 := Lib.hid ((H60.out).below bV64)
  have H79 := Lib.hid ((H61.out).below bV64)
  have H80 := Lib.hid ((Tg.out).below bV64)
  have B81 := Lib.hid (step (B62.out) bV64)
  have o82 : w5.heap.size ≤ V64.heap.size := bV64.size
  clear c51 c52 s53 c54 c55 s56 c57 c58 s59
  clear bV64
  go_wp2_with fail
  clear hV64
  refine (eqPmap_at _ H80.out H78.out (by unfold maxLen; omega)).mono ?_
  rintro e w6 ⟨rfl, hb6⟩
  have c83 := (hb6.cell (p := ⟨w.heap.size, 0, none⟩) s71).trans c69
  have c84 := (hb6.cell (p := ⟨w.heap.size, 1, none⟩) s71).trans c70
  have s85 : w.heap.size < w6.heap.size := Nat.lt_of_lt_of_le s71 hb6.size
  have c86 := (hb6.cell (p := ⟨w3.heap.size, 0, none⟩) s74).trans c72
  have c87 := (hb6.cell (p := ⟨w3.heap.size, 1, none⟩) s74).trans c73
  have s88 : w3.heap.size < w6.heap.size := Nat.lt_of_lt_of_le s74 hb6.size
  have c89 := (hb6.cell (p := ⟨w4.heap.size, 0, none⟩) s77).trans c75
  have c90 := (hb6.cell (p := ⟨w4.heap.size, 1, none⟩) s77).trans c76
  have s91 : w4.heap.size < w6.heap.size := Nat.lt_of_lt_of_le s77 hb6.size
  have c92 := (hb6.cell (p := ⟨w5.heap.size, 0, none⟩) s67).trans c65
  have c93 := (hb6.cell (p := ⟨w5.heap.size, 1, none⟩) s67).trans c66
  have s94 : w5.heap.size < w6.heap.size := Nat.lt_of_lt_of_le s67 hb6.size
  have H95 := Lib.hid ((H78.out).below hb6)
  have H96 := Lib.hid ((H79.out).below hb6)
  have H97 := Lib.hid ((H80.out).below hb6)
  have B98 := Lib.hid (step (B81.out) hb6)
  have o99 : V64.heap.size ≤ w6.heap.size := hb6.size
  clear c69 c70 s71 c72 c73 s74 c75 c76 s77 c65 c66 s67
  clear hb6
  go_wp2_with fail
  go_region_with (first
    | (go_at_call 34; refine (toPmap_at ep a vs cap _ (HV.out.below (B98.out.drew)) hL).mono ?_; rintro e w7 ⟨at7, ct7, rfl, hat7, hb7, -⟩; have c100 := (hb7.cell (p := ⟨w.heap.size, 0, none⟩) s85).trans c83; have c101 := (hb7.cell (p := ⟨w.heap.size, 1, none⟩) s85).trans c84; have s102 : w.heap.size < w7.heap.size := Nat.lt_of_lt_of_le s85 hb7.size; have c103 := (hb7.cell (p := ⟨w3.heap.size, 0, none⟩) s88).trans c86; have c104 := (hb7.cell (p := ⟨w3.heap.size, 1, none⟩) s88).trans c87; have s105 : w3.heap.size < w7.heap.size := Nat.lt_of_lt_of_le s88 hb7.size; have c106 := (hb7.cell (p := ⟨w4.heap.size, 0, none⟩) s91).trans c89; have c107 := (hb7.cell (p := ⟨w4.heap.size, 1, none⟩) s91).trans c90; have s108 : w4.heap.size < w7.heap.size := Nat.lt_of_lt_of_le s91 hb7.size; have c109 := (hb7.cell (p := ⟨w5.heap.size, 0, none⟩) s94).trans c92; have c110 := (hb7.cell (p := ⟨w5.heap.size, 1, none⟩) s94).trans c93; have s111 : w5.heap.size < w7.heap.size := Nat.lt_of_lt_of_le s94 hb7.size; have H112 := Lib.hid ((H95.out.drewAt).below hb7); have H113 := Lib.hid ((H96.out.drewAt).below hb7); have H114 := Lib.hid ((H97.out.drewAt).below hb7); have B115 := Lib.hid (step (B98.out.drew) hb7); have o116 : w6.heap.size ≤ w7.heap.size := hb7.size; clear c83 c84 s85 c86 c87 s88 c89 c90 s91 c92 c93 s94; have T7 := Lib.hid hat7; clear hat7 hb7)
    | (go_at_call 36; refine (eqPmap_at _ H113.out T7.out HN.out).mono ?_; rintro e w8 ⟨rfl, hb8⟩; have c117 := (hb8.cell (p := ⟨w.heap.size, 0, none⟩) s102).trans c100; have c118 := (hb8.cell (p := ⟨w.heap.size, 1, none⟩) s102).trans c101; have s119 : w.heap.size < w8.heap.size := Nat.lt_of_lt_of_le s102 hb8.size; have c120 := (hb8.cell (p := ⟨w3.heap.size, 0, none⟩) s105).trans c103; have c121 := (hb8.cell (p := ⟨w3.heap.size, 1, none⟩) s105).trans c104; have s122 : w3.heap.size < w8.heap.size := Nat.lt_of_lt_of_le s105 hb8.size; have c123 := (hb8.cell (p := ⟨w4.heap.size, 0, none⟩) s108).trans c106; have c124 := (hb8.cell (p := ⟨w4.heap.size, 1, none⟩) s108).trans c107; have s125 : w4.heap.size < w8.heap.size := Nat.lt_of_lt_of_le s108 hb8.size; have c126 := (hb8.cell (p := ⟨w5.heap.size, 0, none⟩) s111).trans c109; have c127 := (hb8.cell (p := ⟨w5.heap.size, 1, none⟩) s111).trans c110; have s128 : w5.heap.size < w8.heap.size := Nat.lt_of_lt_of_le s111 hb8.size; have H129 := Lib.hid ((H112.out).below hb8); have H130 := Lib.hid ((H113.out).below hb8); have H131 := Lib.hid ((H114.out).below hb8); have B132 := Lib.hid (step (B115.out) hb8); have o133 : w7.heap.size ≤ w8.heap.size := hb8.size; clear c100 c101 s102 c103 c104 s105 c106 c107 s108 c109 c110 s111; clear hb8))
  all_goals
    go_wp2_with fail
    refine (markPmap_at ep rfl H130.out (k := 1) (by omega) (by omega)).mono ?_
    rintro e w9 ⟨rfl, hatm, hb9⟩
    have c134 := (hb9.cellS (p := ⟨w.heap.size, 0, none⟩) s119 (by show ¬ (_ ≤ w.heap.size ∧ w.heap.size < _); omega)).trans c117
    have c135 := (hb9.cellS (p := ⟨w.heap.size, 1, none⟩) s119 (by show ¬ (_ ≤ w.heap.size ∧ w.heap.size < _); omega)).trans c118
    have s136 : w.heap.size < w9.heap.size := Nat.lt_of_lt_of_le s119 hb9.size
    have c137 := (hb9.cellS (p := ⟨w3.heap.size, 0, none⟩) s122 (by show ¬ (_ ≤ w3.heap.size ∧ w3.heap.size < _); omega)).trans c120
    have c138 := (hb9.cellS (p := ⟨w3.heap.size, 1, none⟩) s122 (by show ¬ (_ ≤ w3.heap.size ∧ w3.heap.size < _); omega)).trans c121
    have s139 : w3.heap.size < w9.heap.size := Nat.lt_of_lt_of_le s122 hb9.size
    have c140 := (hb9.cellS (p := ⟨w4.heap.size, 0, none⟩) s125 (by show ¬ (_ ≤ w4.heap.size ∧ w4.heap.size < _); omega)).trans c123
    have c141 := (hb9.cellS (p := ⟨w4.heap.size, 1, none⟩) s125 (by show ¬ (_ ≤ w4.heap.size ∧ w4.heap.size < _); omega)).trans c124
    have s142 : w4.heap.size < w9.heap.size := Nat.lt_of_lt_of_le s125 hb9.size
    have c143 := (hb9.cellS (p := ⟨w5.heap.size, 0, none⟩) s128 (by show ¬ (_ ≤ w5.heap.size ∧ w5.heap.size < _); omega)).trans c126
    have c144 := (hb9.cellS (p := ⟨w5.heap.size, 1, none⟩) s128 (by show ¬ (_ ≤ w5.heap.size ∧ w5.heap.size < _); omega)).trans c127
    have s145 : w5.heap.size < w9.heap.size := Nat.lt_of_lt_of_le s128 hb9.size
    have H146 := Lib.hid (H129.out.turned (by intro b h1 h2; omega) hb9)
    have H147 := Lib.hid (H131.out.turned (by intro b h1 h2; omega) hb9)
    have B148 := Lib.hid (step_turned B132.out hb9 (by omega) B132.out.size)
    have o149 : w8.heap.size ≤ w9.heap.size := hb9.size
    clear c117 c118 s119 c120 c121 s122 c123 c124 s125 c126 c127 s128
    clear hatm hb9
    go_wp2_with fail
    refine (eqPmap_at _ H147.out H146.out (by unfold maxLen; omega)).mono ?_
    rintro e w10 ⟨rfl, hb10⟩
    have c150 := (hb10.cell (p := ⟨w.heap.size, 0, none⟩) s136).trans c134
    have c151 := (hb10.cell (p := ⟨w.heap.size, 1, none⟩) s136).trans c135
    have s152 : w.heap.size < w10.heap.size := Nat.lt_of_lt_of_le s136 hb10.size
    have c153 := (hb10.cell (p := ⟨w3.heap.size, 0, none⟩) s139).trans c137
    have c154 := (hb10.cell (p := ⟨w3.heap.size, 1, none⟩) s139).trans c138
    have s155 : w3.heap.size < w10.heap.size := Nat.lt_of_lt_of_le s139 hb10.size
    have c156 := (hb10.cell (p := ⟨w4.heap.size, 0, none⟩) s142).trans c140
    have c157 := (hb10.cell (p := ⟨w4.heap.size, 1, none⟩) s142).trans c141
    have s158 : w4.heap.size < w10.heap.size := Nat.lt_of_lt_of_le s142 hb10.size
    have c159 := (hb10.cell (p := ⟨w5.heap.size, 0, none⟩) s145).trans c143
    have c160 := (hb10.cell (p := ⟨w5.heap.size, 1, none⟩) s145).trans c144
    have s161 : w5.heap.size < w10.heap.size := Nat.lt_of_lt_of_le s145 hb10.size
    have H162 := Lib.hid ((H146.out).below hb10)
    have H163 := Lib.hid ((H147.out).below hb10)
    have B164 := Lib.hid (step (B148.out) hb10)
    have o165 : w9.heap.size ≤ w10.heap.size := hb10.size
    clear c134 c135 s136 c137 c138 s139 c140 c141 s142 c143 c144 s145
    clear hb10
    go_wp2_with fail
    refine (markPmap_at _ rfl H163.out (k := 1) (by omega) (by omega)).mono ?_
    rintro e w11 ⟨rfl, hatm, hb11⟩
    have Tm := Lib.hid hatm
    have c166 := (hb11.cellS (p := ⟨w.heap.size, 0, none⟩) s152 (by show ¬ (_ ≤ w.heap.size ∧ w.heap.size < _); omega)).trans c150
    have c167 := (hb11.cellS (p := ⟨w.heap.size, 1, none⟩) s152 (by show ¬ (_ ≤ w.heap.size ∧ w.heap.size < _); omega)).trans c151
    have s168 : w.heap.size < w11.heap.size := Nat.lt_of_lt_of_le s152 hb11.size
    have c169 := (hb11.cellS (p := ⟨w3.heap.size, 0, none⟩) s155 (by show ¬ (_ ≤ w3.heap.size ∧ w3.heap.size < _); omega)).trans c153
    have c170 := (hb11.cellS (p := ⟨w3.heap.size, 1, none⟩) s155 (by show ¬ (_ ≤ w3.heap.size ∧ w3.heap.size < _); omega)).trans c154
    have s171 : w3.heap.size < w11.heap.size := Nat.lt_of_lt_of_le s155 hb11.size
    have c172 := (hb11.cellS (p := ⟨w4.heap.size, 0, none⟩) s158 (by show ¬ (_ ≤ w4.heap.size ∧ w4.heap.size < _); omega)).trans c156
    have c173 := (hb11.cellS (p := ⟨w4.heap.size, 1, none⟩) s158 (by show ¬ (_ ≤ w4.heap.size ∧ w4.heap.size < _); omega)).trans c157
    have s174 : w4.heap.size < w11.heap.size := Nat.lt_of_lt_of_le s158 hb11.size
    have c175 := (hb11.cellS (p := ⟨w5.heap.size, 0, none⟩) s161 (by show ¬ (_ ≤ w5.heap.size ∧ w5.heap.size < _); omega)).trans c159
    have c176 := (hb11.cellS (p := ⟨w5.heap.size, 1, none⟩) s161 (by show ¬ (_ ≤ w5.heap.size ∧ w5.heap.size < _); omega)).trans c160
    have s177 : w5.heap.size < w11.heap.size := Nat.lt_of_lt_of_le s161 hb11.size
    have H178 := Lib.hid (H162.out.turned (by intro b h1 h2; omega) hb11)
    have B179 := Lib.hid (step_turned B164.out hb11 (by omega) B164.out.size)
    have o180 : w10.heap.size ≤ w11.heap.size := hb11.size
    clear c150 c151 s152 c153 c154 s155 c156 c157 s158 c159 c160 s161
    clear hatm hb11
    go_wp2_with fail
    refine (heldPmap_at _ Tm.out (by omega) (by omega)).mono ?_
    rintro e w12 ⟨rfl, hb12⟩
    have c181 := (hb12.cell (p := ⟨w.heap.size, 0, none⟩) s168).trans c166
    have c182 := (hb12.cell (p := ⟨w.heap.size, 1, none⟩) s168).trans c167
    have s183 : w.heap.size < w12.heap.size := Nat.lt_of_lt_of_le s168 hb12.size
    have c184 := (hb12.cell (p := ⟨w3.heap.size, 0, none⟩) s171).trans c169
    have c185 := (hb12.cell (p := ⟨w3.heap.size, 1, none⟩) s171).trans c170
    have s186 : w3.heap.size < w12.heap.size := Nat.lt_of_lt_of_le s171 hb12.size
    have c187 := (hb12.cell (p := ⟨w4.heap.size, 0, none⟩) s174).trans c172
    have c188 := (hb12.cell (p := ⟨w4.heap.size, 1, none⟩) s174).trans c173
    have s189 : w4.heap.size < w12.heap.size := Nat.lt_of_lt_of_le s174 hb12.size
    have c190 := (hb12.cell (p := ⟨w5.heap.size, 0, none⟩) s177).trans c175
    have c191 := (hb12.cell (p := ⟨w5.heap.size, 1, none⟩) s177).trans c176
    have s192 : w5.heap.size < w12.heap.size := Nat.lt_of_lt_of_le s177 hb12.size
    have H193 := Lib.hid ((H178.out).below hb12)
    have H194 := Lib.hid ((Tm.out).below hb12)
    have B195 := Lib.hid (step (B179.out) hb12)
    have o196 : w11.heap.size ≤ w12.heap.size := hb12.size
    clear c166 c167 s168 c169 c170 s171 c172 c173 s174 c175 c176 s177
    clear hb12
    go_wp2_with fail
    refine (toPmap_at ep a vs cap _ (HV.out.below B195.out) hL).mono ?_
    rintro e w13 ⟨ah, ch, rfl, hath, hb13, hch1, hch2⟩
    have Th := Lib.hid hath
    have c197 := (hb13.cell (p := ⟨w.heap.size, 0, none⟩) s183).trans c181
    have c198 := (hb13.cell (p := ⟨w.heap.size, 1, none⟩) s183).trans c182
    have s199 : w.heap.size < w13.heap.size := Nat.lt_of_lt_of_le s183 hb13.size
    have c200 := (hb13.cell (p := ⟨w3.heap.size, 0, none⟩) s186).trans c184
    have c201 := (hb13.cell (p := ⟨w3.heap.size, 1, none⟩) s186).trans c185
    have s202 : w3.heap.size < w13.heap.size := Nat.lt_of_lt_of_le s186 hb13.size
    have c203 := (hb13.cell (p := ⟨w4.heap.size, 0, none⟩) s189).trans c187
    have c204 := (hb13.cell (p := ⟨w4.heap.size, 1, none⟩) s189).trans c188
    have s205 : w4.heap.size < w13.heap.size := Nat.lt_of_lt_of_le s189 hb13.size
    have c206 := (hb13.cell (p := ⟨w5.heap.size, 0, none⟩) s192).trans c190
    have c207 := (hb13.cell (p := ⟨w5.heap.size, 1, none⟩) s192).trans c191
    have s208 : w5.heap.size < w13.heap.size := Nat.lt_of_lt_of_le s192 hb13.size
    have H209 := Lib.hid ((H193.out).below hb13)
    have H210 := Lib.hid ((H194.out).below hb13)
    have B211 := Lib.hid (step (B195.out) hb13)
    have o212 : w12.heap.size ≤ w13.heap.size := hb13.size
    clear c181 c182 s183 c184 c185 s186 c187 c188 s189 c190 c191 s192
    clear hath hb13
    go_wp2_with fail
    refine (pmapSplit_any ep ah vs ch key node _ Th.out.in1 HF.out hL hch1 hch2 Hkey.out).mono ?_
    rintro e w14 ⟨ep6, us6, r6, hR6, ai, ci, rfl, hati, hb14⟩
    have HR6 := Lib.hid hR6
    have Ti := Lib.hid hati
    have c213 := (hb14.cell (p := ⟨w.heap.size, 0, none⟩) s199).trans c197
    have c214 := (hb14.cell (p := ⟨w.heap.size, 1, none⟩) s199).trans c198
    have s215 : w.heap.size < w14.heap.size := Nat.lt_of_lt_of_le s199 hb14.size
    have c216 := (hb14.cell (p := ⟨w3.heap.size, 0, none⟩) s202).trans c200
    have c217 := (hb14.cell (p := ⟨w3.heap.size, 1, none⟩) s202).trans c201
    have s218 : w3.heap.size < w14.heap.size := Nat.lt_of_lt_of_le s202 hb14.size
    have c219 := (hb14.cell (p := ⟨w4.heap.size, 0, none⟩) s205).trans c203
    have c220 := (hb14.cell (p := ⟨w4.heap.size, 1, none⟩) s205).trans c204
    have s221 : w4.heap.size < w14.heap.size := Nat.lt_of_lt_of_le s205 hb14.size
    have c222 := (hb14.cell (p := ⟨w5.heap.size, 0, none⟩) s208).trans c206
    have c223 := (hb14.cell (p := ⟨w5.heap.size, 1, none⟩) s208).trans c207
    have s224 : w5.heap.size < w14.heap.size := Nat.lt_of_lt_of_le s208 hb14.size
    have H225 := Lib.hid ((H209.out).below hb14)
    have H226 := Lib.hid ((H210.out).below hb14)
    have B227 := Lib.hid (step (B211.out) hb14)
    have o228 : w13.heap.size ≤ w14.heap.size := hb14.size
    clear c197 c198 s199 c200 c201 s202 c203 c204 s205 c206 c207 s208
    clear hR6 hati hb14
    obtain ⟨rfl, rfl, rfl⟩ := PmapSplitRel_unique HR6.out HR.out
    obtain ⟨V229, hV229⟩ : ∃ V229, w14.alloc (.cells #[.int .i64 ep6, .slice ai us6.length ci] 29) = V229 := ⟨_, rfl⟩
    have bV229 : Below w14.heap.size w14 V229 := by rw [← hV229]; exact (Below.refl _ _).alloc (Nat.le_refl _) _
    have c230 : V229.cell? ⟨w14.heap.size, 0, none⟩ = some (.int .i64 ep6) := by rw [← hV229]; simp [go_sem]
    have c231 : V229.cell? ⟨w14.heap.size, 1, none⟩ = some (.slice ai us6.length ci) := by rw [← hV229]; simp [go_sem]
    have s232 : w14.heap.size < V229.heap.size := by rw [← hV229]; simp
    have k233 : w14.heap.size < V229.heap.size := s232
    have c234 := (bV229.cell (p := ⟨w.heap.size, 0, none⟩) s215).trans c213
    have c235 := (bV229.cell (p := ⟨w.heap.size, 1, none⟩) s215).trans c214
    have s236 : w.heap.size < V229.heap.size := Nat.lt_of_lt_of_le s215 bV229.size
    have c237 := (bV229.cell (p := ⟨w3.heap.size, 0, none⟩) s218).trans c216
    have c238 := (bV229.cell (p := ⟨w3.heap.size, 1, none⟩) s218).trans c217
    have s239 : w3.heap.size < V229.heap.size := Nat.lt_of_lt_of_le s218 bV229.size
    have c240 := (bV229.cell (p := ⟨w4.heap.size, 0, none⟩) s221).trans c219
    have c241 := (bV229.cell (p := ⟨w4.heap.size, 1, none⟩) s221).trans c220
    have s242 : w4.heap.size < V229.heap.size := Nat.lt_of_lt_of_le s221 bV229.size
    have c243 := (bV229.cell (p := ⟨w5.heap.size, 0, none⟩) s224).trans c222
    have c244 := (bV229.cell (p := ⟨w5.heap.size, 1, none⟩) s224).trans c223
    have s245 : w5.heap.size < V229.heap.size := Nat.lt_of_lt_of_le s224 bV229.size
    have H246 := Lib.hid ((H225.out).below bV229)
    have H247 := Lib.hid ((H226.out).below bV229)
    have H248 := Lib.hid ((Ti.out).below bV229)
    have B249 := Lib.hid (step (B227.out) bV229)
    have o250 : w14.heap.size ≤ V229.heap.size := bV229.size
    clear c213 c214 s215 c216 c217 s218 c219 c220 s221 c222 c223 s224
    clear bV229
    go_wp2_with fail
    clear hV229
    refine (eqPmap_at _ H248.out H246.out (by unfold maxLen; omega)).mono ?_
    rintro e w15 ⟨rfl, hb15⟩
    have c251 := (hb15.cell (p := ⟨w.heap.size, 0, none⟩) s236).trans c234
    have c252 := (hb15.cell (p := ⟨w.heap.size, 1, none⟩) s236).trans c235
    have s253 : w.heap.size < w15.heap.size := Nat.lt_of_lt_of_le s236 hb15.size
    have c254 := (hb15.cell (p := ⟨w3.heap.size, 0, none⟩) s239).trans c237
    have c255 := (hb15.cell (p := ⟨w3.heap.size, 1, none⟩) s239).trans c238
    have s256 : w3.heap.size < w15.heap.size := Nat.lt_of_lt_of_le s239 hb15.size
    have c257 := (hb15.cell (p := ⟨w4.heap.size, 0, none⟩) s242).trans c240
    have c258 := (hb15.cell (p := ⟨w4.heap.size, 1, none⟩) s242).trans c241
    have s259 : w4.heap.size < w15.heap.size := Nat.lt_of_lt_of_le s242 hb15.size
    have c260 := (hb15.cell (p := ⟨w5.heap.size, 0, none⟩) s245).trans c243
    have c261 := (hb15.cell (p := ⟨w5.heap.size, 1, none⟩) s245).trans c244
    have s262 : w5.heap.size < w15.heap.size := Nat.lt_of_lt_of_le s245 hb15.size
    have c263 := (hb15.cell (p := ⟨w14.heap.size, 0, none⟩) s232).trans c230
    have c264 := (hb15.cell (p := ⟨w14.heap.size, 1, none⟩) s232).trans c231
    have s265 : w14.heap.size < w15.heap.size := Nat.lt_of_lt_of_le s232 hb15.size
    have H266 := Lib.hid ((H246.out).below hb15)
    have H267 := Lib.hid ((H247.out).below hb15)
    have H268 := Lib.hid ((H248.out).below hb15)
    have B269 := Lib.hid (step (B249.out) hb15)
    have o270 : V229.heap.size ≤ w15.heap.size := hb15.size
    clear c234 c235 s236 c237 c238 s239 c240 c241 s242 c243 c244 s245 c230 c231 s232
    clear hb15
    go_wp2_with fail
    refine (heldPmap_at _ H267.out (by omega) (by omega)).mono ?_
    rintro e w16 ⟨rfl, hb16⟩
    have c271 := (hb16.cell (p := ⟨w.heap.size, 0, none⟩) s253).trans c251
    have c272 := (hb16.cell (p := ⟨w.heap.size, 1, none⟩) s253).trans c252
    have s273 : w.heap.size < w16.heap.size := Nat.lt_of_lt_of_le s253 hb16.size
    have c274 := (hb16.cell (p := ⟨w3.heap.size, 0, none⟩) s256).trans c254
    have c275 := (hb16.cell (p := ⟨w3.heap.size, 1, none⟩) s256).trans c255
    have s276 : w3.heap.size < w16.heap.size := Nat.lt_of_lt_of_le s256 hb16.size
    have c277 := (hb16.cell (p := ⟨w4.heap.size, 0, none⟩) s259).trans c257
    have c278 := (hb16.cell (p := ⟨w4.heap.size, 1, none⟩) s259).trans c258
    have s279 : w4.heap.size < w16.heap.size := Nat.lt_of_lt_of_le s259 hb16.size
    have c280 := (hb16.cell (p := ⟨w5.heap.size, 0, none⟩) s262).trans c260
    have c281 := (hb16.cell (p := ⟨w5.heap.size, 1, none⟩) s262).trans c261
    have s282 : w5.heap.size < w16.heap.size := Nat.lt_of_lt_of_le s262 hb16.size
    have c283 := (hb16.cell (p := ⟨w14.heap.size, 0, none⟩) s265).trans c263
    have c284 := (hb16.cell (p := ⟨w14.heap.size, 1, none⟩) s265).trans c264
    have s285 : w14.heap.size < w16.heap.size := Nat.lt_of_lt_of_le s265 hb16.size
    have H286 := Lib.hid ((H266.out).below hb16)
    have H287 := Lib.hid ((H267.out).below hb16)
    have H288 := Lib.hid ((H268.out).below hb16)
    have B289 := Lib.hid (step (B269.out) hb16)
    have o290 : w15.heap.size ≤ w16.heap.size := hb16.size
    clear c251 c252 s253 c254 c255 s256 c257 c258 s259 c260 c261 s262 c263 c264 s265
    clear hb16
    go_wp2_with fail
    go_ret
    exact ⟨rfl, B289.out⟩
end Go.Proofs.Ytncipibjlpfkhaa
