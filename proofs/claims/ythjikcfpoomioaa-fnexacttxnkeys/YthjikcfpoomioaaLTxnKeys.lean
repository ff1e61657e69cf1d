/- The law of TxnKeys, walked. -/
import Derived.Test.YthjikcfpoomioaaTxAt
import Derived.Test.YthjikcfpoomioaaTkI
import Derived.Test.YthjikcfpoomioaaTxAt
import Derived.Test.YthjikcfpoomioaaLVmapOk
namespace Go.Proofs.Ythjikcfpoomioaa
open Go.RowKit

set_option maxRecDepth 100000 in
set_option maxHeartbeats 4000000 in
theorem txnKeys_law (id : Int) (a1 a2 : Option Addr) (ws : List WantD) (us : List WriteD) (k1 k2 : Nat)  (w : World) (hv : WantsIn w a1 ws) (hu : WritesIn w a2 us) (hn : ws.length ≤ maxLen) (hm : us.length ≤ maxLen) (hf : ∀ v ∈ ws, v.fits) (hg : ∀ v ∈ us, v.fits) :
    Calls Try.prog 12 #[.agg #[.int .i64 id, .slice a1 ws.length k1, .slice a2 us.length k2]] w fun e w' => e = .returned (.bool true) ∧ Below w.heap.size w w' := by
  have HV := Lib.hid hv
  have HU := Lib.hid hu
  have HF := Lib.hid hf
  have HG := Lib.hid hg
  have HN := Lib.hid hn
  have HM := Lib.hid hm
  clear hv hu hf hg hn hm
  obtain ⟨W0, hW0⟩ : ∃ W0, w.alloc (.cells #[.int .i64 id, .slice a1 ws.length k1, .slice a2 us.length k2] 86) = W0 := ⟨_, rfl⟩
  have B0 : Below w.heap.size w W0 := by rw [← hW0]; exact (Below.refl _ _).alloc (Nat.le_refl _) _
  have x0 : W0.cell? ⟨w.heap.size, 0, none⟩ = some (.int .i64 id) := by rw [← hW0]; simp [go_sem]
  have x1 : W0.cell? ⟨w.heap.size, 1, none⟩ = some (.slice a1 ws.length k1) := by rw [← hW0]; simp [go_sem]
  have x3 : W0.cell? ⟨w.heap.size, 2, none⟩ = some (.slice a2 us.length k2) := by rw [← hW0]; simp [go_sem]
  have x2 : w.heap.size < W0.heap.size := by rw [← hW0]; simp
  have kx2 : w.heap.size < W0.heap.size := x2
  have HB0 := Lib.hid B0
  clear B0
  go_enter Try.func12, Try.ntmps12
  go_wp2_with fail
  clear hW0
  refine (szTxn_any id a1 a2 ws us k1 k2 _ _ (HV.out.below HB0.out) (HU.out.below HB0.out) HF.out HG.out HN.out HM.out (by omega) (by omega)).mono ?_
  rintro e w1 ⟨z, rfl, hz, hb1⟩
  have c1 := (hb1.cell (p := ⟨w.heap.size, 0, none⟩) x2).trans x0
  have c2 := (hb1.cell (p := ⟨w.heap.size, 1, none⟩) x2).trans x1
  have c3 := (hb1.cell (p := ⟨w.heap.size, 2, none⟩) x2).trans x3
  have s4 : w.heap.size < w1.heap.size := Nat.lt_of_lt_of_le x2 hb1.size
  have B5 := Lib.hid (step (HB0.out) hb1)
  have o6 : W0.heap.size ≤ w1.heap.size := hb1.size
  clear x0 x1 x3 x2
  clear hb1
  rcases hz with rfl | ⟨hz, hsum⟩
  · go_wp2_with fail
    go_ret
    exact ⟨rfl, B5.out⟩
  have hL : ws.length ≤ 1048576 := by have := WantsSize_len ws; omega
  have hM : us.length ≤ 1048576 := by have := WritesSize_len us; omega
  clear hsum
  go_wp2_with fail
  refine (toTxn_at id a1 a2 ws us k1 k2 _ (HV.out.below B5.out) (HU.out.below B5.out) hL hM).mono ?_
  rintro e w2 ⟨aq, bq, cq, dq, rfl, hat, hb2⟩
  have Tq := Lib.hid hat
  have c7 := (hb2.cell (p := ⟨w.heap.size, 0, none⟩) s4).trans c1
  have c8 := (hb2.cell (p := ⟨w.heap.size, 1, none⟩) s4).trans c2
  have c9 := (hb2.cell (p := ⟨w.heap.size, 2, none⟩) s4).trans c3
  have s10 : w.heap.size < w2.heap.size := Nat.lt_of_lt_of_le s4 hb2.size
  have B11 := Lib.hid (step (B5.out) hb2)
  have o12 : w1.heap.size ≤ w2.heap.size := hb2.size
  clear c1 c2 c3 s4
  clear hat hb2
  go_wp2_with fail
  refine (specTxnKeys_any id aq bq ws us cq dq  _ Tq.out.in1 Tq.out.in2 HF.out HG.out hL hM).mono ?_
  rintro e w3 ⟨ks, hR, aw, cw, rfl, hatw, hb3⟩
  have HR := Lib.hid hR
  have Tw := Lib.hid hatw
  have c13 := (hb3.cell (p := ⟨w.heap.size, 0, none⟩) s10).trans c7
  have c14 := (hb3.cell (p := ⟨w.heap.size, 1, none⟩) s10).trans c8
  have c15 := (hb3.cell (p := ⟨w.heap.size, 2, none⟩) s10).trans c9
  have s16 : w.heap.size < w3.heap.size := Nat.lt_of_lt_of_le s10 hb3.size
  have B17 := Lib.hid (step (B11.out) hb3)
  have o18 : w2.heap.size ≤ w3.heap.size := hb3.size
  clear c7 c8 c9 s10
  clear hR hatw hb3
  have hUs := TxnKeysRel.len HR.out hL hM
  go_wp2_with fail
  refine (toTxn_at id a1 a2 ws us k1 k2 _ (HV.out.below B17.out) (HU.out.below B17.out) hL hM).mono ?_
  rintro e w4 ⟨ax, bx, cx, dx, rfl, hatx, hb4⟩
  have Tx := Lib.hid hatx
  have c19 := (hb4.cell (p := ⟨w.heap.size, 0, none⟩) s16).trans c13
  have c20 := (hb4.cell (p := ⟨w.heap.size, 1, none⟩) s16).trans c14
  have c21 := (hb4.cell (p := ⟨w.heap.size, 2, none⟩) s16).trans c15
  have s22 : w.heap.size < w4.heap.size := Nat.lt_of_lt_of_le s16 hb4.size
  have H23 := Lib.hid ((Tw.out).below hb4)
  have B24 := Lib.hid (step (B17.out) hb4)
  have o25 : w3.heap.size ≤ w4.heap.size := hb4.size
  clear c13 c14 c15 s16
  clear hatx hb4
  obtain ⟨V26, hV26⟩ : ∃ V26, w4.alloc (.cells #[.int .i64 id, .slice ax ws.length cx, .slice bx us.length dx] 93) = V26 := ⟨_, rfl⟩
  have bV26 : Below w4.heap.size w4 V26 := by rw [← hV26]; exact (Below.refl _ _).alloc (Nat.le_refl _) _
  have c27 : V26.cell? ⟨w4.heap.size, 0, none⟩ = some (.int .i64 id) := by rw [← hV26]; simp [go_sem]
  have c28 : V26.cell? ⟨w4.heap.size, 1, none⟩ = some (.slice ax ws.length cx) := by rw [← hV26]; simp [go_sem]
  have c29 : V26.cell? ⟨w4.heap.size, 2, none⟩ = some (.slice bx us.length dx) := by rw [← hV26]; simp [go_sem]
  have s30 : w4.heap.size < V26.heap.size := by rw [← hV26]; simp
  have k31 : w4.heap.size < V26.heap.size := s30
  have c32 := (bV26.cell (p := ⟨w.heap.size, 0, none⟩) s22).trans c19
  have c33 := (bV26.cell (p := ⟨w.heap.size, 1, none⟩) s22).trans c20
  have c34 := (bV26.cell (p := ⟨w.heap.size, 2, none⟩) s22).trans c21
  have s35 : w.heap.size < V26.heap.size := Nat.lt_of_lt_of_le s22 bV26.size
  have H36 := Lib.hid ((H23.out).below bV26)
  have H37 := Lib.hid ((Tx.out).below bV26)
  have B38 := Lib.hid (step (B24.out) bV26)
  have o39 : w4.heap.size ≤ V26.heap.size := bV26.size
  clear c19 c20 c21 s22
  clear bV26
  go_wp2_with fail
  clear hV26
  refine (txnKeys_any id ax bx ws us cx dx  _ H37.out.in1 H37.out.in2 HF.out HG.out hL hM).mono ?_
  rintro e w5 ⟨us5, hR5, ag, cg, rfl, hatg, hb5⟩
  have HR5 := Lib.hid hR5
  have Tg := Lib.hid hatg
  have c40 := (hb5.cell (p := ⟨w.heap.size, 0, none⟩) s35).trans c32
  have c41 := (hb5.cell (p := ⟨w.heap.size, 1, none⟩) s35).trans c33
  have c42 := (hb5.cell (p := ⟨w.heap.size, 2, none⟩) s35).trans c34
  have s43 : w.heap.size < w5.heap.size := Nat.lt_of_lt_of_le s35 hb5.size
  have c44 := (hb5.cell (p := ⟨w4.heap.size, 0, none⟩) s30).trans c27
  have c45 := (hb5.cell (p := ⟨w4.heap.size, 1, none⟩) s30).trans c28
  have c46 := (hb5.cell (p := ⟨w4.heap.size, 2, none⟩) s30).trans c29
  have s47 : w4.heap.size < w5.heap.size := Nat.lt_of_lt_of_le s30 hb5.size
  have H48 := Lib.hid ((H36.out).below hb5)
  have H49 := Lib.hid ((H37.out).below hb5)
  have B50 := Lib.hid (step (B38.out) hb5)
  have o51 : V26.heap.size ≤ w5.heap.size := hb5.size
  clear c32 c33 c34 s35 c27 c28 c29 s30
  clear hR5 hatg hb5
  obtain rfl := TxnKeysRel.unique HR5.out HR.out
  go_wp2_with fail
  refine (eqStringS_at Tg.out H48.out (by unfold maxLen; omega)).mono ?_
  rintro e w6 ⟨rfl, hb6⟩
  have c52 := (hb6.cell (p := ⟨w.heap.size, 0, none⟩) s43).trans c40
  have c53 := (hb6.cell (p := ⟨w.heap.size, 1, none⟩) s43).trans c41
  have c54 := (hb6.cell (p := ⟨w.heap.size, 2, none⟩) s43).trans c42
  have s55 : w.heap.size < w6.heap.size := Nat.lt_of_lt_of_le s43 hb6.size
  have c56 := (hb6.cell (p := ⟨w4.heap.size, 0, none⟩) s47).trans c44
  have c57 := (hb6.cell (p := ⟨w4.heap.size, 1, none⟩) s47).trans c45
  have c58 := (hb6.cell (p := ⟨w4.heap.size, 2, none⟩) s47).trans c46
  have s59 : w4.heap.size < w6.heap.size := Nat.lt_of_lt_of_le s47 hb6.size
  have H60 := Lib.hid ((H48.out).below hb6)
  have H61 := Lib.hid ((H49.out).below hb6)
  have H62 := Lib.hid ((Tg.out).below hb6)
  have B63 := Lib.hid (step (B50.out) hb6)
  have o64 : w5.heap.size ≤ w6.heap.size := hb6.size
  clear c40 c41 c42 s43 c44 c45 c46 s47
  clear hb6
  go_wp2_with fail
  go_region_with (first
    | (go_at_call 58; refine (toTxn_at id a1 a2 ws us k1 k2 _ (HV.out.below (B63.out.drew)) (HU.out.below (B63.out.drew)) hL hM).mono ?_; rintro e w7 ⟨at7, bt7, ct7, dt7, rfl, hat7, hb7⟩; have c65 := (hb7.cell (p := ⟨w.heap.size, 0, none⟩) s55).trans c52; have c66 := (hb7.cell (p := ⟨w.heap.size, 1, none⟩) s55).trans c53; have c67 := (hb7.cell (p := ⟨w.heap.size, 2, none⟩) s55).trans c54; have s68 : w.heap.size < w7.heap.size := Nat.lt_of_lt_of_le s55 hb7.size; have c69 := (hb7.cell (p := ⟨w4.heap.size, 0, none⟩) s59).trans c56; have c70 := (hb7.cell (p := ⟨w4.heap.size, 1, none⟩) s59).trans c57; have c71 := (hb7.cell (p := ⟨w4.heap.size, 2, none⟩) s59).trans c58; have s72 : w4.heap.size < w7.heap.size := Nat.lt_of_lt_of_le s59 hb7.size; have H73 := Lib.hid ((H60.out.drewAt).below hb7); have H74 := Lib.hid ((H61.out.drewAt).below hb7); have H75 := Lib.hid ((H62.out.drewAt).below hb7); have B76 := Lib.hid (step (B63.out.drew) hb7); have o77 : w6.heap.size ≤ w7.heap.size := hb7.size; clear c52 c53 c54 s55 c56 c57 c58 s59; have T7 := Lib.hid hat7; clear hat7 hb7)
    | (go_at_call 61; refine (eqTxn_at _ H74.out T7.out HN.out HM.out).mono ?_; rintro e w8 ⟨rfl, hb8⟩; have c78 := (hb8.cell (p := ⟨w.heap.size, 0, none⟩) s68).trans c65; have c79 := (hb8.cell (p := ⟨w.heap.size, 1, none⟩) s68).trans c66; have c80 := (hb8.cell (p := ⟨w.heap.size, 2, none⟩) s68).trans c67; have s81 : w.heap.size < w8.heap.size := Nat.lt_of_lt_of_le s68 hb8.size; have c82 := (hb8.cell (p := ⟨w4.heap.size, 0, none⟩) s72).trans c69; have c83 := (hb8.cell (p := ⟨w4.heap.size, 1, none⟩) s72).trans c70; have c84 := (hb8.cell (p := ⟨w4.heap.size, 2, none⟩) s72).trans c71; have s85 : w4.heap.size < w8.heap.size := Nat.lt_of_lt_of_le s72 hb8.size; have H86 := Lib.hid ((H73.out).below hb8); have H87 := Lib.hid ((H74.out).below hb8); have H88 := Lib.hid ((H75.out).below hb8); have B89 := Lib.hid (step (B76.out) hb8); have o90 : w7.heap.size ≤ w8.heap.size := hb8.size; clear c65 c66 c67 s68 c69 c70 c71 s72; clear hb8))
  all_goals
    go_wp2_with fail
    refine (markTxn_at id rfl rfl H87.out (k := 1) (by omega) (by omega)).mono ?_
    rintro e w9 ⟨rfl, hatm, hb9⟩
    have c91 := (hb9.cellS (p := ⟨w.heap.size, 0, none⟩) s81 (by show ¬ (_ ≤ w.heap.size ∧ w.heap.size < _); omega)).trans c78
    have c92 := (hb9.cellS (p := ⟨w.heap.size, 1, none⟩) s81 (by show ¬ (_ ≤ w.heap.size ∧ w.heap.size < _); omega)).trans c79
    have c93 := (hb9.cellS (p := ⟨w.heap.size, 2, none⟩) s81 (by show ¬ (_ ≤ w.heap.size ∧ w.heap.size < _); omega)).trans c80
    have s94 : w.heap.size < w9.heap.size := Nat.lt_of_lt_of_le s81 hb9.size
    have c95 := (hb9.cellS (p := ⟨w4.heap.size, 0, none⟩) s85 (by show ¬ (_ ≤ w4.heap.size ∧ w4.heap.size < _); omega)).trans c82
    have c96 := (hb9.cellS (p := ⟨w4.heap.size, 1, none⟩) s85 (by show ¬ (_ ≤ w4.heap.size ∧ w4.heap.size < _); omega)).trans c83
    have c97 := (hb9.cellS (p := ⟨w4.heap.size, 2, none⟩) s85 (by show ¬ (_ ≤ w4.heap.size ∧ w4.heap.size < _); omega)).trans c84
    have s98 : w4.heap.size < w9.heap.size := Nat.lt_of_lt_of_le s85 hb9.size
    have H99 := Lib.hid (H86.out.turned (by intro b h1 h2; omega) hb9)
    have H100 := Lib.hid (H88.out.turned (by intro b h1 h2; omega) hb9)
    have B101 := Lib.hid (step_turned B89.out hb9 (by omega) B89.out.size)
    have o102 : w8.heap.size ≤ w9.heap.size := hb9.size
    clear c78 c79 c80 s81 c82 c83 c84 s85
    clear hatm hb9
    go_wp2_with fail
    refine (eqStringS_at H100.out H99.out (by unfold maxLen; omega)).mono ?_
    rintro e w10 ⟨rfl, hb10⟩
    have c103 := (hb10.cell (p := ⟨w.heap.size, 0, none⟩) s94).trans c91
    have c104 := (hb10.cell (p := ⟨w.heap.size, 1, none⟩) s94).trans c92
    have c105 := (hb10.cell (p := ⟨w.heap.size, 2, none⟩) s94).trans c93
    have s106 : w.heap.size < w10.heap.size := Nat.lt_of_lt_of_le s94 hb10.size
    have c107 := (hb10.cell (p := ⟨w4.heap.size, 0, none⟩) s98).trans c95
    have c108 := (hb10.cell (p := ⟨w4.heap.size, 1, none⟩) s98).trans c96
    have c109 := (hb10.cell (p := ⟨w4.heap.size, 2, none⟩) s98).trans c97
    have s110 : w4.heap.size < w10.heap.size := Nat.lt_of_lt_of_le s98 hb10.size
    have H111 := Lib.hid ((H99.out).below hb10)
    have H112 := Lib.hid ((H100.out).below hb10)
    have B113 := Lib.hid (step (B101.out) hb10)
    have o114 : w9.heap.size ≤ w10.heap.size := hb10.size
    clear c91 c92 c93 s94 c95 c96 c97 s98
    clear hb10
    go_wp2_with fail
    refine (markStringS_at H112.out (k := 1) (by omega) (by omega)).mono ?_
    rintro e w11 ⟨rfl, hatm, hb11⟩
    have Tm := Lib.hid hatm
    have c115 := (hb11.cellS (p := ⟨w.heap.size, 0, none⟩) s106 (by show ¬ (_ ≤ w.heap.size ∧ w.heap.size < _); omega)).trans c103
    have c116 := (hb11.cellS (p := ⟨w.heap.size, 1, none⟩) s106 (by show ¬ (_ ≤ w.heap.size ∧ w.heap.size < _); omega)).trans c104
    have c117 := (hb11.cellS (p := ⟨w.heap.size, 2, none⟩) s106 (by show ¬ (_ ≤ w.heap.size ∧ w.heap.size < _); omega)).trans c105
    have s118 : w.heap.size < w11.heap.size := Nat.lt_of_lt_of_le s106 hb11.size
    have c119 := (hb11.cellS (p := ⟨w4.heap.size, 0, none⟩) s110 (by show ¬ (_ ≤ w4.heap.size ∧ w4.heap.size < _); omega)).trans c107
    have c120 := (hb11.cellS (p := ⟨w4.heap.size, 1, none⟩) s110 (by show ¬ (_ ≤ w4.heap.size ∧ w4.heap.size < _); omega)).trans c108
    have c121 := (hb11.cellS (p := ⟨w4.heap.size, 2, none⟩) s110 (by show ¬ (_ ≤ w4.heap.size ∧ w4.heap.size < _); omega)).trans c109
    have s122 : w4.heap.size < w11.heap.size := Nat.lt_of_lt_of_le s110 hb11.size
    have H123 := Lib.hid (H111.out.turned (by intro b h1 h2; omega) hb11)
    have B124 := Lib.hid (step_turned B113.out hb11 (by omega) B113.out.size)
    have o125 : w10.heap.size ≤ w11.heap.size := hb11.size
    clear c103 c104 c105 s106 c107 c108 c109 s110
    clear hatm hb11
    go_wp2_with fail
    refine (heldStringS_at Tm.out (by omega) (by omega)).mono ?_
    rintro e w12 ⟨rfl, hb12⟩
    have c126 := (hb12.cell (p := ⟨w.heap.size, 0, none⟩) s118).trans c115
    have c127 := (hb12.cell (p := ⟨w.heap.size, 1, none⟩) s118).trans c116
    have c128 := (hb12.cell (p := ⟨w.heap.size, 2, none⟩) s118).trans c117
    have s129 : w.heap.size < w12.heap.size := Nat.lt_of_lt_of_le s118 hb12.size
    have c130 := (hb12.cell (p := ⟨w4.heap.size, 0, none⟩) s122).trans c119
    have c131 := (hb12.cell (p := ⟨w4.heap.size, 1, none⟩) s122).trans c120
    have c132 := (hb12.cell (p := ⟨w4.heap.size, 2, none⟩) s122).trans c121
    have s133 : w4.heap.size < w12.heap.size := Nat.lt_of_lt_of_le s122 hb12.size
    have H134 := Lib.hid ((H123.out).below hb12)
    have H135 := Lib.hid ((Tm.out).below hb12)
    have B136 := Lib.hid (step (B124.out) hb12)
    have o137 : w11.heap.size ≤ w12.heap.size := hb12.size
    clear c115 c116 c117 s118 c119 c120 c121 s122
    clear hb12
    go_wp2_with fail
    refine (toTxn_at id a1 a2 ws us k1 k2 _ (HV.out.below B136.out) (HU.out.below B136.out) hL hM).mono ?_
    rintro e w13 ⟨ah, bh, ch, dh, rfl, hath, hb13⟩
    have Th := Lib.hid hath
    have c138 := (hb13.cell (p := ⟨w.heap.size, 0, none⟩) s129).trans c126
    have c139 := (hb13.cell (p := ⟨w.heap.size, 1, none⟩) s129).trans c127
    have c140 := (hb13.cell (p := ⟨w.heap.size, 2, none⟩) s129).trans c128
    have s141 : w.heap.size < w13.heap.size := Nat.lt_of_lt_of_le s129 hb13.size
    have c142 := (hb13.cell (p := ⟨w4.heap.size, 0, none⟩) s133).trans c130
    have c143 := (hb13.cell (p := ⟨w4.heap.size, 1, none⟩) s133).trans c131
    have c144 := (hb13.cell (p := ⟨w4.heap.size, 2, none⟩) s133).trans c132
    have s145 : w4.heap.size < w13.heap.size := Nat.lt_of_lt_of_le s133 hb13.size
    have H146 := Lib.hid ((H134.out).below hb13)
    have H147 := Lib.hid ((H135.out).below hb13)
    have B148 := Lib.hid (step (B136.out) hb13)
    have o149 : w12.heap.size ≤ w13.heap.size := hb13.size
    clear c126 c127 c128 s129 c130 c131 c132 s133
    clear hath hb13
    go_wp2_with fail
    refine (txnKeys_any id ah bh ws us ch dh  _ Th.out.in1 Th.out.in2 HF.out HG.out hL hM).mono ?_
    rintro e w14 ⟨us6, hR6, ai, ci, rfl, hati, hb14⟩
    have HR6 := Lib.hid hR6
    have Ti := Lib.hid hati
    have c150 := (hb14.cell (p := ⟨w.heap.size, 0, none⟩) s141).trans c138
    have c151 := (hb14.cell (p := ⟨w.heap.size, 1, none⟩) s141).trans c139
    have c152 := (hb14.cell (p := ⟨w.heap.size, 2, none⟩) s141).trans c140
    have s153 : w.heap.size < w14.heap.size := Nat.lt_of_lt_of_le s141 hb14.size
    have c154 := (hb14.cell (p := ⟨w4.heap.size, 0, none⟩) s145).trans c142
    have c155 := (hb14.cell (p := ⟨w4.heap.size, 1, none⟩) s145).trans c143
    have c156 := (hb14.cell (p := ⟨w4.heap.size, 2, none⟩) s145).trans c144
    have s157 : w4.heap.size < w14.heap.size := Nat.lt_of_lt_of_le s145 hb14.size
    have H158 := Lib.hid ((H146.out).below hb14)
    have H159 := Lib.hid ((H147.out).below hb14)
    have B160 := Lib.hid (step (B148.out) hb14)
    have o161 : w13.heap.size ≤ w14.heap.size := hb14.size
    clear c138 c139 c140 s141 c142 c143 c144 s145
    clear hR6 hati hb14
    obtain rfl := TxnKeysRel.unique HR6.out HR.out
    go_wp2_with fail
    refine (eqStringS_at Ti.out H158.out (by unfold maxLen; omega)).mono ?_
    rintro e w15 ⟨rfl, hb15⟩
    have c162 := (hb15.cell (p := ⟨w.heap.size, 0, none⟩) s153).trans c150
    have c163 := (hb15.cell (p := ⟨w.heap.size, 1, none⟩) s153).trans c151
    have c164 := (hb15.cell (p := ⟨w.heap.size, 2, none⟩) s153).trans c152
    have s165 : w.heap.size < w15.heap.size := Nat.lt_of_lt_of_le s153 hb15.size
    have c166 := (hb15.cell (p := ⟨w4.heap.size, 0, none⟩) s157).trans c154
    have c167 := (hb15.cell (p := ⟨w4.heap.size, 1, none⟩) s157).trans c155
    have c168 := (hb15.cell (p := ⟨w4.heap.size, 2, none⟩) s157).trans c156
    have s169 : w4.heap.size < w15.heap.size := Nat.lt_of_lt_of_le s157 hb15.size
    have H170 := Lib.hid ((H158.out).below hb15)
    have H171 := Lib.hid ((H159.out).below hb15)
    have H172 := Lib.hid ((Ti.out).below hb15)
    have B173 := Lib.hid (step (B160.out) hb15)
    have o174 : w14.heap.size ≤ w15.heap.size := hb15.size
    clear c150 c151 c152 s153 c154 c155 c156 s157
    clear hb15
    go_wp2_with fail
    refine (heldStringS_at H171.out (by omega) (by omega)).mono ?_
    rintro e w16 ⟨rfl, hb16⟩
    have c175 := (hb16.cell (p := ⟨w.heap.size, 0, none⟩) s165).trans c162
    have c176 := (hb16.cell (p := ⟨w.heap.size, 1, none⟩) s165).trans c163
    have c177 := (hb16.cell (p := ⟨w.heap.size, 2, none⟩) s165).trans c164
    have s178 : w.heap.size < w16.heap.size := Nat.lt_of_lt_of_le s165 hb16.size
    have c179 := (hb16.cell (p := ⟨w4.heap.size, 0, none⟩) s169).trans c166
    have c180 := (hb16.cell (p := ⟨w4.heap.size, 1, none⟩) s169).trans c167
    have c181 := (hb16.cell (p := ⟨w4.heap.size, 2, none⟩) s169).trans c168
    have s182 : w4.heap.size < w16.heap.size := Nat.lt_of_lt_of_le s169 hb16.size
    have H183 := Lib.hid ((H170.out).below hb16)
    have H184 := Lib.hid ((H171.out).below hb16)
    have H185 := Lib.hid ((H172.out).below hb16)
    have B186 := Lib.hid (step (B173.out) hb16)
    have o187 : w15.heap.size ≤ w16.heap.size := hb16.size
    clear c162 c163 c164 s165 c166 c167 c168 s169
    clear hb16
    go_wp2_with fail
    go_ret
    exact ⟨rfl, B186.out⟩
end Go.Proofs.Ythjikcfpoomioaa
