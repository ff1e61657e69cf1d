/- The law of RouteAll, walked. -/
import Derived.Test.YthjikcfpoomioaaPmAt
import Derived.Test.YthjikcfpoomioaaRaI
import Derived.Test.YthjikcfpoomioaaRaS
import Derived.Test.YthjikcfpoomioaaPmAt
import Derived.Test.YthjikcfpoomioaaLVmapOk
namespace Go.Proofs.Ythjikcfpoomioaa
open Go.RowKit

set_option maxRecDepth 100000 in
set_option maxHeartbeats 4000000 in
theorem routeAll_law (ep : Int) (a : Option Addr) (vs : List RowD) (cap : Nat)  (w : World) (hv : RowsIn w a vs) (hf : ∀ v ∈ vs, v.fits) (hn : vs.length ≤ maxLen) :
    Calls Try.prog 8 #[.agg #[.int .i64 ep, .slice a vs.length cap]] w fun e w' => e = .returned (.bool true) ∧ Below w.heap.size w w' := by
  have HV := Lib.hid hv
  have HF := Lib.hid hf
  have HN := Lib.hid hn
  clear hv hf hn
  obtain ⟨W0, hW0⟩ : ∃ W0, w.alloc (.cells #[.int .i64 ep, .slice a vs.length cap] 55) = W0 := ⟨_, rfl⟩
  have B0 : Below w.heap.size w W0 := by rw [← hW0]; exact (Below.refl _ _).alloc (Nat.le_refl _) _
  have x0 : W0.cell? ⟨w.heap.size, 0, none⟩ = some (.int .i64 ep) := by rw [← hW0]; simp [go_sem]
  have x1 : W0.cell? ⟨w.heap.size, 1, none⟩ = some (.slice a vs.length cap) := by rw [← hW0]; simp [go_sem]
  have x2 : w.heap.size < W0.heap.size := by rw [← hW0]; simp
  have kx2 : w.heap.size < W0.heap.size := x2
  have HB0 := Lib.hid B0
  clear B0
  go_enter Try.func8, Try.ntmps8
  go_wp2_with fail
  clear hW0
  refine (szPmap_any ep a vs cap _ _ (HV.out.below HB0.out) HF.out HN.out (by omega) (by omega)).mono ?_
  rintro e w1 ⟨z, rfl, hz, hb1⟩
  have c1 := (hb1.cell (p := ⟨w.heap.size, 0, none⟩) x2).trans x0
  have c2 := (hb1.cell (p := ⟨w.heap.size, 1, none⟩) x2).trans x1
  have s3 : w.heap.size < w1.heap.size := Nat.lt_of_lt_of_le x2 hb1.size
  have B4 := Lib.hid (step (HB0.out) hb1)
  have o5 : W0.heap.size ≤ w1.heap.size := hb1.size
  clear x0 x1 x2
  clear hb1
  rcases hz with rfl | ⟨hz, hsum⟩
  · go_wp2_with fail
    go_ret
    exact ⟨rfl, B4.out⟩
  have hL : vs.length ≤ 1048576 := by have := RowsSize_len vs; omega
  clear hsum
  go_wp2_with fail
  refine (toPmap_at ep a vs cap _ (HV.out.below B4.out) hL).mono ?_
  rintro e w2 ⟨aq, cq, rfl, hat, hb2, hcp, hcm⟩
  have Tq := Lib.hid hat
  have c6 := (hb2.cell (p := ⟨w.heap.size, 0, none⟩) s3).trans c1
  have c7 := (hb2.cell (p := ⟨w.heap.size, 1, none⟩) s3).trans c2
  have s8 : w.heap.size < w2.heap.size := Nat.lt_of_lt_of_le s3 hb2.size
  have B9 := Lib.hid (step (B4.out) hb2)
  have o10 : w1.heap.size ≤ w2.heap.size := hb2.size
  clear c1 c2 s3
  clear hat hb2
  go_wp2_with fail
  refine (specRouteAll_any ep aq vs cq  _ Tq.out.in1 HF.out hL).mono ?_
  rintro e w3 ⟨us, hR, aw, cw, rfl, hatw, hb3⟩
  have HR := Lib.hid hR
  have Tw := Lib.hid hatw
  have c11 := (hb3.cell (p := ⟨w.heap.size, 0, none⟩) s8).trans c6
  have c12 := (hb3.cell (p := ⟨w.heap.size, 1, none⟩) s8).trans c7
  have s13 : w.heap.size < w3.heap.size := Nat.lt_of_lt_of_le s8 hb3.size
  have B14 := Lib.hid (step (B9.out) hb3)
  have o15 : w2.heap.size ≤ w3.heap.size := hb3.size
  clear c6 c7 s8
  clear hR hatw hb3
  have hUs := RouteAllRel.len HR.out hL
  go_wp2_with fail
  refine (toPmap_at ep a vs cap _ (HV.out.below B14.out) hL).mono ?_
  rintro e w4 ⟨ax, cx, rfl, hatx, hb4, -⟩
  have Tx := Lib.hid hatx
  have c16 := (hb4.cell (p := ⟨w.heap.size, 0, none⟩) s13).trans c11
  have c17 := (hb4.cell (p := ⟨w.heap.size, 1, none⟩) s13).trans c12
  have s18 : w.heap.size < w4.heap.size := Nat.lt_of_lt_of_le s13 hb4.size
  have H19 := Lib.hid ((Tw.out).below hb4)
  have B20 := Lib.hid (step (B14.out) hb4)
  have o21 : w3.heap.size ≤ w4.heap.size := hb4.size
  clear c11 c12 s13
  clear hatx hb4
  obtain ⟨V22, hV22⟩ : ∃ V22, w4.alloc (.cells #[.int .i64 ep, .slice ax vs.length cx] 60) = V22 := ⟨_, rfl⟩
  have bV22 : Below w4.heap.size w4 V22 := by rw [← hV22]; exact (Below.refl _ _).alloc (Nat.le_refl _) _
  have c23 : V22.cell? ⟨w4.heap.size, 0, none⟩ = some (.int .i64 ep) := by rw [← hV22]; simp [go_sem]
  have c24 : V22.cell? ⟨w4.heap.size, 1, none⟩ = some (.slice ax vs.length cx) := by rw [← hV22]; simp [go_sem]
  have s25 : w4.heap.size < V22.heap.size := by rw [← hV22]; simp
  have k26 : w4.heap.size < V22.heap.size := s25
  have c27 := (bV22.cell (p := ⟨w.heap.size, 0, none⟩) s18).trans c16
  have c28 := (bV22.cell (p := ⟨w.heap.size, 1, none⟩) s18).trans c17
  have s29 : w.heap.size < V22.heap.size := Nat.lt_of_lt_of_le s18 bV22.size
  have H30 := Lib.hid ((H19.out).below bV22)
  have H31 := Lib.hid ((Tx.out).below bV22)
  have B32 := Lib.hid (step (B20.out) bV22)
  have o33 : w4.heap.size ≤ V22.heap.size := bV22.size
  clear c16 c17 s18
  clear bV22
  go_wp2_with fail
  clear hV22
  refine (routeAll_any ep ax vs cx  _ H31.out.in1 HF.out hL).mono ?_
  rintro e w5 ⟨us5, hR5, ag, cg, rfl, hatg, hb5⟩
  have HR5 := Lib.hid hR5
  have Tg := Lib.hid hatg
  have c34 := (hb5.cell (p := ⟨w.heap.size, 0, none⟩) s29).trans c27
  have c35 := (hb5.cell (p := ⟨w.heap.size, 1, none⟩) s29).trans c28
  have s36 : w.heap.size < w5.heap.size := Nat.lt_of_lt_of_le s29 hb5.size
  have c37 := (hb5.cell (p := ⟨w4.heap.size, 0, none⟩) s25).trans c23
  have c38 := (hb5.cell (p := ⟨w4.heap.size, 1, none⟩) s25).trans c24
  have s39 : w4.heap.size < w5.heap.size := Nat.lt_of_lt_of_le s25 hb5.size
  have H40 := Lib.hid ((H30.out).below hb5)
  have H41 := Lib.hid ((H31.out).below hb5)
  have B42 := Lib.hid (step (B32.out) hb5)
  have o43 : V22.heap.size ≤ w5.heap.size := hb5.size
  clear c27 c28 s29 c23 c24 s25
  clear hR5 hatg hb5
  obtain rfl := RouteAllRel.unique HR5.out HR.out
  go_wp2_with fail
  refine (eqKnownS_at Tg.out H40.out (by unfold maxLen; omega)).mono ?_
  rintro e w6 ⟨rfl, hb6⟩
  have c44 := (hb6.cell (p := ⟨w.heap.size, 0, none⟩) s36).trans c34
  have c45 := (hb6.cell (p := ⟨w.heap.size, 1, none⟩) s36).trans c35
  have s46 : w.heap.size < w6.heap.size := Nat.lt_of_lt_of_le s36 hb6.size
  have c47 := (hb6.cell (p := ⟨w4.heap.size, 0, none⟩) s39).trans c37
  have c48 := (hb6.cell (p := ⟨w4.heap.size, 1, none⟩) s39).trans c38
  have s49 : w4.heap.size < w6.heap.size := Nat.lt_of_lt_of_le s39 hb6.size
  have H50 := Lib.hid ((H40.out).below hb6)
  have H51 := Lib.hid ((H41.out).below hb6)
  have H52 := Lib.hid ((Tg.out).below hb6)
  have B53 := Lib.hid (step (B42.out) hb6)
  have o54 : w5.heap.size ≤ w6.heap.size := hb6.size
  clear c34 c35 s36 c37 c38 s39
  clear hb6
  go_wp2_with fail
  go_region_with (first
    | (go_at_call 39; refine (toPmap_at ep a vs cap _ (HV.out.below (B53.out.drew)) hL).mono ?_; rintro e w7 ⟨at7, ct7, rfl, hat7, hb7, -⟩; have c55 := (hb7.cell (p := ⟨w.heap.size, 0, none⟩) s46).trans c44; have c56 := (hb7.cell (p := ⟨w.heap.size, 1, none⟩) s46).trans c45; have s57 : w.heap.size < w7.heap.size := Nat.lt_of_lt_of_le s46 hb7.size; have c58 := (hb7.cell (p := ⟨w4.heap.size, 0, none⟩) s49).trans c47; have c59 := (hb7.cell (p := ⟨w4.heap.size, 1, none⟩) s49).trans c48; have s60 : w4.heap.size < w7.heap.size := Nat.lt_of_lt_of_le s49 hb7.size; have H61 := Lib.hid ((H50.out.drewAt).below hb7); have H62 := Lib.hid ((H51.out.drewAt).below hb7); have H63 := Lib.hid ((H52.out.drewAt).below hb7); have B64 := Lib.hid (step (B53.out.drew) hb7); have o65 : w6.heap.size ≤ w7.heap.size := hb7.size; clear c44 c45 s46 c47 c48 s49; have T7 := Lib.hid hat7; clear hat7 hb7)
    | (go_at_call 41; refine (eqPmap_at _ H62.out T7.out HN.out).mono ?_; rintro e w8 ⟨rfl, hb8⟩; have c66 := (hb8.cell (p := ⟨w.heap.size, 0, none⟩) s57).trans c55; have c67 := (hb8.cell (p := ⟨w.heap.size, 1, none⟩) s57).trans c56; have s68 : w.heap.size < w8.heap.size := Nat.lt_of_lt_of_le s57 hb8.size; have c69 := (hb8.cell (p := ⟨w4.heap.size, 0, none⟩) s60).trans c58; have c70 := (hb8.cell (p := ⟨w4.heap.size, 1, none⟩) s60).trans c59; have s71 : w4.heap.size < w8.heap.size := Nat.lt_of_lt_of_le s60 hb8.size; have H72 := Lib.hid ((H61.out).below hb8); have H73 := Lib.hid ((H62.out).below hb8); have H74 := Lib.hid ((H63.out).below hb8); have B75 := Lib.hid (step (B64.out) hb8); have o76 : w7.heap.size ≤ w8.heap.size := hb8.size; clear c55 c56 s57 c58 c59 s60; clear hb8))
  all_goals
    go_wp2_with fail
    refine (markPmap_at ep rfl H73.out (k := 1) (by omega) (by omega)).mono ?_
    rintro e w9 ⟨rfl, hatm, hb9⟩
    have c77 := (hb9.cellS (p := ⟨w.heap.size, 0, none⟩) s68 (by show ¬ (_ ≤ w.heap.size ∧ w.heap.size < _); omega)).trans c66
    have c78 := (hb9.cellS (p := ⟨w.heap.size, 1, none⟩) s68 (by show ¬ (_ ≤ w.heap.size ∧ w.heap.size < _); omega)).trans c67
    have s79 : w.heap.size < w9.heap.size := Nat.lt_of_lt_of_le s68 hb9.size
    have c80 := (hb9.cellS (p := ⟨w4.heap.size, 0, none⟩) s71 (by show ¬ (_ ≤ w4.heap.size ∧ w4.heap.size < _); omega)).trans c69
    have c81 := (hb9.cellS (p := ⟨w4.heap.size, 1, none⟩) s71 (by show ¬ (_ ≤ w4.heap.size ∧ w4.heap.size < _); omega)).trans c70
    have s82 : w4.heap.size < w9.heap.size := Nat.lt_of_lt_of_le s71 hb9.size
    have H83 := Lib.hid (H72.out.turned (by intro b h1 h2; omega) hb9)
    have H84 := Lib.hid (H74.out.turned (by intro b h1 h2; omega) hb9)
    have B85 := Lib.hid (step_turned B75.out hb9 (by omega) B75.out.size)
    have o86 : w8.heap.size ≤ w9.heap.size := hb9.size
    clear c66 c67 s68 c69 c70 s71
    clear hatm hb9
    go_wp2_with fail
    refine (eqKnownS_at H84.out H83.out (by unfold maxLen; omega)).mono ?_
    rintro e w10 ⟨rfl, hb10⟩
    have c87 := (hb10.cell (p := ⟨w.heap.size, 0, none⟩) s79).trans c77
    have c88 := (hb10.cell (p := ⟨w.heap.size, 1, none⟩) s79).trans c78
    have s89 : w.heap.size < w10.heap.size := Nat.lt_of_lt_of_le s79 hb10.size
    have c90 := (hb10.cell (p := ⟨w4.heap.size, 0, none⟩) s82).trans c80
    have c91 := (hb10.cell (p := ⟨w4.heap.size, 1, none⟩) s82).trans c81
    have s92 : w4.heap.size < w10.heap.size := Nat.lt_of_lt_of_le s82 hb10.size
    have H93 := Lib.hid ((H83.out).below hb10)
    have H94 := Lib.hid ((H84.out).below hb10)
    have B95 := Lib.hid (step (B85.out) hb10)
    have o96 : w9.heap.size ≤ w10.heap.size := hb10.size
    clear c77 c78 s79 c80 c81 s82
    clear hb10
    go_wp2_with fail
    refine (markKnownS_at H94.out (k := 1) (by omega) (by omega)).mono ?_
    rintro e w11 ⟨rfl, hatm, hb11⟩
    have Tm := Lib.hid hatm
    have c97 := (hb11.cellS (p := ⟨w.heap.size, 0, none⟩) s89 (by show ¬ (_ ≤ w.heap.size ∧ w.heap.size < _); omega)).trans c87
    have c98 := (hb11.cellS (p := ⟨w.heap.size, 1, none⟩) s89 (by show ¬ (_ ≤ w.heap.size ∧ w.heap.size < _); omega)).trans c88
    have s99 : w.heap.size < w11.heap.size := Nat.lt_of_lt_of_le s89 hb11.size
    have c100 := (hb11.cellS (p := ⟨w4.heap.size, 0, none⟩) s92 (by show ¬ (_ ≤ w4.heap.size ∧ w4.heap.size < _); omega)).trans c90
    have c101 := (hb11.cellS (p := ⟨w4.heap.size, 1, none⟩) s92 (by show ¬ (_ ≤ w4.heap.size ∧ w4.heap.size < _); omega)).trans c91
    have s102 : w4.heap.size < w11.heap.size := Nat.lt_of_lt_of_le s92 hb11.size
    have H103 := Lib.hid (H93.out.turned (by intro b h1 h2; omega) hb11)
    have B104 := Lib.hid (step_turned B95.out hb11 (by omega) B95.out.size)
    have o105 : w10.heap.size ≤ w11.heap.size := hb11.size
    clear c87 c88 s89 c90 c91 s92
    clear hatm hb11
    go_wp2_with fail
    refine (heldKnownS_at Tm.out (by omega) (by omega)).mono ?_
    rintro e w12 ⟨rfl, hb12⟩
    have c106 := (hb12.cell (p := ⟨w.heap.size, 0, none⟩) s99).trans c97
    have c107 := (hb12.cell (p := ⟨w.heap.size, 1, none⟩) s99).trans c98
    have s108 : w.heap.size < w12.heap.size := Nat.lt_of_lt_of_le s99 hb12.size
    have c109 := (hb12.cell (p := ⟨w4.heap.size, 0, none⟩) s102).trans c100
    have c110 := (hb12.cell (p := ⟨w4.heap.size, 1, none⟩) s102).trans c101
    have s111 : w4.heap.size < w12.heap.size := Nat.lt_of_lt_of_le s102 hb12.size
    have H112 := Lib.hid ((H103.out).below hb12)
    have H113 := Lib.hid ((Tm.out).below hb12)
    have B114 := Lib.hid (step (B104.out) hb12)
    have o115 : w11.heap.size ≤ w12.heap.size := hb12.size
    clear c97 c98 s99 c100 c101 s102
    clear hb12
    go_wp2_with fail
    refine (toPmap_at ep a vs cap _ (HV.out.below B114.out) hL).mono ?_
    rintro e w13 ⟨ah, ch, rfl, hath, hb13, -⟩
    have Th := Lib.hid hath
    have c116 := (hb13.cell (p := ⟨w.heap.size, 0, none⟩) s108).trans c106
    have c117 := (hb13.cell (p := ⟨w.heap.size, 1, none⟩) s108).trans c107
    have s118 : w.heap.size < w13.heap.size := Nat.lt_of_lt_of_le s108 hb13.size
    have c119 := (hb13.cell (p := ⟨w4.heap.size, 0, none⟩) s111).trans c109
    have c120 := (hb13.cell (p := ⟨w4.heap.size, 1, none⟩) s111).trans c110
    have s121 : w4.heap.size < w13.heap.size := Nat.lt_of_lt_of_le s111 hb13.size
    have H122 := Lib.hid ((H112.out).below hb13)
    have H123 := Lib.hid ((H113.out).below hb13)
    have B124 := Lib.hid (step (B114.out) hb13)
    have o125 : w12.heap.size ≤ w13.heap.size := hb13.size
    clear c106 c107 s108 c109 c110 s111
    clear hath hb13
    go_wp2_with fail
    refine (routeAll_any ep ah vs ch  _ Th.out.in1 HF.out hL).mono ?_
    rintro e w14 ⟨us6, hR6, ai, ci, rfl, hati, hb14⟩
    have HR6 := Lib.hid hR6
    have Ti := Lib.hid hati
    have c126 := (hb14.cell (p := ⟨w.heap.size, 0, none⟩) s118).trans c116
    have c127 := (hb14.cell (p := ⟨w.heap.size, 1, none⟩) s118).trans c117
    have s128 : w.heap.size < w14.heap.size := Nat.lt_of_lt_of_le s118 hb14.size
    have c129 := (hb14.cell (p := ⟨w4.heap.size, 0, none⟩) s121).trans c119
    have c130 := (hb14.cell (p := ⟨w4.heap.size, 1, none⟩) s121).trans c120
    have s131 : w4.heap.size < w14.heap.size := Nat.lt_of_lt_of_le s121 hb14.size
    have H132 := Lib.hid ((H122.out).below hb14)
    have H133 := Lib.hid ((H123.out).below hb14)
    have B134 := Lib.hid (step (B124.out) hb14)
    have o135 : w13.heap.size ≤ w14.heap.size := hb14.size
    clear c116 c117 s118 c119 c120 s121
    clear hR6 hati hb14
    obtain rfl := RouteAllRel.unique HR6.out HR.out
    go_wp2_with fail
    refine (eqKnownS_at Ti.out H132.out (by unfold maxLen; omega)).mono ?_
    rintro e w15 ⟨rfl, hb15⟩
    have c136 := (hb15.cell (p := ⟨w.heap.size, 0, none⟩) s128).trans c126
    have c137 := (hb15.cell (p := ⟨w.heap.size, 1, none⟩) s128).trans c127
    have s138 : w.heap.size < w15.heap.size := Nat.lt_of_lt_of_le s128 hb15.size
    have c139 := (hb15.cell (p := ⟨w4.heap.size, 0, none⟩) s131).trans c129
    have c140 := (hb15.cell (p := ⟨w4.heap.size, 1, none⟩) s131).trans c130
    have s141 : w4.heap.size < w15.heap.size := Nat.lt_of_lt_of_le s131 hb15.size
    have H142 := Lib.hid ((H132.out).below hb15)
    have H143 := Lib.hid ((H133.out).below hb15)
    have H144 := Lib.hid ((Ti.out).below hb15)
    have B145 := Lib.hid (step (B134.out) hb15)
    have o146 : w14.heap.size ≤ w15.heap.size := hb15.size
    clear c126 c127 s128 c129 c130 s131
    clear hb15
    go_wp2_with fail
    refine (heldKnownS_at H143.out (by omega) (by omega)).mono ?_
    rintro e w16 ⟨rfl, hb16⟩
    have c147 := (hb16.cell (p := ⟨w.heap.size, 0, none⟩) s138).trans c136
    have c148 := (hb16.cell (p := ⟨w.heap.size, 1, none⟩) s138).trans c137
    have s149 : w.heap.size < w16.heap.size := Nat.lt_of_lt_of_le s138 hb16.size
    have c150 := (hb16.cell (p := ⟨w4.heap.size, 0, none⟩) s141).trans c139
    have c151 := (hb16.cell (p := ⟨w4.heap.size, 1, none⟩) s141).trans c140
    have s152 : w4.heap.size < w16.heap.size := Nat.lt_of_lt_of_le s141 hb16.size
    have H153 := Lib.hid ((H142.out).below hb16)
    have H154 := Lib.hid ((H143.out).below hb16)
    have H155 := Lib.hid ((H144.out).below hb16)
    have B156 := Lib.hid (step (B145.out) hb16)
    have o157 : w15.heap.size ≤ w16.heap.size := hb16.size
    clear c136 c137 s138 c139 c140 s141
    clear hb16
    go_wp2_with fail
    go_ret
    exact ⟨rfl, B156.out⟩
end Go.Proofs.Ythjikcfpoomioaa
