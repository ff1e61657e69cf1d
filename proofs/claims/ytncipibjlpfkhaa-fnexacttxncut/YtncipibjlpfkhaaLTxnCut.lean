/- The law of TxnCut, walked. -/
import Derived.Test.YtncipibjlpfkhaaLawT
namespace Go.Proofs.Ytncipibjlpfkhaa
open Go.RowKit

set_option maxRecDepth 100000 in
set_option maxHeartbeats 8000000 in
theorem txnCut_law (id : Int) (a1 a2 : Option Addr) (ws : List WantD) (us : List WriteD) (k1 k2 : Nat) (lo hi : ByteArray) (w : World) (hv : WantsIn w a1 ws) (hu : WritesIn w a2 us) (hn : ws.length ≤ maxLen) (hm : us.length ≤ maxLen) (hf : ∀ v ∈ ws, v.fits) (hg : ∀ v ∈ us, v.fits) (hlo : lo.size ≤ maxLen) (hhi : hi.size ≤ maxLen) :
    Calls Try.prog 10 #[.agg #[.int .i64 id, .slice a1 ws.length k1, .slice a2 us.length k2], .agg #[.string lo, .string hi]] w fun e w' => e = .returned (.bool true) ∧ Below w.heap.size w w' := by
  have HV := Lib.hid hv
  have HU := Lib.hid hu
  have HF := Lib.hid hf
  have HG := Lib.hid hg
  have HN := Lib.hid hn
  have HM := Lib.hid hm
  have HLo := Lib.hid hlo
  have HHi := Lib.hid hhi
  clear hv hu hf hg hn hm hlo hhi
  obtain ⟨W0, hW0⟩ : ∃ W0, (w.alloc (.cells #[.int .i64 id, .slice a1 ws.length k1, .slice a2 us.length k2] 45)).alloc (.cells #[.string lo, .string hi] 85) = W0 := ⟨_, rfl⟩
  have HB : Below w.heap.size w W0 := by rw [← hW0]; exact ((Below.refl _ _).alloc (Nat.le_refl _) _).alloc (by simp) _
  have xa0 : W0.cell? ⟨w.heap.size, 0, none⟩ = some (.int .i64 id) := by rw [← hW0]; simp [go_sem]
  have xa1 : W0.cell? ⟨w.heap.size, 1, none⟩ = some (.slice a1 ws.length k1) := by rw [← hW0]; simp [go_sem]
  have xa2 : W0.cell? ⟨w.heap.size, 2, none⟩ = some (.slice a2 us.length k2) := by rw [← hW0]; simp [go_sem]
  have xb0 : W0.cell? ⟨w.heap.size + 1, 0, none⟩ = some (.string lo) := by rw [← hW0]; simp [go_sem]
  have xb1 : W0.cell? ⟨w.heap.size + 1, 1, none⟩ = some (.string hi) := by rw [← hW0]; simp [go_sem]
  have sb : w.heap.size + 1 < W0.heap.size := by rw [← hW0]; simp
  have sa : w.heap.size < W0.heap.size := by omega
  have kb : w.heap.size + 1 < W0.heap.size := sb
  have HB := Lib.hid HB
  go_enter Try.func10, Try.ntmps10
  go_wp2_with fail
  clear hW0
  refine (szTxn_any id a1 a2 ws us k1 k2 _ _ (HV.out.below HB.out) (HU.out.below HB.out) HF.out HG.out HN.out HM.out (by omega) (by omega)).mono ?_
  rintro e w1 ⟨z, rfl, hz, hb⟩
  have c_1 := (hb.cell (p := ⟨w.heap.size, 0, none⟩) sa).trans xa0
  have c_2 := (hb.cell (p := ⟨w.heap.size, 1, none⟩) sa).trans xa1
  have c_3 := (hb.cell (p := ⟨w.heap.size, 2, none⟩) sa).trans xa2
  have s_4 : w.heap.size < w1.heap.size := Nat.lt_of_lt_of_le sa hb.size
  have c_5 := (hb.cell (p := ⟨w.heap.size + 1, 0, none⟩) sb).trans xb0
  have c_6 := (hb.cell (p := ⟨w.heap.size + 1, 1, none⟩) sb).trans xb1
  have s_7 : w.heap.size + 1 < w1.heap.size := Nat.lt_of_lt_of_le sb hb.size
  have HB := Lib.hid (HB.out.trans (hb.mono HB.out.size))
  have o_8 : W0.heap.size ≤ w1.heap.size := hb.size
  clear xa0 xa1 xa2 sa xb0 xb1 sb
  clear hb
  rcases hz with rfl | ⟨hz, hsum⟩
  · go_wp2_with fail
    go_ret
    exact ⟨rfl, HB.out⟩
  have hL : ws.length ≤ 1048576 := by have := WantsSize_len ws; omega
  have hM : us.length ≤ 1048576 := by have := WritesSize_len us; omega
  have hzl : z ≤ 1048576 := by omega
  clear hsum
  go_wp2_with fail
  refine (szSpan_any lo hi z _ HLo.out HHi.out hz hzl).mono ?_
  rintro e w2 ⟨rfl, hb⟩
  have c_9 := (hb.cell (p := ⟨w.heap.size, 0, none⟩) s_4).trans c_1
  have c_10 := (hb.cell (p := ⟨w.heap.size, 1, none⟩) s_4).trans c_2
  have c_11 := (hb.cell (p := ⟨w.heap.size, 2, none⟩) s_4).trans c_3
  have s_12 : w.heap.size < w2.heap.size := Nat.lt_of_lt_of_le s_4 hb.size
  have c_13 := (hb.cell (p := ⟨w.heap.size + 1, 0, none⟩) s_7).trans c_5
  have c_14 := (hb.cell (p := ⟨w.heap.size + 1, 1, none⟩) s_7).trans c_6
  have s_15 : w.heap.size + 1 < w2.heap.size := Nat.lt_of_lt_of_le s_7 hb.size
  have HB := Lib.hid (HB.out.trans (hb.mono HB.out.size))
  have o_16 : w1.heap.size ≤ w2.heap.size := hb.size
  clear c_1 c_2 c_3 s_4 c_5 c_6 s_7
  clear hb
  by_cases hneg : szSpanZ lo hi z < 0
  · go_wp2_with fail
    go_ret
    exact ⟨rfl, HB.out⟩
  go_upto_region 8 with fail
  go_cut [6] from 13 (fun p u => ∃ id' ws' us', TxnCutRel id ws us lo hi id' ws' us' ∧ NewTx w2 id' ws' us' p u)
  case first =>
    have q : w2.cell? ⟨w.heap.size, 0, none⟩ = some (.int .i64 id) ∧ w2.cell? ⟨w.heap.size, 1, none⟩ = some (.slice a1 ws.length k1) ∧ w2.cell? ⟨w.heap.size, 2, none⟩ = some (.slice a2 us.length k2) ∧ w2.cell? ⟨w.heap.size + 1, 0, none⟩ = some (.string lo) ∧ w2.cell? ⟨w.heap.size + 1, 1, none⟩ = some (.string hi) ∧ Kp w2 (w.heap.size) (w.heap.size + 1) w2 := ⟨c_9, c_10, c_11, c_13, c_14, s_12, s_15, Below.refl _ _⟩
    have hn1 : w.heap.size < w2.heap.size := s_12
    have hn2 : w.heap.size + 1 < w2.heap.size := s_15
    go_region_held3 (fun u => u.cell? ⟨w.heap.size, 0, none⟩ = some (.int .i64 id) ∧ u.cell? ⟨w.heap.size, 1, none⟩ = some (.slice a1 ws.length k1) ∧ u.cell? ⟨w.heap.size, 2, none⟩ = some (.slice a2 us.length k2) ∧ u.cell? ⟨w.heap.size + 1, 0, none⟩ = some (.string lo) ∧ u.cell? ⟨w.heap.size + 1, 1, none⟩ = some (.string hi) ∧ Kp w2 (w.heap.size) (w.heap.size + 1) u)
      (first | with_reducible exact q | with_reducible exact keep32 ((Below.refl _ _).drew) q | with_reducible exact keep32 ((Below.refl _ _).alloc (Nat.le_refl _) _) q | with_reducible exact keep32 (((Below.refl _ _).alloc (Nat.le_refl _) _).drew) q | with_reducible exact keep32_set q hn1 hn2 (by omega))
      (first
        | (go_at_call 41; refine (toTxn_at id a1 a2 ws us k1 k2 _ (HV.out.below ((keep32_kp (W := w2) (n1 := w.heap.size) (n2 := w.heap.size + 1) (x0 := .int .i64 id) (x1 := .slice a1 ws.length k1) (x2 := .slice a2 us.length k2) (y0 := .string lo) (y1 := .string hi) (by with_reducible assumption)).from_ HB.out)) (HU.out.below ((keep32_kp (W := w2) (n1 := w.heap.size) (n2 := w.heap.size + 1) (x0 := .int .i64 id) (x1 := .slice a1 ws.length k1) (x2 := .slice a2 us.length k2) (y0 := .string lo) (y1 := .string hi) (by with_reducible assumption)).from_ HB.out)) hL hM).mono ?_; rintro e wA ⟨aA, bA, cA, dA, rfl, hat, hb⟩; have q := keep32 (W := w2) (n1 := w.heap.size) (n2 := w.heap.size + 1) (x0 := .int .i64 id) (x1 := .slice a1 ws.length k1) (x2 := .slice a2 us.length k2) (y0 := .string lo) (y1 := .string hi) hb (by with_reducible assumption); (try ((first | with_reducible refine of_new3 hb ?_ | with_reducible refine of_new3D hb ?_ | with_reducible refine of_carry3 hb zn ?_); intro zn; have zn0 := zn.1; have zn1 := zn.2.1; have zn2 := zn.2.2.1; have zn3 := zn.2.2.2.1; have zn4 := zn.2.2.2.2.1; have zn5 := zn.2.2.2.2.2.1; have zn6 := zn.2.2.2.2.2.2)); have TA := Lib.hid hat; have szA := (keep32_kp q).size; clear hat hb)
        | (go_at_call 50; refine (toSpan_any lo hi _).mono ?_; rintro e wB ⟨rfl, hb⟩; have q := keep32 (W := w2) (n1 := w.heap.size) (n2 := w.heap.size + 1) (x0 := .int .i64 id) (x1 := .slice a1 ws.length k1) (x2 := .slice a2 us.length k2) (y0 := .string lo) (y1 := .string hi) hb (by with_reducible assumption); (try ((first | with_reducible refine of_new3 hb ?_ | with_reducible refine of_new3D hb ?_ | with_reducible refine of_carry3 hb zn ?_); intro zn; have zn0 := zn.1; have zn1 := zn.2.1; have zn2 := zn.2.2.1; have zn3 := zn.2.2.2.1; have zn4 := zn.2.2.2.2.1; have zn5 := zn.2.2.2.2.2.1; have zn6 := zn.2.2.2.2.2.2)); (try (first | (have TA := Lib.hid (TA.out.below hb)) | (have TA := Lib.hid ((TA.out.below ((Below.refl _ _).alloc (Nat.le_refl _) _)).below hb)))); have szB := (keep32_kp q).size; clear hb)
        | (go_at_call 49; (try have zl := zn.2.2.2.2.2.2); refine (specTxnCut_any id aA bA ws us cA dA lo hi _ (by first | with_reducible exact TA.out.in1 | with_reducible exact (TA.out.below ((Below.refl _ _).alloc (Nat.le_refl _) _)).in1) (by first | with_reducible exact TA.out.in2 | with_reducible exact (TA.out.below ((Below.refl _ _).alloc (Nat.le_refl _) _)).in2) HF.out HG.out hL hM HLo.out HHi.out).mono ?_; rintro e wC ⟨idC, wsC, usC, hR, aC, bC, cC, dC, rfl, hat, hb⟩; have q := keep32 (W := w2) (n1 := w.heap.size) (n2 := w.heap.size + 1) (x0 := .int .i64 id) (x1 := .slice a1 ws.length k1) (x2 := .slice a2 us.length k2) (y0 := .string lo) (y1 := .string hi) hb (by with_reducible assumption); (try ((first | with_reducible refine of_new3 hb ?_ | with_reducible refine of_new3D hb ?_ | with_reducible refine of_carry3 hb zn ?_); intro zn; have zn0 := zn.1; have zn1 := zn.2.1; have zn2 := zn.2.2.1; have zn3 := zn.2.2.2.1; have zn4 := zn.2.2.2.2.1; have zn5 := zn.2.2.2.2.2.1; have zn6 := zn.2.2.2.2.2.2)); have HR := Lib.hid hR; have TC := Lib.hid hat; have szC := (keep32_kp q).size; clear hR hat hb))
    all_goals (go_wp2_with fail; go_meet)
    all_goals
      refine ⟨idC, wsC, usC, HR.out, ?_⟩
      first | with_reducible exact newTx_A (keep32_kp q) TC.out (by first | omega | (simp; omega)) | with_reducible exact newTx_B (keep32_kp q) TC.out zn (by omega) (by first | omega | (simp; omega) | simp)
  case rest =>
    obtain ⟨id', ws', us', hR, gw, lw, hw, aw, bw, cw, dw, rfl, hb, hg1, hg2, hg3, hg4, e0, e1, e2, hat⟩ := hcut
    have HRw := Lib.hid hR
    have Tw := Lib.hid hat
    obtain ⟨w8, rfl⟩ : ∃ x, x = wc := ⟨_, rfl⟩
    have hiw : hw ≤ w8.heap.size := hat.le
    have c_17 := (hb.cell (p := ⟨w.heap.size, 0, none⟩) s_12).trans c_9
    have c_18 := (hb.cell (p := ⟨w.heap.size, 1, none⟩) s_12).trans c_10
    have c_19 := (hb.cell (p := ⟨w.heap.size, 2, none⟩) s_12).trans c_11
    have s_20 : w.heap.size < w8.heap.size := Nat.lt_of_lt_of_le s_12 hb.size
    have c_21 := (hb.cell (p := ⟨w.heap.size + 1, 0, none⟩) s_15).trans c_13
    have c_22 := (hb.cell (p := ⟨w.heap.size + 1, 1, none⟩) s_15).trans c_14
    have s_23 : w.heap.size + 1 < w8.heap.size := Nat.lt_of_lt_of_le s_15 hb.size
    have HB := Lib.hid (HB.out.trans (hb.mono HB.out.size))
    have o_24 : w2.heap.size ≤ w8.heap.size := hb.size
    clear c_9 c_10 c_11 s_12 c_13 c_14 s_15
    have c_25 := e0
    have c_26 := e1
    have c_27 := e2
    have s_28 := hg2
    have k_29 : gw < w8.heap.size := hg2
    have m_30 := hg1
    have m_31 := hg3
    have m_32 := hg4
    clear hR hb hat e0 e1 e2 hg1 hg2 hg3 hg4
    have hUs := TxnCutRel_len HRw.out
    have hU1 := hUs.1
    have hU2 := hUs.2
    clear hUs
    go_upto_region 10 with (go_at_call 41; refine (toTxn_at id a1 a2 ws us k1 k2 _ (HV.out.below HB.out) (HU.out.below HB.out) hL hM).mono ?_; rintro e w9 ⟨ax, bx, cx, dx, rfl, hat, hb⟩; have P9 := Lib.hid (And.intro hat hb); clear hat hb)
    obtain ⟨hat, hb⟩ := P9.out
    have hx := Lib.hid hat
    have c_33 := (hb.cell (p := ⟨w.heap.size, 0, none⟩) s_20).trans c_17
    have c_34 := (hb.cell (p := ⟨w.heap.size, 1, none⟩) s_20).trans c_18
    have c_35 := (hb.cell (p := ⟨w.heap.size, 2, none⟩) s_20).trans c_19
    have s_36 : w.heap.size < w9.heap.size := Nat.lt_of_lt_of_le s_20 hb.size
    have c_37 := (hb.cell (p := ⟨w.heap.size + 1, 0, none⟩) s_23).trans c_21
    have c_38 := (hb.cell (p := ⟨w.heap.size + 1, 1, none⟩) s_23).trans c_22
    have s_39 : w.heap.size + 1 < w9.heap.size := Nat.lt_of_lt_of_le s_23 hb.size
    have c_40 := (hb.cell (p := ⟨gw, 0, none⟩) s_28).trans c_25
    have c_41 := (hb.cell (p := ⟨gw, 1, none⟩) s_28).trans c_26
    have c_42 := (hb.cell (p := ⟨gw, 2, none⟩) s_28).trans c_27
    have s_43 : gw < w9.heap.size := Nat.lt_of_lt_of_le s_28 hb.size
    have H_44 := Lib.hid (Tw.out.below hb)
    have HB := Lib.hid (HB.out.trans (hb.mono HB.out.size))
    have o_45 : w8.heap.size ≤ w9.heap.size := hb.size
    clear c_17 c_18 c_19 s_20 c_21 c_22 s_23 c_25 c_26 c_27 s_28
    clear hat hb P9
    obtain ⟨V_46, hV_46⟩ : ∃ V_46, w9.alloc (.cells #[.int .i64 id, .slice ax ws.length cx, .slice bx us.length dx] 53) = V_46 := ⟨_, rfl⟩
    have bV_46 : Below w9.heap.size w9 V_46 := by rw [← hV_46]; exact (Below.refl _ _).alloc (Nat.le_refl _) _
    have c_47 : V_46.cell? ⟨w9.heap.size, 0, none⟩ = some (.int .i64 id) := by rw [← hV_46]; simp [go_sem]
    have c_48 : V_46.cell? ⟨w9.heap.size, 1, none⟩ = some (.slice ax ws.length cx) := by rw [← hV_46]; simp [go_sem]
    have c_49 : V_46.cell? ⟨w9.heap.size, 2, none⟩ = some (.slice bx us.length dx) := by rw [← hV_46]; simp [go_sem]
    have s_50 : w9.heap.size < V_46.heap.size := by rw [← hV_46]; simp
    have k_51 : w9.heap.size < V_46.heap.size := s_50
    have c_52 := (bV_46.cell (p := ⟨w.heap.size, 0, none⟩) s_36).trans c_33
    have c_53 := (bV_46.cell (p := ⟨w.heap.size, 1, none⟩) s_36).trans c_34
    have c_54 := (bV_46.cell (p := ⟨w.heap.size, 2, none⟩) s_36).trans c_35
    have s_55 : w.heap.size < V_46.heap.size := Nat.lt_of_lt_of_le s_36 bV_46.size
    have c_56 := (bV_46.cell (p := ⟨w.heap.size + 1, 0, none⟩) s_39).trans c_37
    have c_57 := (bV_46.cell (p := ⟨w.heap.size + 1, 1, none⟩) s_39).trans c_38
    have s_58 : w.heap.size + 1 < V_46.heap.size := Nat.lt_of_lt_of_le s_39 bV_46.size
    have c_59 := (bV_46.cell (p := ⟨gw, 0, none⟩) s_43).trans c_40
    have c_60 := (bV_46.cell (p := ⟨gw, 1, none⟩) s_43).trans c_41
    have c_61 := (bV_46.cell (p := ⟨gw, 2, none⟩) s_43).trans c_42
    have s_62 : gw < V_46.heap.size := Nat.lt_of_lt_of_le s_43 bV_46.size
    have H_63 := Lib.hid (H_44.out.below bV_46)
    have H_64 := Lib.hid (hx.out.below bV_46)
    have HB := Lib.hid (HB.out.trans (bV_46.mono HB.out.size))
    have o_65 : w9.heap.size ≤ V_46.heap.size := bV_46.size
    clear c_33 c_34 c_35 s_36 c_37 c_38 s_39 c_40 c_41 c_42 s_43
    clear bV_46
    rw [hV_46]
    clear hV_46
    go_upto_region 10 with fail
    go_cut [8] from 13 (fun p u => ∃ id' ws' us', TxnCutRel id ws us lo hi id' ws' us' ∧ NewTx V_46 id' ws' us' p u)
    case first =>
      have q : V_46.cell? ⟨w9.heap.size, 0, none⟩ = some (.int .i64 id) ∧ V_46.cell? ⟨w9.heap.size, 1, none⟩ = some (.slice ax ws.length cx) ∧ V_46.cell? ⟨w9.heap.size, 2, none⟩ = some (.slice bx us.length dx) ∧ V_46.cell? ⟨w.heap.size + 1, 0, none⟩ = some (.string lo) ∧ V_46.cell? ⟨w.heap.size + 1, 1, none⟩ = some (.string hi) ∧ Kp V_46 (w9.heap.size) (w.heap.size + 1) V_46 := ⟨c_47, c_48, c_49, c_56, c_57, s_50, s_58, Below.refl _ _⟩
      have hn1 : w9.heap.size < V_46.heap.size := s_50
      have hn2 : w.heap.size + 1 < V_46.heap.size := s_58
      go_region_held3 (fun u => u.cell? ⟨w9.heap.size, 0, none⟩ = some (.int .i64 id) ∧ u.cell? ⟨w9.heap.size, 1, none⟩ = some (.slice ax ws.length cx) ∧ u.cell? ⟨w9.heap.size, 2, none⟩ = some (.slice bx us.length dx) ∧ u.cell? ⟨w.heap.size + 1, 0, none⟩ = some (.string lo) ∧ u.cell? ⟨w.heap.size + 1, 1, none⟩ = some (.string hi) ∧ Kp V_46 (w9.heap.size) (w.heap.size + 1) u)
        (first | with_reducible exact q | with_reducible exact keep32 ((Below.refl _ _).drew) q | with_reducible exact keep32 ((Below.refl _ _).alloc (Nat.le_refl _) _) q | with_reducible exact keep32 (((Below.refl _ _).alloc (Nat.le_refl _) _).drew) q | with_reducible exact keep32_set q hn1 hn2 (by omega))
        (first
          | (go_at_call 50; refine (toSpan_any lo hi _).mono ?_; rintro e wB ⟨rfl, hb⟩; have q := keep32 (W := V_46) (n1 := w9.heap.size) (n2 := w.heap.size + 1) (x0 := .int .i64 id) (x1 := .slice ax ws.length cx) (x2 := .slice bx us.length dx) (y0 := .string lo) (y1 := .string hi) hb (by with_reducible assumption); (try ((first | with_reducible refine of_new3 hb ?_ | with_reducible refine of_new3D hb ?_ | with_reducible refine of_carry3 hb zn ?_); intro zn; have zn0 := zn.1; have zn1 := zn.2.1; have zn2 := zn.2.2.1; have zn3 := zn.2.2.2.1; have zn4 := zn.2.2.2.2.1; have zn5 := zn.2.2.2.2.2.1; have zn6 := zn.2.2.2.2.2.2)); (try (first | (have TA := Lib.hid (TA.out.below hb)) | (have TA := Lib.hid ((TA.out.below ((Below.refl _ _).alloc (Nat.le_refl _) _)).below hb)))); have szB := (keep32_kp q).size; clear hb)
          | (go_at_call 51; (try have zl := zn.2.2.2.2.2.2); refine (txnCut_any id ax bx ws us cx dx lo hi _ (H_64.out.below (keep32_kp (W := V_46) (n1 := w9.heap.size) (n2 := w.heap.size + 1) (x0 := .int .i64 id) (x1 := .slice ax ws.length cx) (x2 := .slice bx us.length dx) (y0 := .string lo) (y1 := .string hi) (by with_reducible assumption)).2.2).in1 (H_64.out.below (keep32_kp (W := V_46) (n1 := w9.heap.size) (n2 := w.heap.size + 1) (x0 := .int .i64 id) (x1 := .slice ax ws.length cx) (x2 := .slice bx us.length dx) (y0 := .string lo) (y1 := .string hi) (by with_reducible assumption)).2.2).in2 HF.out HG.out hL hM HLo.out HHi.out).mono ?_; rintro e wC ⟨idC, wsC, usC, hR, aC, bC, cC, dC, rfl, hat, hb⟩; have q := keep32 (W := V_46) (n1 := w9.heap.size) (n2 := w.heap.size + 1) (x0 := .int .i64 id) (x1 := .slice ax ws.length cx) (x2 := .slice bx us.length dx) (y0 := .string lo) (y1 := .string hi) hb (by with_reducible assumption); (try ((first | with_reducible refine of_new3 hb ?_ | with_reducible refine of_new3D hb ?_ | with_reducible refine of_carry3 hb zn ?_); intro zn; have zn0 := zn.1; have zn1 := zn.2.1; have zn2 := zn.2.2.1; have zn3 := zn.2.2.2.1; have zn4 := zn.2.2.2.2.1; have zn5 := zn.2.2.2.2.2.1; have zn6 := zn.2.2.2.2.2.2)); have HR := Lib.hid hR; have TC := Lib.hid hat; have szC := (keep32_kp q).size; clear hR hat hb))
      all_goals (go_wp2_with fail; go_meet)
      all_goals
        refine ⟨idC, wsC, usC, HR.out, ?_⟩
        first | with_reducible exact newTx_A (keep32_kp q) TC.out (by first | omega | (simp; omega)) | with_reducible exact newTx_B (keep32_kp q) TC.out zn (by omega) (by first | omega | (simp; omega) | simp)
    case rest =>
      obtain ⟨id5, ws5, us5, hR, gg, lg, hg, ag, bg, cg, dg, rfl, hb, hg1, hg2, hg3, hg4, e0, e1, e2, hat⟩ := hcut
      have HRg := Lib.hid hR
      have Tg := Lib.hid hat
      obtain ⟨w10, rfl⟩ : ∃ x, x = wc := ⟨_, rfl⟩
      have hig : hg ≤ w10.heap.size := hat.le
      have c_66 := (hb.cell (p := ⟨w.heap.size, 0, none⟩) s_55).trans c_52
      have c_67 := (hb.cell (p := ⟨w.heap.size, 1, none⟩) s_55).trans c_53
      have c_68 := (hb.cell (p := ⟨w.heap.size, 2, none⟩) s_55).trans c_54
      have s_69 : w.heap.size < w10.heap.size := Nat.lt_of_lt_of_le s_55 hb.size
      have c_70 := (hb.cell (p := ⟨w.heap.size + 1, 0, none⟩) s_58).trans c_56
      have c_71 := (hb.cell (p := ⟨w.heap.size + 1, 1, none⟩) s_58).trans c_57
      have s_72 : w.heap.size + 1 < w10.heap.size := Nat.lt_of_lt_of_le s_58 hb.size
      have c_73 := (hb.cell (p := ⟨gw, 0, none⟩) s_62).trans c_59
      have c_74 := (hb.cell (p := ⟨gw, 1, none⟩) s_62).trans c_60
      have c_75 := (hb.cell (p := ⟨gw, 2, none⟩) s_62).trans c_61
      have s_76 : gw < w10.heap.size := Nat.lt_of_lt_of_le s_62 hb.size
      have c_77 := (hb.cell (p := ⟨w9.heap.size, 0, none⟩) s_50).trans c_47
      have c_78 := (hb.cell (p := ⟨w9.heap.size, 1, none⟩) s_50).trans c_48
      have c_79 := (hb.cell (p := ⟨w9.heap.size, 2, none⟩) s_50).trans c_49
      have s_80 : w9.heap.size < w10.heap.size := Nat.lt_of_lt_of_le s_50 hb.size
      have H_81 := Lib.hid (H_63.out.below hb)
      have H_82 := Lib.hid (H_64.out.below hb)
      have HB := Lib.hid (HB.out.trans (hb.mono HB.out.size))
      have o_83 : V_46.heap.size ≤ w10.heap.size := hb.size
      clear c_52 c_53 c_54 s_55 c_56 c_57 s_58 c_59 c_60 c_61 s_62 c_47 c_48 c_49 s_50
      have c_84 := e0
      have c_85 := e1
      have c_86 := e2
      have s_87 := hg2
      have k_88 : gg < w10.heap.size := hg2
      have m_89 := hg1
      have m_90 := hg3
      have m_91 := hg4
      clear hR hb hat e0 e1 e2 hg1 hg2 hg3 hg4
      obtain ⟨rfl, rfl, rfl⟩ := TxnCutRel_unique HRg.out HRw.out
      go_wp2_with fail
      refine (eqTxn_at _ Tg.out H_81.out (by unfold maxLen; omega) (by unfold maxLen; omega)).mono ?_
      rintro e w11 ⟨rfl, hb⟩
      have c_92 := (hb.cell (p := ⟨w.heap.size, 0, none⟩) s_69).trans c_66
      have c_93 := (hb.cell (p := ⟨w.heap.size, 1, none⟩) s_69).trans c_67
      have c_94 := (hb.cell (p := ⟨w.heap.size, 2, none⟩) s_69).trans c_68
      have s_95 : w.heap.size < w11.heap.size := Nat.lt_of_lt_of_le s_69 hb.size
      have c_96 := (hb.cell (p := ⟨w.heap.size + 1, 0, none⟩) s_72).trans c_70
      have c_97 := (hb.cell (p := ⟨w.heap.size + 1, 1, none⟩) s_72).trans c_71
      have s_98 : w.heap.size + 1 < w11.heap.size := Nat.lt_of_lt_of_le s_72 hb.size
      have c_99 := (hb.cell (p := ⟨gw, 0, none⟩) s_76).trans c_73
      have c_100 := (hb.cell (p := ⟨gw, 1, none⟩) s_76).trans c_74
      have c_101 := (hb.cell (p := ⟨gw, 2, none⟩) s_76).trans c_75
      have s_102 : gw < w11.heap.size := Nat.lt_of_lt_of_le s_76 hb.size
      have c_103 := (hb.cell (p := ⟨w9.heap.size, 0, none⟩) s_80).trans c_77
      have c_104 := (hb.cell (p := ⟨w9.heap.size, 1, none⟩) s_80).trans c_78
      have c_105 := (hb.cell (p := ⟨w9.heap.size, 2, none⟩) s_80).trans c_79
      have s_106 : w9.heap.size < w11.heap.size := Nat.lt_of_lt_of_le s_80 hb.size
      have c_107 := (hb.cell (p := ⟨gg, 0, none⟩) s_87).trans c_84
      have c_108 := (hb.cell (p := ⟨gg, 1, none⟩) s_87).trans c_85
      have c_109 := (hb.cell (p := ⟨gg, 2, none⟩) s_87).trans c_86
      have s_110 : gg < w11.heap.size := Nat.lt_of_lt_of_le s_87 hb.size
      have H_111 := Lib.hid (H_81.out.below hb)
      have H_112 := Lib.hid (H_82.out.below hb)
      have H_113 := Lib.hid (Tg.out.below hb)
      have HB := Lib.hid (HB.out.trans (hb.mono HB.out.size))
      have o_114 : w10.heap.size ≤ w11.heap.size := hb.size
      clear c_66 c_67 c_68 s_69 c_70 c_71 s_72 c_73 c_74 c_75 s_76 c_77 c_78 c_79 s_80 c_84 c_85 c_86 s_87
      clear hb
      go_upto_region 13 with fail
      go_cut [42] from 13 (fun p u => p = .bool false ∧ Below w11.heap.size w11 u)
      case first =>
        have q : w11.cell? ⟨w9.heap.size, 0, none⟩ = some (.int .i64 id) ∧ w11.cell? ⟨w9.heap.size, 1, none⟩ = some (.slice ax ws.length cx) ∧ w11.cell? ⟨w9.heap.size, 2, none⟩ = some (.slice bx us.length dx) ∧ w11.cell? ⟨w.heap.size, 0, none⟩ = some (.int .i64 id) ∧ w11.cell? ⟨w.heap.size, 1, none⟩ = some (.slice a1 ws.length k1) ∧ w11.cell? ⟨w.heap.size, 2, none⟩ = some (.slice a2 us.length k2) ∧ Kp w11 (w9.heap.size) (w.heap.size) w11 := ⟨c_103, c_104, c_105, c_92, c_93, c_94, s_106, s_95, Below.refl _ _⟩
        go_region_held3 (fun u => u.cell? ⟨w9.heap.size, 0, none⟩ = some (.int .i64 id) ∧ u.cell? ⟨w9.heap.size, 1, none⟩ = some (.slice ax ws.length cx) ∧ u.cell? ⟨w9.heap.size, 2, none⟩ = some (.slice bx us.length dx) ∧ u.cell? ⟨w.heap.size, 0, none⟩ = some (.int .i64 id) ∧ u.cell? ⟨w.heap.size, 1, none⟩ = some (.slice a1 ws.length k1) ∧ u.cell? ⟨w.heap.size, 2, none⟩ = some (.slice a2 us.length k2) ∧ Kp w11 (w9.heap.size) (w.heap.size) u)
          (first | with_reducible exact q | with_reducible exact keep33 ((Below.refl _ _).drew) q)
          (first
            | (go_at_call 41; refine (toTxn_at id a1 a2 ws us k1 k2 _ (HV.out.below ((keep33_kp (W := w11) (n1 := w9.heap.size) (n2 := w.heap.size) (x0 := .int .i64 id) (x1 := .slice ax ws.length cx) (x2 := .slice bx us.length dx) (y0 := .int .i64 id) (y1 := .slice a1 ws.length k1) (y2 := .slice a2 us.length k2) (by with_reducible assumption)).from_ HB.out)) (HU.out.below ((keep33_kp (W := w11) (n1 := w9.heap.size) (n2 := w.heap.size) (x0 := .int .i64 id) (x1 := .slice ax ws.length cx) (x2 := .slice bx us.length dx) (y0 := .int .i64 id) (y1 := .slice a1 ws.length k1) (y2 := .slice a2 us.length k2) (by with_reducible assumption)).from_ HB.out)) hL hM).mono ?_; rintro e wA ⟨aA, bA, cA, dA, rfl, hat, hb⟩; have q := keep33 (W := w11) (n1 := w9.heap.size) (n2 := w.heap.size) (x0 := .int .i64 id) (x1 := .slice ax ws.length cx) (x2 := .slice bx us.length dx) (y0 := .int .i64 id) (y1 := .slice a1 ws.length k1) (y2 := .slice a2 us.length k2) hb (by with_reducible assumption); have TA := Lib.hid hat; clear hat hb)
            | (go_at_call 44; refine (eqTxn_at id (H_112.out.below (keep33_kp (W := w11) (n1 := w9.heap.size) (n2 := w.heap.size) (x0 := .int .i64 id) (x1 := .slice ax ws.length cx) (x2 := .slice bx us.length dx) (y0 := .int .i64 id) (y1 := .slice a1 ws.length k1) (y2 := .slice a2 us.length k2) (by with_reducible assumption)).2.2) TA.out HN.out HM.out).mono ?_; rintro e wE ⟨rfl, hb⟩; have q := keep33 (W := w11) (n1 := w9.heap.size) (n2 := w.heap.size) (x0 := .int .i64 id) (x1 := .slice ax ws.length cx) (x2 := .slice bx us.length dx) (y0 := .int .i64 id) (y1 := .slice a1 ws.length k1) (y2 := .slice a2 us.length k2) hb (by with_reducible assumption); clear hb))
        all_goals (go_wp2_with fail; go_meet)
        all_goals exact ⟨rfl, (keep33_kp q).2.2⟩
      case rest =>
        obtain ⟨rfl, hb⟩ := hcut
        obtain ⟨w13, rfl⟩ : ∃ x, x = wc := ⟨_, rfl⟩
        have c_115 := (hb.cell (p := ⟨w.heap.size, 0, none⟩) s_95).trans c_92
        have c_116 := (hb.cell (p := ⟨w.heap.size, 1, none⟩) s_95).trans c_93
        have c_117 := (hb.cell (p := ⟨w.heap.size, 2, none⟩) s_95).trans c_94
        have s_118 : w.heap.size < w13.heap.size := Nat.lt_of_lt_of_le s_95 hb.size
        have c_119 := (hb.cell (p := ⟨w.heap.size + 1, 0, none⟩) s_98).trans c_96
        have c_120 := (hb.cell (p := ⟨w.heap.size + 1, 1, none⟩) s_98).trans c_97
        have s_121 : w.heap.size + 1 < w13.heap.size := Nat.lt_of_lt_of_le s_98 hb.size
        have c_122 := (hb.cell (p := ⟨gw, 0, none⟩) s_102).trans c_99
        have c_123 := (hb.cell (p := ⟨gw, 1, none⟩) s_102).trans c_100
        have c_124 := (hb.cell (p := ⟨gw, 2, none⟩) s_102).trans c_101
        have s_125 : gw < w13.heap.size := Nat.lt_of_lt_of_le s_102 hb.size
        have c_126 := (hb.cell (p := ⟨w9.heap.size, 0, none⟩) s_106).trans c_103
        have c_127 := (hb.cell (p := ⟨w9.heap.size, 1, none⟩) s_106).trans c_104
        have c_128 := (hb.cell (p := ⟨w9.heap.size, 2, none⟩) s_106).trans c_105
        have s_129 : w9.heap.size < w13.heap.size := Nat.lt_of_lt_of_le s_106 hb.size
        have c_130 := (hb.cell (p := ⟨gg, 0, none⟩) s_110).trans c_107
        have c_131 := (hb.cell (p := ⟨gg, 1, none⟩) s_110).trans c_108
        have c_132 := (hb.cell (p := ⟨gg, 2, none⟩) s_110).trans c_109
        have s_133 : gg < w13.heap.size := Nat.lt_of_lt_of_le s_110 hb.size
        have H_134 := Lib.hid (H_111.out.below hb)
        have H_135 := Lib.hid (H_112.out.below hb)
        have H_136 := Lib.hid (H_113.out.below hb)
        have HB := Lib.hid (HB.out.trans (hb.mono HB.out.size))
        have o_137 : w11.heap.size ≤ w13.heap.size := hb.size
        clear c_92 c_93 c_94 s_95 c_96 c_97 s_98 c_99 c_100 c_101 s_102 c_103 c_104 c_105 s_106 c_107 c_108 c_109 s_110
        clear hb
        go_wp2_with fail
        refine (markTxn_at id rfl rfl H_135.out (k := 1) (by omega) (by omega)).mono ?_
        rintro e w14 ⟨rfl, hatm, hb⟩
        have c_138 := (hb.cellS (p := ⟨w.heap.size, 0, none⟩) s_118 (by show ¬ (_ ≤ w.heap.size ∧ w.heap.size < _); omega)).trans c_115
        have c_139 := (hb.cellS (p := ⟨w.heap.size, 1, none⟩) s_118 (by show ¬ (_ ≤ w.heap.size ∧ w.heap.size < _); omega)).trans c_116
        have c_140 := (hb.cellS (p := ⟨w.heap.size, 2, none⟩) s_118 (by show ¬ (_ ≤ w.heap.size ∧ w.heap.size < _); omega)).trans c_117
        have s_141 : w.heap.size < w14.heap.size := Nat.lt_of_lt_of_le s_118 hb.size
        have c_142 := (hb.cellS (p := ⟨w.heap.size + 1, 0, none⟩) s_121 (by show ¬ (_ ≤ w.heap.size + 1 ∧ w.heap.size + 1 < _); omega)).trans c_119
        have c_143 := (hb.cellS (p := ⟨w.heap.size + 1, 1, none⟩) s_121 (by show ¬ (_ ≤ w.heap.size + 1 ∧ w.heap.size + 1 < _); omega)).trans c_120
        have s_144 : w.heap.size + 1 < w14.heap.size := Nat.lt_of_lt_of_le s_121 hb.size
        have c_145 := (hb.cellS (p := ⟨gw, 0, none⟩) s_125 (by show ¬ (_ ≤ gw ∧ gw < _); omega)).trans c_122
        have c_146 := (hb.cellS (p := ⟨gw, 1, none⟩) s_125 (by show ¬ (_ ≤ gw ∧ gw < _); omega)).trans c_123
        have c_147 := (hb.cellS (p := ⟨gw, 2, none⟩) s_125 (by show ¬ (_ ≤ gw ∧ gw < _); omega)).trans c_124
        have s_148 : gw < w14.heap.size := Nat.lt_of_lt_of_le s_125 hb.size
        have c_149 := (hb.cellS (p := ⟨w9.heap.size, 0, none⟩) s_129 (by show ¬ (_ ≤ w9.heap.size ∧ w9.heap.size < _); omega)).trans c_126
        have c_150 := (hb.cellS (p := ⟨w9.heap.size, 1, none⟩) s_129 (by show ¬ (_ ≤ w9.heap.size ∧ w9.heap.size < _); omega)).trans c_127
        have c_151 := (hb.cellS (p := ⟨w9.heap.size, 2, none⟩) s_129 (by show ¬ (_ ≤ w9.heap.size ∧ w9.heap.size < _); omega)).trans c_128
        have s_152 : w9.heap.size < w14.heap.size := Nat.lt_of_lt_of_le s_129 hb.size
        have c_153 := (hb.cellS (p := ⟨gg, 0, none⟩) s_133 (by show ¬ (_ ≤ gg ∧ gg < _); omega)).trans c_130
        have c_154 := (hb.cellS (p := ⟨gg, 1, none⟩) s_133 (by show ¬ (_ ≤ gg ∧ gg < _); omega)).trans c_131
        have c_155 := (hb.cellS (p := ⟨gg, 2, none⟩) s_133 (by show ¬ (_ ≤ gg ∧ gg < _); omega)).trans c_132
        have s_156 : gg < w14.heap.size := Nat.lt_of_lt_of_le s_133 hb.size
        have H_157 := Lib.hid (H_134.out.turned (by intro b h1 h2; omega) hb)
        have H_158 := Lib.hid (H_136.out.turned (by intro b h1 h2; omega) hb)
        have HB := Lib.hid (step_turned HB.out hb (by omega) HB.out.size)
        have o_159 : w13.heap.size ≤ w14.heap.size := hb.size
        clear c_115 c_116 c_117 s_118 c_119 c_120 s_121 c_122 c_123 c_124 s_125 c_126 c_127 c_128 s_129 c_130 c_131 c_132 s_133
        clear hatm hb
        go_wp2_with fail
        refine (eqTxn_at _ H_158.out H_157.out (by unfold maxLen; omega) (by unfold maxLen; omega)).mono ?_
        rintro e w15 ⟨rfl, hb⟩
        have c_160 := (hb.cell (p := ⟨w.heap.size, 0, none⟩) s_141).trans c_138
        have c_161 := (hb.cell (p := ⟨w.heap.size, 1, none⟩) s_141).trans c_139
        have c_162 := (hb.cell (p := ⟨w.heap.size, 2, none⟩) s_141).trans c_140
        have s_163 : w.heap.size < w15.heap.size := Nat.lt_of_lt_of_le s_141 hb.size
        have c_164 := (hb.cell (p := ⟨w.heap.size + 1, 0, none⟩) s_144).trans c_142
        have c_165 := (hb.cell (p := ⟨w.heap.size + 1, 1, none⟩) s_144).trans c_143
        have s_166 : w.heap.size + 1 < w15.heap.size := Nat.lt_of_lt_of_le s_144 hb.size
        have c_167 := (hb.cell (p := ⟨gw, 0, none⟩) s_148).trans c_145
        have c_168 := (hb.cell (p := ⟨gw, 1, none⟩) s_148).trans c_146
        have c_169 := (hb.cell (p := ⟨gw, 2, none⟩) s_148).trans c_147
        have s_170 : gw < w15.heap.size := Nat.lt_of_lt_of_le s_148 hb.size
        have c_171 := (hb.cell (p := ⟨w9.heap.size, 0, none⟩) s_152).trans c_149
        have c_172 := (hb.cell (p := ⟨w9.heap.size, 1, none⟩) s_152).trans c_150
        have c_173 := (hb.cell (p := ⟨w9.heap.size, 2, none⟩) s_152).trans c_151
        have s_174 : w9.heap.size < w15.heap.size := Nat.lt_of_lt_of_le s_152 hb.size
        have c_175 := (hb.cell (p := ⟨gg, 0, none⟩) s_156).trans c_153
        have c_176 := (hb.cell (p := ⟨gg, 1, none⟩) s_156).trans c_154
        have c_177 := (hb.cell (p := ⟨gg, 2, none⟩) s_156).trans c_155
        have s_178 : gg < w15.heap.size := Nat.lt_of_lt_of_le s_156 hb.size
        have H_179 := Lib.hid (H_157.out.below hb)
        have H_180 := Lib.hid (H_158.out.below hb)
        have HB := Lib.hid (HB.out.trans (hb.mono HB.out.size))
        have o_181 : w14.heap.size ≤ w15.heap.size := hb.size
        clear c_138 c_139 c_140 s_141 c_142 c_143 s_144 c_145 c_146 c_147 s_148 c_149 c_150 c_151 s_152 c_153 c_154 c_155 s_156
        clear hb
        go_wp2_with fail
        refine (markTxn_at _ rfl rfl H_180.out (k := 1) (by omega) (by omega)).mono ?_
        rintro e w16 ⟨rfl, hatm, hb⟩
        have Tm := Lib.hid hatm
        have c_182 := (hb.cellS (p := ⟨w.heap.size, 0, none⟩) s_163 (by show ¬ (_ ≤ w.heap.size ∧ w.heap.size < _); omega)).trans c_160
        have c_183 := (hb.cellS (p := ⟨w.heap.size, 1, none⟩) s_163 (by show ¬ (_ ≤ w.heap.size ∧ w.heap.size < _); omega)).trans c_161
        have c_184 := (hb.cellS (p := ⟨w.heap.size, 2, none⟩) s_163 (by show ¬ (_ ≤ w.heap.size ∧ w.heap.size < _); omega)).trans c_162
        have s_185 : w.heap.size < w16.heap.size := Nat.lt_of_lt_of_le s_163 hb.size
        have c_186 := (hb.cellS (p := ⟨w.heap.size + 1, 0, none⟩) s_166 (by show ¬ (_ ≤ w.heap.size + 1 ∧ w.heap.size + 1 < _); omega)).trans c_164
        have c_187 := (hb.cellS (p := ⟨w.heap.size + 1, 1, none⟩) s_166 (by show ¬ (_ ≤ w.heap.size + 1 ∧ w.heap.size + 1 < _); omega)).trans c_165
        have s_188 : w.heap.size + 1 < w16.heap.size := Nat.lt_of_lt_of_le s_166 hb.size
        have c_189 := (hb.cellS (p := ⟨gw, 0, none⟩) s_170 (by show ¬ (_ ≤ gw ∧ gw < _); omega)).trans c_167
        have c_190 := (hb.cellS (p := ⟨gw, 1, none⟩) s_170 (by show ¬ (_ ≤ gw ∧ gw < _); omega)).trans c_168
        have c_191 := (hb.cellS (p := ⟨gw, 2, none⟩) s_170 (by show ¬ (_ ≤ gw ∧ gw < _); omega)).trans c_169
        have s_192 : gw < w16.heap.size := Nat.lt_of_lt_of_le s_170 hb.size
        have c_193 := (hb.cellS (p := ⟨w9.heap.size, 0, none⟩) s_174 (by show ¬ (_ ≤ w9.heap.size ∧ w9.heap.size < _); omega)).trans c_171
        have c_194 := (hb.cellS (p := ⟨w9.heap.size, 1, none⟩) s_174 (by show ¬ (_ ≤ w9.heap.size ∧ w9.heap.size < _); omega)).trans c_172
        have c_195 := (hb.cellS (p := ⟨w9.heap.size, 2, none⟩) s_174 (by show ¬ (_ ≤ w9.heap.size ∧ w9.heap.size < _); omega)).trans c_173
        have s_196 : w9.heap.size < w16.heap.size := Nat.lt_of_lt_of_le s_174 hb.size
        have c_197 := (hb.cellS (p := ⟨gg, 0, none⟩) s_178 (by show ¬ (_ ≤ gg ∧ gg < _); omega)).trans c_175
        have c_198 := (hb.cellS (p := ⟨gg, 1, none⟩) s_178 (by show ¬ (_ ≤ gg ∧ gg < _); omega)).trans c_176
        have c_199 := (hb.cellS (p := ⟨gg, 2, none⟩) s_178 (by show ¬ (_ ≤ gg ∧ gg < _); omega)).trans c_177
        have s_200 : gg < w16.heap.size := Nat.lt_of_lt_of_le s_178 hb.size
        have H_201 := Lib.hid (H_179.out.turned (by intro b h1 h2; omega) hb)
        have HB := Lib.hid (step_turned HB.out hb (by omega) HB.out.size)
        have o_202 : w15.heap.size ≤ w16.heap.size := hb.size
        clear c_160 c_161 c_162 s_163 c_164 c_165 s_166 c_167 c_168 c_169 s_170 c_171 c_172 c_173 s_174 c_175 c_176 c_177 s_178
        clear hatm hb
        go_wp2_with fail
        refine (heldTxn_at _ Tm.out (by omega) (by omega)).mono ?_
        rintro e w17 ⟨rfl, hb⟩
        have c_203 := (hb.cell (p := ⟨w.heap.size, 0, none⟩) s_185).trans c_182
        have c_204 := (hb.cell (p := ⟨w.heap.size, 1, none⟩) s_185).trans c_183
        have c_205 := (hb.cell (p := ⟨w.heap.size, 2, none⟩) s_185).trans c_184
        have s_206 : w.heap.size < w17.heap.size := Nat.lt_of_lt_of_le s_185 hb.size
        have c_207 := (hb.cell (p := ⟨w.heap.size + 1, 0, none⟩) s_188).trans c_186
        have c_208 := (hb.cell (p := ⟨w.heap.size + 1, 1, none⟩) s_188).trans c_187
        have s_209 : w.heap.size + 1 < w17.heap.size := Nat.lt_of_lt_of_le s_188 hb.size
        have c_210 := (hb.cell (p := ⟨gw, 0, none⟩) s_192).trans c_189
        have c_211 := (hb.cell (p := ⟨gw, 1, none⟩) s_192).trans c_190
        have c_212 := (hb.cell (p := ⟨gw, 2, none⟩) s_192).trans c_191
        have s_213 : gw < w17.heap.size := Nat.lt_of_lt_of_le s_192 hb.size
        have c_214 := (hb.cell (p := ⟨w9.heap.size, 0, none⟩) s_196).trans c_193
        have c_215 := (hb.cell (p := ⟨w9.heap.size, 1, none⟩) s_196).trans c_194
        have c_216 := (hb.cell (p := ⟨w9.heap.size, 2, none⟩) s_196).trans c_195
        have s_217 : w9.heap.size < w17.heap.size := Nat.lt_of_lt_of_le s_196 hb.size
        have c_218 := (hb.cell (p := ⟨gg, 0, none⟩) s_200).trans c_197
        have c_219 := (hb.cell (p := ⟨gg, 1, none⟩) s_200).trans c_198
        have c_220 := (hb.cell (p := ⟨gg, 2, none⟩) s_200).trans c_199
        have s_221 : gg < w17.heap.size := Nat.lt_of_lt_of_le s_200 hb.size
        have H_222 := Lib.hid (H_201.out.below hb)
        have H_223 := Lib.hid (Tm.out.below hb)
        have HB := Lib.hid (HB.out.trans (hb.mono HB.out.size))
        have o_224 : w16.heap.size ≤ w17.heap.size := hb.size
        clear c_182 c_183 c_184 s_185 c_186 c_187 s_188 c_189 c_190 c_191 s_192 c_193 c_194 c_195 s_196 c_197 c_198 c_199 s_200
        clear hb
        go_upto_region 27 with fail
        go_cut [12] from 13 (fun p u => ∃ id' ws' us', TxnCutRel id ws us lo hi id' ws' us' ∧ NewTx w17 id' ws' us' p u)
        case first =>
          have q : w17.cell? ⟨w.heap.size, 0, none⟩ = some (.int .i64 id) ∧ w17.cell? ⟨w.heap.size, 1, none⟩ = some (.slice a1 ws.length k1) ∧ w17.cell? ⟨w.heap.size, 2, none⟩ = some (.slice a2 us.length k2) ∧ w17.cell? ⟨w.heap.size + 1, 0, none⟩ = some (.string lo) ∧ w17.cell? ⟨w.heap.size + 1, 1, none⟩ = some (.string hi) ∧ Kp w17 (w.heap.size) (w.heap.size + 1) w17 := ⟨c_203, c_204, c_205, c_207, c_208, s_206, s_209, Below.refl _ _⟩
          have hn1 : w.heap.size < w17.heap.size := s_206
          have hn2 : w.heap.size + 1 < w17.heap.size := s_209
          go_region_held3 (fun u => u.cell? ⟨w.heap.size, 0, none⟩ = some (.int .i64 id) ∧ u.cell? ⟨w.heap.size, 1, none⟩ = some (.slice a1 ws.length k1) ∧ u.cell? ⟨w.heap.size, 2, none⟩ = some (.slice a2 us.length k2) ∧ u.cell? ⟨w.heap.size + 1, 0, none⟩ = some (.string lo) ∧ u.cell? ⟨w.heap.size + 1, 1, none⟩ = some (.string hi) ∧ Kp w17 (w.heap.size) (w.heap.size + 1) u)
            (first | with_reducible exact q | with_reducible exact keep32 ((Below.refl _ _).drew) q | with_reducible exact keep32 ((Below.refl _ _).alloc (Nat.le_refl _) _) q | with_reducible exact keep32 (((Below.refl _ _).alloc (Nat.le_refl _) _).drew) q | with_reducible exact keep32_set q hn1 hn2 (by omega))
            (first
              | (go_at_call 41; refine (toTxn_at id a1 a2 ws us k1 k2 _ (HV.out.below ((keep32_kp (W := w17) (n1 := w.heap.size) (n2 := w.heap.size + 1) (x0 := .int .i64 id) (x1 := .slice a1 ws.length k1) (x2 := .slice a2 us.length k2) (y0 := .string lo) (y1 := .string hi) (by with_reducible assumption)).from_ HB.out)) (HU.out.below ((keep32_kp (W := w17) (n1 := w.heap.size) (n2 := w.heap.size + 1) (x0 := .int .i64 id) (x1 := .slice a1 ws.length k1) (x2 := .slice a2 us.length k2) (y0 := .string lo) (y1 := .string hi) (by with_reducible assumption)).from_ HB.out)) hL hM).mono ?_; rintro e wA ⟨aA, bA, cA, dA, rfl, hat, hb⟩; have q := keep32 (W := w17) (n1 := w.heap.size) (n2 := w.heap.size + 1) (x0 := .int .i64 id) (x1 := .slice a1 ws.length k1) (x2 := .slice a2 us.length k2) (y0 := .string lo) (y1 := .string hi) hb (by with_reducible assumption); (try ((first | with_reducible refine of_new3 hb ?_ | with_reducible refine of_new3D hb ?_ | with_reducible refine of_carry3 hb zn ?_); intro zn; have zn0 := zn.1; have zn1 := zn.2.1; have zn2 := zn.2.2.1; have zn3 := zn.2.2.2.1; have zn4 := zn.2.2.2.2.1; have zn5 := zn.2.2.2.2.2.1; have zn6 := zn.2.2.2.2.2.2)); have TA := Lib.hid hat; have szA := (keep32_kp q).size; clear hat hb)
              | (go_at_call 50; refine (toSpan_any lo hi _).mono ?_; rintro e wB ⟨rfl, hb⟩; have q := keep32 (W := w17) (n1 := w.heap.size) (n2 := w.heap.size + 1) (x0 := .int .i64 id) (x1 := .slice a1 ws.length k1) (x2 := .slice a2 us.length k2) (y0 := .string lo) (y1 := .string hi) hb (by with_reducible assumption); (try ((first | with_reducible refine of_new3 hb ?_ | with_reducible refine of_new3D hb ?_ | with_reducible refine of_carry3 hb zn ?_); intro zn; have zn0 := zn.1; have zn1 := zn.2.1; have zn2 := zn.2.2.1; have zn3 := zn.2.2.2.1; have zn4 := zn.2.2.2.2.1; have zn5 := zn.2.2.2.2.2.1; have zn6 := zn.2.2.2.2.2.2)); (try (first | (have TA := Lib.hid (TA.out.below hb)) | (have TA := Lib.hid ((TA.out.below ((Below.refl _ _).alloc (Nat.le_refl _) _)).below hb)))); have szB := (keep32_kp q).size; clear hb)
              | (go_at_call 51; (try have zl := zn.2.2.2.2.2.2); refine (txnCut_any id aA bA ws us cA dA lo hi _ (by first | with_reducible exact TA.out.in1 | with_reducible exact (TA.out.below ((Below.refl _ _).alloc (Nat.le_refl _) _)).in1) (by first | with_reducible exact TA.out.in2 | with_reducible exact (TA.out.below ((Below.refl _ _).alloc (Nat.le_refl _) _)).in2) HF.out HG.out hL hM HLo.out HHi.out).mono ?_; rintro e wC ⟨idC, wsC, usC, hR, aC, bC, cC, dC, rfl, hat, hb⟩; have q := keep32 (W := w17) (n1 := w.heap.size) (n2 := w.heap.size + 1) (x0 := .int .i64 id) (x1 := .slice a1 ws.length k1) (x2 := .slice a2 us.length k2) (y0 := .string lo) (y1 := .string hi) hb (by with_reducible assumption); (try ((first | with_reducible refine of_new3 hb ?_ | with_reducible refine of_new3D hb ?_ | with_reducible refine of_carry3 hb zn ?_); intro zn; have zn0 := zn.1; have zn1 := zn.2.1; have zn2 := zn.2.2.1; have zn3 := zn.2.2.2.1; have zn4 := zn.2.2.2.2.1; have zn5 := zn.2.2.2.2.2.1; have zn6 := zn.2.2.2.2.2.2)); have HR := Lib.hid hR; have TC := Lib.hid hat; have szC := (keep32_kp q).size; clear hR hat hb))
          all_goals (go_wp2_with fail; go_meet)
          all_goals
            refine ⟨idC, wsC, usC, HR.out, ?_⟩
            first | with_reducible exact newTx_A (keep32_kp q) TC.out (by first | omega | (simp; omega)) | with_reducible exact newTx_B (keep32_kp q) TC.out zn (by omega) (by first | omega | (simp; omega) | simp)
        case rest =>
          obtain ⟨id6, ws6, us6, hR, gh, lh, hh, ah, bh, ch, dh, rfl, hb, hg1, hg2, hg3, hg4, e0, e1, e2, hat⟩ := hcut
          have HRh := Lib.hid hR
          have Th := Lib.hid hat
          obtain ⟨w18, rfl⟩ : ∃ x, x = wc := ⟨_, rfl⟩
          have hih : hh ≤ w18.heap.size := hat.le
          have c_225 := (hb.cell (p := ⟨w.heap.size, 0, none⟩) s_206).trans c_203
          have c_226 := (hb.cell (p := ⟨w.heap.size, 1, none⟩) s_206).trans c_204
          have c_227 := (hb.cell (p := ⟨w.heap.size, 2, none⟩) s_206).trans c_205
          have s_228 : w.heap.size < w18.heap.size := Nat.lt_of_lt_of_le s_206 hb.size
          have c_229 := (hb.cell (p := ⟨w.heap.size + 1, 0, none⟩) s_209).trans c_207
          have c_230 := (hb.cell (p := ⟨w.heap.size + 1, 1, none⟩) s_209).trans c_208
          have s_231 : w.heap.size + 1 < w18.heap.size := Nat.lt_of_lt_of_le s_209 hb.size
          have c_232 := (hb.cell (p := ⟨gw, 0, none⟩) s_213).trans c_210
          have c_233 := (hb.cell (p := ⟨gw, 1, none⟩) s_213).trans c_211
          have c_234 := (hb.cell (p := ⟨gw, 2, none⟩) s_213).trans c_212
          have s_235 : gw < w18.heap.size := Nat.lt_of_lt_of_le s_213 hb.size
          have c_236 := (hb.cell (p := ⟨w9.heap.size, 0, none⟩) s_217).trans c_214
          have c_237 := (hb.cell (p := ⟨w9.heap.size, 1, none⟩) s_217).trans c_215
          have c_238 := (hb.cell (p := ⟨w9.heap.size, 2, none⟩) s_217).trans c_216
          have s_239 : w9.heap.size < w18.heap.size := Nat.lt_of_lt_of_le s_217 hb.size
          have c_240 := (hb.cell (p := ⟨gg, 0, none⟩) s_221).trans c_218
          have c_241 := (hb.cell (p := ⟨gg, 1, none⟩) s_221).trans c_219
          have c_242 := (hb.cell (p := ⟨gg, 2, none⟩) s_221).trans c_220
          have s_243 : gg < w18.heap.size := Nat.lt_of_lt_of_le s_221 hb.size
          have H_244 := Lib.hid (H_222.out.below hb)
          have H_245 := Lib.hid (H_223.out.below hb)
          have HB := Lib.hid (HB.out.trans (hb.mono HB.out.size))
          have o_246 : w17.heap.size ≤ w18.heap.size := hb.size
          clear c_203 c_204 c_205 s_206 c_207 c_208 s_209 c_210 c_211 c_212 s_213 c_214 c_215 c_216 s_217 c_218 c_219 c_220 s_221
          have c_247 := e0
          have c_248 := e1
          have c_249 := e2
          have s_250 := hg2
          have k_251 : gh < w18.heap.size := hg2
          have m_252 := hg1
          have m_253 := hg3
          have m_254 := hg4
          clear hR hb hat e0 e1 e2 hg1 hg2 hg3 hg4
          obtain ⟨rfl, rfl, rfl⟩ := TxnCutRel_unique HRh.out HRg.out
          go_wp2_with fail
          refine (eqTxn_at _ Th.out H_244.out (by unfold maxLen; omega) (by unfold maxLen; omega)).mono ?_
          rintro e w19 ⟨rfl, hb⟩
          have c_255 := (hb.cell (p := ⟨w.heap.size, 0, none⟩) s_228).trans c_225
          have c_256 := (hb.cell (p := ⟨w.heap.size, 1, none⟩) s_228).trans c_226
          have c_257 := (hb.cell (p := ⟨w.heap.size, 2, none⟩) s_228).trans c_227
          have s_258 : w.heap.size < w19.heap.size := Nat.lt_of_lt_of_le s_228 hb.size
          have c_259 := (hb.cell (p := ⟨w.heap.size + 1, 0, none⟩) s_231).trans c_229
          have c_260 := (hb.cell (p := ⟨w.heap.size + 1, 1, none⟩) s_231).trans c_230
          have s_261 : w.heap.size + 1 < w19.heap.size := Nat.lt_of_lt_of_le s_231 hb.size
          have c_262 := (hb.cell (p := ⟨gw, 0, none⟩) s_235).trans c_232
          have c_263 := (hb.cell (p := ⟨gw, 1, none⟩) s_235).trans c_233
          have c_264 := (hb.cell (p := ⟨gw, 2, none⟩) s_235).trans c_234
          have s_265 : gw < w19.heap.size := Nat.lt_of_lt_of_le s_235 hb.size
          have c_266 := (hb.cell (p := ⟨w9.heap.size, 0, none⟩) s_239).trans c_236
          have c_267 := (hb.cell (p := ⟨w9.heap.size, 1, none⟩) s_239).trans c_237
          have c_268 := (hb.cell (p := ⟨w9.heap.size, 2, none⟩) s_239).trans c_238
          have s_269 : w9.heap.size < w19.heap.size := Nat.lt_of_lt_of_le s_239 hb.size
          have c_270 := (hb.cell (p := ⟨gg, 0, none⟩) s_243).trans c_240
          have c_271 := (hb.cell (p := ⟨gg, 1, none⟩) s_243).trans c_241
          have c_272 := (hb.cell (p := ⟨gg, 2, none⟩) s_243).trans c_242
          have s_273 : gg < w19.heap.size := Nat.lt_of_lt_of_le s_243 hb.size
          have c_274 := (hb.cell (p := ⟨gh, 0, none⟩) s_250).trans c_247
          have c_275 := (hb.cell (p := ⟨gh, 1, none⟩) s_250).trans c_248
          have c_276 := (hb.cell (p := ⟨gh, 2, none⟩) s_250).trans c_249
          have s_277 : gh < w19.heap.size := Nat.lt_of_lt_of_le s_250 hb.size
          have H_278 := Lib.hid (H_244.out.below hb)
          have H_279 := Lib.hid (H_245.out.below hb)
          have H_280 := Lib.hid (Th.out.below hb)
          have HB := Lib.hid (HB.out.trans (hb.mono HB.out.size))
          have o_281 : w18.heap.size ≤ w19.heap.size := hb.size
          clear c_225 c_226 c_227 s_228 c_229 c_230 s_231 c_232 c_233 c_234 s_235 c_236 c_237 c_238 s_239 c_240 c_241 c_242 s_243 c_247 c_248 c_249 s_250
          clear hb
          go_wp2_with fail
          refine (heldTxn_at _ H_279.out (by omega) (by omega)).mono ?_
          rintro e w20 ⟨rfl, hb⟩
          have c_282 := (hb.cell (p := ⟨w.heap.size, 0, none⟩) s_258).trans c_255
          have c_283 := (hb.cell (p := ⟨w.heap.size, 1, none⟩) s_258).trans c_256
          have c_284 := (hb.cell (p := ⟨w.heap.size, 2, none⟩) s_258).trans c_257
          have s_285 : w.heap.size < w20.heap.size := Nat.lt_of_lt_of_le s_258 hb.size
          have c_286 := (hb.cell (p := ⟨w.heap.size + 1, 0, none⟩) s_261).trans c_259
          have c_287 := (hb.cell (p := ⟨w.heap.size + 1, 1, none⟩) s_261).trans c_260
          have s_288 : w.heap.size + 1 < w20.heap.size := Nat.lt_of_lt_of_le s_261 hb.size
          have c_289 := (hb.cell (p := ⟨gw, 0, none⟩) s_265).trans c_262
          have c_290 := (hb.cell (p := ⟨gw, 1, none⟩) s_265).trans c_263
          have c_291 := (hb.cell (p := ⟨gw, 2, none⟩) s_265).trans c_264
          have s_292 : gw < w20.heap.size := Nat.lt_of_lt_of_le s_265 hb.size
          have c_293 := (hb.cell (p := ⟨w9.heap.size, 0, none⟩) s_269).trans c_266
          have c_294 := (hb.cell (p := ⟨w9.heap.size, 1, none⟩) s_269).trans c_267
          have c_295 := (hb.cell (p := ⟨w9.heap.size, 2, none⟩) s_269).trans c_268
          have s_296 : w9.heap.size < w20.heap.size := Nat.lt_of_lt_of_le s_269 hb.size
          have c_297 := (hb.cell (p := ⟨gg, 0, none⟩) s_273).trans c_270
          have c_298 := (hb.cell (p := ⟨gg, 1, none⟩) s_273).trans c_271
          have c_299 := (hb.cell (p := ⟨gg, 2, none⟩) s_273).trans c_272
          have s_300 : gg < w20.heap.size := Nat.lt_of_lt_of_le s_273 hb.size
          have c_301 := (hb.cell (p := ⟨gh, 0, none⟩) s_277).trans c_274
          have c_302 := (hb.cell (p := ⟨gh, 1, none⟩) s_277).trans c_275
          have c_303 := (hb.cell (p := ⟨gh, 2, none⟩) s_277).trans c_276
          have s_304 : gh < w20.heap.size := Nat.lt_of_lt_of_le s_277 hb.size
          have H_305 := Lib.hid (H_278.out.below hb)
          have H_306 := Lib.hid (H_279.out.below hb)
          have H_307 := Lib.hid (H_280.out.below hb)
          have HB := Lib.hid (HB.out.trans (hb.mono HB.out.size))
          have o_308 : w19.heap.size ≤ w20.heap.size := hb.size
          clear c_255 c_256 c_257 s_258 c_259 c_260 s_261 c_262 c_263 c_264 s_265 c_266 c_267 c_268 s_269 c_270 c_271 c_272 s_273 c_274 c_275 c_276 s_277
          clear hb
          go_wp2_with fail
          go_ret
          exact ⟨rfl, HB.out⟩
end Go.Proofs.Ytncipibjlpfkhaa
