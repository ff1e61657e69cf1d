/- The law of VmapCut, walked. -/
import Derived.Test.YtmabffdocofijaaLawV
import Derived.Test.YtmabffdocofijaaVCutS
import Derived.Test.YtmabffdocofijaaVCutI
namespace Go.Proofs.Ytmabffdocofijaa
open Go.RowKit

theorem specVmapCut_at {lo_ hi_ : Nat} {a : Option Addr} {cs os : List ObjD} {c : Nat} {lo hi : ByteArray} {w : World} (h : VmAt w lo_ hi_ a cs) (e : cs.map ObjD.kv = os.map ObjD.kv) (hA : ArgOk os) (hlo : lo.size ≤ maxLen) (hhi : hi.size ≤ maxLen) :
    Calls Try.prog 17 #[.agg #[.slice a cs.length c], .agg #[.string lo, .string hi]] w (VmOut (cutF lo hi (os.map ObjD.kv)) w) := by
  obtain ⟨h1, h2, h3, _⟩ := hA.same e
  rw [← e]; exact specVmapCut_any a cs c lo hi w h.in1 h1 h.pl h2 h3 hlo hhi
theorem vmapCut_at {lo_ hi_ : Nat} {a : Option Addr} {cs os : List ObjD} {c : Nat} {lo hi : ByteArray} {w : World} (h : VmAt w lo_ hi_ a cs) (e : cs.map ObjD.kv = os.map ObjD.kv) (hA : ArgOk os) (hlo : lo.size ≤ maxLen) (hhi : hi.size ≤ maxLen) :
    Calls Try.prog 20 #[.agg #[.slice a cs.length c], .agg #[.string lo, .string hi]] w (VmOut (cutF lo hi (os.map ObjD.kv)) w) := by
  obtain ⟨h1, h2, h3, _⟩ := hA.same e
  rw [← e]; exact vmapCut_any a cs c lo hi w h.in1 h1 h.pl h2 h3 hlo hhi

set_option maxRecDepth 100000 in
set_option maxHeartbeats 8000000 in
theorem vmapCut_law (a : Option Addr) (os : List ObjD) (cap : Nat) (lo hi : ByteArray) (w : World) (hv : ObjsIn w a os) (hf : ∀ o ∈ os, o.fits) (hn : os.length ≤ maxLen) (hlo : lo.size ≤ maxLen) (hhi : hi.size ≤ maxLen) :
    Calls Try.prog 3 #[.agg #[.slice a os.length cap], .agg #[.string lo, .string hi]] w fun e w' => e = .returned (.bool true) ∧ Below w.heap.size w w' := by
  have HV := Lib.hid hv
  have HF := Lib.hid hf
  have HN := Lib.hid hn
  have HLo := Lib.hid hlo
  have HHi := Lib.hid hhi
  clear hv hf hn hlo hhi
  obtain ⟨W0, hW0⟩ : ∃ W0, (w.alloc (.cells #[.slice a os.length cap] 24)).alloc (.cells #[.string lo, .string hi] 26) = W0 := ⟨_, rfl⟩
  have HB : Below w.heap.size w W0 := by rw [← hW0]; exact ((Below.refl _ _).alloc (Nat.le_refl _) _).alloc (by simp) _
  have xa0 : W0.cell? ⟨w.heap.size, 0, none⟩ = some (.slice a os.length cap) := by rw [← hW0]; simp [go_sem]
  have xb0 : W0.cell? ⟨w.heap.size + 1, 0, none⟩ = some (.string lo) := by rw [← hW0]; simp [go_sem]
  have xb1 : W0.cell? ⟨w.heap.size + 1, 1, none⟩ = some (.string hi) := by rw [← hW0]; simp [go_sem]
  have sb : w.heap.size + 1 < W0.heap.size := by rw [← hW0]; simp
  have sa : w.heap.size < W0.heap.size := by omega
  have kb : w.heap.size + 1 < W0.heap.size := sb
  have HB := Lib.hid HB
  go_enter Try.func3, Try.ntmps3
  go_wp2_with fail
  clear hW0
  refine (szVmap_any a os cap _ _ (HV.out.below HB.out) HF.out HN.out (by omega) (by omega)).mono ?_
  rintro e w1 ⟨z, rfl, hz, hb⟩
  have c_1 := (hb.cell (p := ⟨w.heap.size, 0, none⟩) sa).trans xa0
  have s_2 : w.heap.size < w1.heap.size := Nat.lt_of_lt_of_le sa hb.size
  have c_3 := (hb.cell (p := ⟨w.heap.size + 1, 0, none⟩) sb).trans xb0
  have c_4 := (hb.cell (p := ⟨w.heap.size + 1, 1, none⟩) sb).trans xb1
  have s_5 : w.heap.size + 1 < w1.heap.size := Nat.lt_of_lt_of_le sb hb.size
  have HB := Lib.hid (HB.out.trans (hb.mono HB.out.size))
  have o_6 : W0.heap.size ≤ w1.heap.size := hb.size
  clear xa0 sa xb0 xb1 sb
  clear hb
  rcases hz with rfl | ⟨hz, hsum⟩
  · go_wp2_with fail
    go_ret
    exact ⟨rfl, HB.out⟩
  have HA := Lib.hid (argOk_of HF.out (by omega))
  have hzl : z ≤ 1048576 := by omega
  clear hsum
  go_wp2_with fail
  refine (szSpan_any lo hi z _ HLo.out HHi.out hz hzl).mono ?_
  rintro e w2 ⟨rfl, hb⟩
  have c_7 := (hb.cell (p := ⟨w.heap.size, 0, none⟩) s_2).trans c_1
  have s_8 : w.heap.size < w2.heap.size := Nat.lt_of_lt_of_le s_2 hb.size
  have c_9 := (hb.cell (p := ⟨w.heap.size + 1, 0, none⟩) s_5).trans c_3
  have c_10 := (hb.cell (p := ⟨w.heap.size + 1, 1, none⟩) s_5).trans c_4
  have s_11 : w.heap.size + 1 < w2.heap.size := Nat.lt_of_lt_of_le s_5 hb.size
  have HB := Lib.hid (HB.out.trans (hb.mono HB.out.size))
  have o_12 : w1.heap.size ≤ w2.heap.size := hb.size
  clear c_1 s_2 c_3 c_4 s_5
  clear hb
  by_cases hneg : szSpanZ lo hi z < 0
  · go_wp2_with fail
    go_ret
    exact ⟨rfl, HB.out⟩
  have HK := Lib.hid (Nat.le_trans (cutF_off lo hi (os.map ObjD.kv)) HA.out.2.2.2)
  have HKF := Lib.hid (cutF_fits (lo := lo) (hi := hi) (kvFits_of HA.out.1))
  go_upto_region 8 with fail
  go_cut [6] from 13 (fun p u => NewVm w2 (cutF lo hi (os.map ObjD.kv)) p u)
  case first =>
    have q : w2.cell? ⟨w.heap.size, 0, none⟩ = some (.slice a os.length cap) ∧ w2.cell? ⟨w.heap.size + 1, 0, none⟩ = some (.string lo) ∧ w2.cell? ⟨w.heap.size + 1, 1, none⟩ = some (.string hi) ∧ Kp w2 (w.heap.size) (w.heap.size + 1) w2 := ⟨c_7, c_9, c_10, s_8, s_11, Below.refl _ _⟩
    have hn1 : w.heap.size < w2.heap.size := s_8
    have hn2 : w.heap.size + 1 < w2.heap.size := s_11
    go_region_held3 (fun u => u.cell? ⟨w.heap.size, 0, none⟩ = some (.slice a os.length cap) ∧ u.cell? ⟨w.heap.size + 1, 0, none⟩ = some (.string lo) ∧ u.cell? ⟨w.heap.size + 1, 1, none⟩ = some (.string hi) ∧ Kp w2 (w.heap.size) (w.heap.size + 1) u)
      (first | with_reducible exact q | with_reducible exact keep12 ((Below.refl _ _).drew) q | with_reducible exact keep12 ((Below.refl _ _).alloc (Nat.le_refl _) _) q | with_reducible exact keep12 (((Below.refl _ _).alloc (Nat.le_refl _) _).drew) q | with_reducible exact keep12_set q hn1 hn2 (by omega))
      (first
        | (go_at_call 18; refine (toVmap_at a os cap _ (HV.out.below ((keep12_kp (W := w2) (n1 := w.heap.size) (n2 := w.heap.size + 1) (x0 := .slice a os.length cap) (y0 := .string lo) (y1 := .string hi) (by with_reducible assumption)).from_ HB.out)) HA.out.2.1 HA.out.2.2.1).mono ?_; rintro e wA ⟨aA, csA, cA, hkA, rfl, hat, hb⟩; have q := keep12 (W := w2) (n1 := w.heap.size) (n2 := w.heap.size + 1) (x0 := .slice a os.length cap) (y0 := .string lo) (y1 := .string hi) hb (by with_reducible assumption); (try ((first | with_reducible refine of_new1 hb ?_ | with_reducible refine of_new1D hb ?_ | with_reducible refine of_carry1 hb zn ?_); intro zn; have zn0 := zn.1; have zn1 := zn.2.1; have zn2 := zn.2.2)); have TA := Lib.hid hat; have EA := Lib.hid hkA; have szA := (keep12_kp q).size; clear hat hb hkA)
        | (go_at_call 19; refine (toSpan_any lo hi _).mono ?_; rintro e wB ⟨rfl, hb⟩; have q := keep12 (W := w2) (n1 := w.heap.size) (n2 := w.heap.size + 1) (x0 := .slice a os.length cap) (y0 := .string lo) (y1 := .string hi) hb (by with_reducible assumption); (try ((first | with_reducible refine of_new1 hb ?_ | with_reducible refine of_new1D hb ?_ | with_reducible refine of_carry1 hb zn ?_); intro zn; have zn0 := zn.1; have zn1 := zn.2.1; have zn2 := zn.2.2)); (try (first | (have TA := Lib.hid (TA.out.below hb)) | (have TA := Lib.hid ((TA.out.below ((Below.refl _ _).alloc (Nat.le_refl _) _)).below hb)))); have szB := (keep12_kp q).size; clear hb)
        | (go_at_call 17; (try have zl := zn.2.2); refine (specVmapCut_at (by first | with_reducible exact TA.out | with_reducible exact (TA.out.below ((Below.refl _ _).alloc (Nat.le_refl _) _))) EA.out HA.out HLo.out HHi.out).mono ?_; rintro e wC ⟨aC, csC, cC, hkC, rfl, hat, hb⟩; have q := keep12 (W := w2) (n1 := w.heap.size) (n2 := w.heap.size + 1) (x0 := .slice a os.length cap) (y0 := .string lo) (y1 := .string hi) hb (by with_reducible assumption); (try ((first | with_reducible refine of_new1 hb ?_ | with_reducible refine of_new1D hb ?_ | with_reducible refine of_carry1 hb zn ?_); intro zn; have zn0 := zn.1; have zn1 := zn.2.1; have zn2 := zn.2.2)); have EC := Lib.hid hkC; have TC := Lib.hid hat; have szC := (keep12_kp q).size; clear hkC hat hb))
    all_goals (go_wp2_with fail; go_meet)
    all_goals
      first | with_reducible exact newVm_A (keep12_kp q) EC.out TC.out (by first | omega | (simp; omega)) | with_reducible exact newVm_B (keep12_kp q) EC.out TC.out zn (by omega) (by first | omega | (simp; omega) | simp)
  case rest =>
    obtain ⟨gw, lw, hw, aw, csw, cw, rfl, hb, hg1, hg2, hg3, hg4, e0, hkv, hat⟩ := hcut
    have Ew := Lib.hid hkv
    have Tw := Lib.hid hat
    obtain ⟨w8, rfl⟩ : ∃ x, x = wc := ⟨_, rfl⟩
    have hiw : hw ≤ w8.heap.size := hat.le
    have c_13 := (hb.cell (p := ⟨w.heap.size, 0, none⟩) s_8).trans c_7
    have s_14 : w.heap.size < w8.heap.size := Nat.lt_of_lt_of_le s_8 hb.size
    have c_15 := (hb.cell (p := ⟨w.heap.size + 1, 0, none⟩) s_11).trans c_9
    have c_16 := (hb.cell (p := ⟨w.heap.size + 1, 1, none⟩) s_11).trans c_10
    have s_17 : w.heap.size + 1 < w8.heap.size := Nat.lt_of_lt_of_le s_11 hb.size
    have HB := Lib.hid (HB.out.trans (hb.mono HB.out.size))
    have o_18 : w2.heap.size ≤ w8.heap.size := hb.size
    clear c_7 s_8 c_9 c_10 s_11
    have c_19 := e0
    have s_20 := hg2
    have k_21 : gw < w8.heap.size := hg2
    have m_22 := hg1
    have m_23 := hg3
    have m_24 := hg4
    clear hkv hb hat e0 hg1 hg2 hg3 hg4
    go_upto_region 10 with (go_at_call 18; refine (toVmap_at a os cap _ (HV.out.below HB.out) HA.out.2.1 HA.out.2.2.1).mono ?_; rintro e w9 ⟨ax, csx, cx, hkx, rfl, hat, hb⟩; have P9 := Lib.hid (And.intro hkx (And.intro hat hb)); clear hat hb hkx)
    obtain ⟨hkx, hat, hb⟩ := P9.out
    have hx := Lib.hid hat
    have Ex := Lib.hid hkx
    have c_25 := (hb.cell (p := ⟨w.heap.size, 0, none⟩) s_14).trans c_13
    have s_26 : w.heap.size < w9.heap.size := Nat.lt_of_lt_of_le s_14 hb.size
    have c_27 := (hb.cell (p := ⟨w.heap.size + 1, 0, none⟩) s_17).trans c_15
    have c_28 := (hb.cell (p := ⟨w.heap.size + 1, 1, none⟩) s_17).trans c_16
    have s_29 : w.heap.size + 1 < w9.heap.size := Nat.lt_of_lt_of_le s_17 hb.size
    have c_30 := (hb.cell (p := ⟨gw, 0, none⟩) s_20).trans c_19
    have s_31 : gw < w9.heap.size := Nat.lt_of_lt_of_le s_20 hb.size
    have H_32 := Lib.hid (Tw.out.below hb)
    have HB := Lib.hid (HB.out.trans (hb.mono HB.out.size))
    have o_33 : w8.heap.size ≤ w9.heap.size := hb.size
    clear c_13 s_14 c_15 c_16 s_17 c_19 s_20
    clear hat hb hkx P9
    obtain ⟨V_34, hV_34⟩ : ∃ V_34, w9.alloc (.cells #[.slice ax csx.length cx] 31) = V_34 := ⟨_, rfl⟩
    have bV_34 : Below w9.heap.size w9 V_34 := by rw [← hV_34]; exact (Below.refl _ _).alloc (Nat.le_refl _) _
    have c_35 : V_34.cell? ⟨w9.heap.size, 0, none⟩ = some (.slice ax csx.length cx) := by rw [← hV_34]; simp [go_sem]
    have s_36 : w9.heap.size < V_34.heap.size := by rw [← hV_34]; simp
    have k_37 : w9.heap.size < V_34.heap.size := s_36
    have c_38 := (bV_34.cell (p := ⟨w.heap.size, 0, none⟩) s_26).trans c_25
    have s_39 : w.heap.size < V_34.heap.size := Nat.lt_of_lt_of_le s_26 bV_34.size
    have c_40 := (bV_34.cell (p := ⟨w.heap.size + 1, 0, none⟩) s_29).trans c_27
    have c_41 := (bV_34.cell (p := ⟨w.heap.size + 1, 1, none⟩) s_29).trans c_28
    have s_42 : w.heap.size + 1 < V_34.heap.size := Nat.lt_of_lt_of_le s_29 bV_34.size
    have c_43 := (bV_34.cell (p := ⟨gw, 0, none⟩) s_31).trans c_30
    have s_44 : gw < V_34.heap.size := Nat.lt_of_lt_of_le s_31 bV_34.size
    have H_45 := Lib.hid (H_32.out.below bV_34)
    have H_46 := Lib.hid (hx.out.below bV_34)
    have HB := Lib.hid (HB.out.trans (bV_34.mono HB.out.size))
    have o_47 : w9.heap.size ≤ V_34.heap.size := bV_34.size
    clear c_25 s_26 c_27 c_28 s_29 c_30 s_31
    clear bV_34
    rw [hV_34]
    clear hV_34
    go_upto_region 10 with fail
    go_cut [8] from 13 (fun p u => NewVm V_34 (cutF lo hi (os.map ObjD.kv)) p u)
    case first =>
      have q : V_34.cell? ⟨w9.heap.size, 0, none⟩ = some (.slice ax csx.length cx) ∧ V_34.cell? ⟨w.heap.size + 1, 0, none⟩ = some (.string lo) ∧ V_34.cell? ⟨w.heap.size + 1, 1, none⟩ = some (.string hi) ∧ Kp V_34 (w9.heap.size) (w.heap.size + 1) V_34 := ⟨c_35, c_40, c_41, s_36, s_42, Below.refl _ _⟩
      have hn1 : w9.heap.size < V_34.heap.size := s_36
      have hn2 : w.heap.size + 1 < V_34.heap.size := s_42
      go_region_held3 (fun u => u.cell? ⟨w9.heap.size, 0, none⟩ = some (.slice ax csx.length cx) ∧ u.cell? ⟨w.heap.size + 1, 0, none⟩ = some (.string lo) ∧ u.cell? ⟨w.heap.size + 1, 1, none⟩ = some (.string hi) ∧ Kp V_34 (w9.heap.size) (w.heap.size + 1) u)
        (first | with_reducible exact q | with_reducible exact keep12 ((Below.refl _ _).drew) q | with_reducible exact keep12 ((Below.refl _ _).alloc (Nat.le_refl _) _) q | with_reducible exact keep12 (((Below.refl _ _).alloc (Nat.le_refl _) _).drew) q | with_reducible exact keep12_set q hn1 hn2 (by omega))
        (first
          | (go_at_call 19; refine (toSpan_any lo hi _).mono ?_; rintro e wB ⟨rfl, hb⟩; have q := keep12 (W := V_34) (n1 := w9.heap.size) (n2 := w.heap.size + 1) (x0 := .slice ax csx.length cx) (y0 := .string lo) (y1 := .string hi) hb (by with_reducible assumption); (try ((first | with_reducible refine of_new1 hb ?_ | with_reducible refine of_new1D hb ?_ | with_reducible refine of_carry1 hb zn ?_); intro zn; have zn0 := zn.1; have zn1 := zn.2.1; have zn2 := zn.2.2)); (try (first | (have TA := Lib.hid (TA.out.below hb)) | (have TA := Lib.hid ((TA.out.below ((Below.refl _ _).alloc (Nat.le_refl _) _)).below hb)))); have szB := (keep12_kp q).size; clear hb)
          | (go_at_call 20; (try have zl := zn.2.2); refine (vmapCut_at (H_46.out.below (keep12_kp (W := V_34) (n1 := w9.heap.size) (n2 := w.heap.size + 1) (x0 := .slice ax csx.length cx) (y0 := .string lo) (y1 := .string hi) (by with_reducible assumption)).2.2) Ex.out HA.out HLo.out HHi.out).mono ?_; rintro e wC ⟨aC, csC, cC, hkC, rfl, hat, hb⟩; have q := keep12 (W := V_34) (n1 := w9.heap.size) (n2 := w.heap.size + 1) (x0 := .slice ax csx.length cx) (y0 := .string lo) (y1 := .string hi) hb (by with_reducible assumption); (try ((first | with_reducible refine of_new1 hb ?_ | with_reducible refine of_new1D hb ?_ | with_reducible refine of_carry1 hb zn ?_); intro zn; have zn0 := zn.1; have zn1 := zn.2.1; have zn2 := zn.2.2)); have EC := Lib.hid hkC; have TC := Lib.hid hat; have szC := (keep12_kp q).size; clear hkC hat hb))
      all_goals (go_wp2_with fail; go_meet)
      all_goals
        first | with_reducible exact newVm_A (keep12_kp q) EC.out TC.out (by first | omega | (simp; omega)) | with_reducible exact newVm_B (keep12_kp q) EC.out TC.out zn (by omega) (by first | omega | (simp; omega) | simp)
    case rest =>
      obtain ⟨gg, lg, hg, ag, csg, cg, rfl, hb, hg1, hg2, hg3, hg4, e0, hkv, hat⟩ := hcut
      have Eg := Lib.hid hkv
      have Tg := Lib.hid hat
      obtain ⟨w10, rfl⟩ : ∃ x, x = wc := ⟨_, rfl⟩
      have hig : hg ≤ w10.heap.size := hat.le
      have c_48 := (hb.cell (p := ⟨w.heap.size, 0, none⟩) s_39).trans c_38
      have s_49 : w.heap.size < w10.heap.size := Nat.lt_of_lt_of_le s_39 hb.size
      have c_50 := (hb.cell (p := ⟨w.heap.size + 1, 0, none⟩) s_42).trans c_40
      have c_51 := (hb.cell (p := ⟨w.heap.size + 1, 1, none⟩) s_42).trans c_41
      have s_52 : w.heap.size + 1 < w10.heap.size := Nat.lt_of_lt_of_le s_42 hb.size
      have c_53 := (hb.cell (p := ⟨gw, 0, none⟩) s_44).trans c_43
      have s_54 : gw < w10.heap.size := Nat.lt_of_lt_of_le s_44 hb.size
      have c_55 := (hb.cell (p := ⟨w9.heap.size, 0, none⟩) s_36).trans c_35
      have s_56 : w9.heap.size < w10.heap.size := Nat.lt_of_lt_of_le s_36 hb.size
      have H_57 := Lib.hid (H_45.out.below hb)
      have H_58 := Lib.hid (H_46.out.below hb)
      have HB := Lib.hid (HB.out.trans (hb.mono HB.out.size))
      have o_59 : V_34.heap.size ≤ w10.heap.size := hb.size
      clear c_38 s_39 c_40 c_41 s_42 c_43 s_44 c_35 s_36
      have c_60 := e0
      have s_61 := hg2
      have k_62 : gg < w10.heap.size := hg2
      have m_63 := hg1
      have m_64 := hg3
      have m_65 := hg4
      clear hkv hb hat e0 hg1 hg2 hg3 hg4
      have hOg : objOff csg csg.length ≤ 3145728 := by rw [off_of Eg.out]; exact HK.out
      have hOx : objOff csx csx.length ≤ 3145728 := by rw [off_of Ex.out]; exact HA.out.2.2.2
      go_wp2_with fail
      refine (eqVmap_at Tg.out H_57.out (Eg.out.trans Ew.out.symm) (fits_of_kv Eg.out HKF.out) (by have := objOff_ge csg; unfold maxLen; omega)).mono ?_
      rintro e w11 ⟨rfl, hb⟩
      have c_66 := (hb.cell (p := ⟨w.heap.size, 0, none⟩) s_49).trans c_48
      have s_67 : w.heap.size < w11.heap.size := Nat.lt_of_lt_of_le s_49 hb.size
      have c_68 := (hb.cell (p := ⟨w.heap.size + 1, 0, none⟩) s_52).trans c_50
      have c_69 := (hb.cell (p := ⟨w.heap.size + 1, 1, none⟩) s_52).trans c_51
      have s_70 : w.heap.size + 1 < w11.heap.size := Nat.lt_of_lt_of_le s_52 hb.size
      have c_71 := (hb.cell (p := ⟨gw, 0, none⟩) s_54).trans c_53
      have s_72 : gw < w11.heap.size := Nat.lt_of_lt_of_le s_54 hb.size
      have c_73 := (hb.cell (p := ⟨w9.heap.size, 0, none⟩) s_56).trans c_55
      have s_74 : w9.heap.size < w11.heap.size := Nat.lt_of_lt_of_le s_56 hb.size
      have c_75 := (hb.cell (p := ⟨gg, 0, none⟩) s_61).trans c_60
      have s_76 : gg < w11.heap.size := Nat.lt_of_lt_of_le s_61 hb.size
      have H_77 := Lib.hid (H_57.out.below hb)
      have H_78 := Lib.hid (H_58.out.below hb)
      have H_79 := Lib.hid (Tg.out.below hb)
      have HB := Lib.hid (HB.out.trans (hb.mono HB.out.size))
      have o_80 : w10.heap.size ≤ w11.heap.size := hb.size
      clear c_48 s_49 c_50 c_51 s_52 c_53 s_54 c_55 s_56 c_60 s_61
      clear hb
      go_upto_region 13 with fail
      go_cut [42] from 13 (fun p u => p = .bool false ∧ Below w11.heap.size w11 u)
      case first =>
        have q : w11.cell? ⟨w9.heap.size, 0, none⟩ = some (.slice ax csx.length cx) ∧ w11.cell? ⟨w.heap.size, 0, none⟩ = some (.slice a os.length cap) ∧ Kp w11 (w9.heap.size) (w.heap.size) w11 := ⟨c_73, c_66, s_74, s_67, Below.refl _ _⟩
        go_region_held3 (fun u => u.cell? ⟨w9.heap.size, 0, none⟩ = some (.slice ax csx.length cx) ∧ u.cell? ⟨w.heap.size, 0, none⟩ = some (.slice a os.length cap) ∧ Kp w11 (w9.heap.size) (w.heap.size) u)
          (first | with_reducible exact q | with_reducible exact keep11 ((Below.refl _ _).drew) q)
          (first
            | (go_at_call 18; refine (toVmap_at a os cap _ (HV.out.below ((keep11_kp (W := w11) (n1 := w9.heap.size) (n2 := w.heap.size) (x0 := .slice ax csx.length cx) (y0 := .slice a os.length cap) (by with_reducible assumption)).from_ HB.out)) HA.out.2.1 HA.out.2.2.1).mono ?_; rintro e wA ⟨aA, csA, cA, hkA, rfl, hat, hb⟩; have q := keep11 (W := w11) (n1 := w9.heap.size) (n2 := w.heap.size) (x0 := .slice ax csx.length cx) (y0 := .slice a os.length cap) hb (by with_reducible assumption); have TA := Lib.hid hat; have EA := Lib.hid hkA; clear hat hb hkA)
            | (go_at_call 21; refine (eqVmap_at (H_78.out.below (keep11_kp (W := w11) (n1 := w9.heap.size) (n2 := w.heap.size) (x0 := .slice ax csx.length cx) (y0 := .slice a os.length cap) (by with_reducible assumption)).2.2) TA.out (Ex.out.trans EA.out.symm) (HA.out.same Ex.out).1 (by have := objOff_ge csx; unfold maxLen; omega)).mono ?_; rintro e wE ⟨rfl, hb⟩; have q := keep11 (W := w11) (n1 := w9.heap.size) (n2 := w.heap.size) (x0 := .slice ax csx.length cx) (y0 := .slice a os.length cap) hb (by with_reducible assumption); clear hb))
        all_goals (go_wp2_with fail; go_meet)
        all_goals exact ⟨rfl, (keep11_kp q).2.2⟩
      case rest =>
        obtain ⟨rfl, hb⟩ := hcut
        obtain ⟨w13, rfl⟩ : ∃ x, x = wc := ⟨_, rfl⟩
        have c_81 := (hb.cell (p := ⟨w.heap.size, 0, none⟩) s_67).trans c_66
        have s_82 : w.heap.size < w13.heap.size := Nat.lt_of_lt_of_le s_67 hb.size
        have c_83 := (hb.cell (p := ⟨w.heap.size + 1, 0, none⟩) s_70).trans c_68
        have c_84 := (hb.cell (p := ⟨w.heap.size + 1, 1, none⟩) s_70).trans c_69
        have s_85 : w.heap.size + 1 < w13.heap.size := Nat.lt_of_lt_of_le s_70 hb.size
        have c_86 := (hb.cell (p := ⟨gw, 0, none⟩) s_72).trans c_71
        have s_87 : gw < w13.heap.size := Nat.lt_of_lt_of_le s_72 hb.size
        have c_88 := (hb.cell (p := ⟨w9.heap.size, 0, none⟩) s_74).trans c_73
        have s_89 : w9.heap.size < w13.heap.size := Nat.lt_of_lt_of_le s_74 hb.size
        have c_90 := (hb.cell (p := ⟨gg, 0, none⟩) s_76).trans c_75
        have s_91 : gg < w13.heap.size := Nat.lt_of_lt_of_le s_76 hb.size
        have H_92 := Lib.hid (H_77.out.below hb)
        have H_93 := Lib.hid (H_78.out.below hb)
        have H_94 := Lib.hid (H_79.out.below hb)
        have HB := Lib.hid (HB.out.trans (hb.mono HB.out.size))
        have o_95 : w11.heap.size ≤ w13.heap.size := hb.size
        clear c_66 s_67 c_68 c_69 s_70 c_71 s_72 c_73 s_74 c_75 s_76
        clear hb
        go_wp2_with fail
        refine (markVmap_at rfl H_93.out (k := 1) (by omega) (by omega)).mono ?_
        rintro e w14 ⟨rfl, hatm, hb⟩
        have c_96 := (hb.cellS (p := ⟨w.heap.size, 0, none⟩) s_82 (by show ¬ (_ ≤ w.heap.size ∧ w.heap.size < _); omega)).trans c_81
        have s_97 : w.heap.size < w14.heap.size := Nat.lt_of_lt_of_le s_82 hb.size
        have c_98 := (hb.cellS (p := ⟨w.heap.size + 1, 0, none⟩) s_85 (by show ¬ (_ ≤ w.heap.size + 1 ∧ w.heap.size + 1 < _); omega)).trans c_83
        have c_99 := (hb.cellS (p := ⟨w.heap.size + 1, 1, none⟩) s_85 (by show ¬ (_ ≤ w.heap.size + 1 ∧ w.heap.size + 1 < _); omega)).trans c_84
        have s_100 : w.heap.size + 1 < w14.heap.size := Nat.lt_of_lt_of_le s_85 hb.size
        have c_101 := (hb.cellS (p := ⟨gw, 0, none⟩) s_87 (by show ¬ (_ ≤ gw ∧ gw < _); omega)).trans c_86
        have s_102 : gw < w14.heap.size := Nat.lt_of_lt_of_le s_87 hb.size
        have c_103 := (hb.cellS (p := ⟨w9.heap.size, 0, none⟩) s_89 (by show ¬ (_ ≤ w9.heap.size ∧ w9.heap.size < _); omega)).trans c_88
        have s_104 : w9.heap.size < w14.heap.size := Nat.lt_of_lt_of_le s_89 hb.size
        have c_105 := (hb.cellS (p := ⟨gg, 0, none⟩) s_91 (by show ¬ (_ ≤ gg ∧ gg < _); omega)).trans c_90
        have s_106 : gg < w14.heap.size := Nat.lt_of_lt_of_le s_91 hb.size
        have H_107 := Lib.hid (H_92.out.turned (by intro b h1 h2; omega) hb)
        have H_108 := Lib.hid (H_94.out.turned (by intro b h1 h2; omega) hb)
        have HB := Lib.hid (step_turned HB.out hb (by omega) HB.out.size)
        have o_109 : w13.heap.size ≤ w14.heap.size := hb.size
        clear c_81 s_82 c_83 c_84 s_85 c_86 s_87 c_88 s_89 c_90 s_91
        clear hatm hb
        go_wp2_with fail
        refine (eqVmap_at H_108.out H_107.out (Eg.out.trans Ew.out.symm) (fits_of_kv Eg.out HKF.out) (by have := objOff_ge csg; unfold maxLen; omega)).mono ?_
        rintro e w15 ⟨rfl, hb⟩
        have c_110 := (hb.cell (p := ⟨w.heap.size, 0, none⟩) s_97).trans c_96
        have s_111 : w.heap.size < w15.heap.size := Nat.lt_of_lt_of_le s_97 hb.size
        have c_112 := (hb.cell (p := ⟨w.heap.size + 1, 0, none⟩) s_100).trans c_98
        have c_113 := (hb.cell (p := ⟨w.heap.size + 1, 1, none⟩) s_100).trans c_99
        have s_114 : w.heap.size + 1 < w15.heap.size := Nat.lt_of_lt_of_le s_100 hb.size
        have c_115 := (hb.cell (p := ⟨gw, 0, none⟩) s_102).trans c_101
        have s_116 : gw < w15.heap.size := Nat.lt_of_lt_of_le s_102 hb.size
        have c_117 := (hb.cell (p := ⟨w9.heap.size, 0, none⟩) s_104).trans c_103
        have s_118 : w9.heap.size < w15.heap.size := Nat.lt_of_lt_of_le s_104 hb.size
        have c_119 := (hb.cell (p := ⟨gg, 0, none⟩) s_106).trans c_105
        have s_120 : gg < w15.heap.size := Nat.lt_of_lt_of_le s_106 hb.size
        have H_121 := Lib.hid (H_107.out.below hb)
        have H_122 := Lib.hid (H_108.out.below hb)
        have HB := Lib.hid (HB.out.trans (hb.mono HB.out.size))
        have o_123 : w14.heap.size ≤ w15.heap.size := hb.size
        clear c_96 s_97 c_98 c_99 s_100 c_101 s_102 c_103 s_104 c_105 s_106
        clear hb
        go_wp2_with fail
        refine (markVmap_at rfl H_122.out (k := 1) (by omega) (by omega)).mono ?_
        rintro e w16 ⟨rfl, hatm, hb⟩
        have Tm := Lib.hid hatm
        have c_124 := (hb.cellS (p := ⟨w.heap.size, 0, none⟩) s_111 (by show ¬ (_ ≤ w.heap.size ∧ w.heap.size < _); omega)).trans c_110
        have s_125 : w.heap.size < w16.heap.size := Nat.lt_of_lt_of_le s_111 hb.size
        have c_126 := (hb.cellS (p := ⟨w.heap.size + 1, 0, none⟩) s_114 (by show ¬ (_ ≤ w.heap.size + 1 ∧ w.heap.size + 1 < _); omega)).trans c_112
        have c_127 := (hb.cellS (p := ⟨w.heap.size + 1, 1, none⟩) s_114 (by show ¬ (_ ≤ w.heap.size + 1 ∧ w.heap.size + 1 < _); omega)).trans c_113
        have s_128 : w.heap.size + 1 < w16.heap.size := Nat.lt_of_lt_of_le s_114 hb.size
        have c_129 := (hb.cellS (p := ⟨gw, 0, none⟩) s_116 (by show ¬ (_ ≤ gw ∧ gw < _); omega)).trans c_115
        have s_130 : gw < w16.heap.size := Nat.lt_of_lt_of_le s_116 hb.size
        have c_131 := (hb.cellS (p := ⟨w9.heap.size, 0, none⟩) s_118 (by show ¬ (_ ≤ w9.heap.size ∧ w9.heap.size < _); omega)).trans c_117
        have s_132 : w9.heap.size < w16.heap.size := Nat.lt_of_lt_of_le s_118 hb.size
        have c_133 := (hb.cellS (p := ⟨gg, 0, none⟩) s_120 (by show ¬ (_ ≤ gg ∧ gg < _); omega)).trans c_119
        have s_134 : gg < w16.heap.size := Nat.lt_of_lt_of_le s_120 hb.size
        have H_135 := Lib.hid (H_121.out.turned (by intro b h1 h2; omega) hb)
        have HB := Lib.hid (step_turned HB.out hb (by omega) HB.out.size)
        have o_136 : w15.heap.size ≤ w16.heap.size := hb.size
        clear c_110 s_111 c_112 c_113 s_114 c_115 s_116 c_117 s_118 c_119 s_120
        clear hatm hb
        go_wp2_with fail
        refine (heldVmap_at rfl Tm.out (by omega) (by omega)).mono ?_
        rintro e w17 ⟨rfl, hb⟩
        have c_137 := (hb.cell (p := ⟨w.heap.size, 0, none⟩) s_125).trans c_124
        have s_138 : w.heap.size < w17.heap.size := Nat.lt_of_lt_of_le s_125 hb.size
        have c_139 := (hb.cell (p := ⟨w.heap.size + 1, 0, none⟩) s_128).trans c_126
        have c_140 := (hb.cell (p := ⟨w.heap.size + 1, 1, none⟩) s_128).trans c_127
        have s_141 : w.heap.size + 1 < w17.heap.size := Nat.lt_of_lt_of_le s_128 hb.size
        have c_142 := (hb.cell (p := ⟨gw, 0, none⟩) s_130).trans c_129
        have s_143 : gw < w17.heap.size := Nat.lt_of_lt_of_le s_130 hb.size
        have c_144 := (hb.cell (p := ⟨w9.heap.size, 0, none⟩) s_132).trans c_131
        have s_145 : w9.heap.size < w17.heap.size := Nat.lt_of_lt_of_le s_132 hb.size
        have c_146 := (hb.cell (p := ⟨gg, 0, none⟩) s_134).trans c_133
        have s_147 : gg < w17.heap.size := Nat.lt_of_lt_of_le s_134 hb.size
        have H_148 := Lib.hid (H_135.out.below hb)
        have H_149 := Lib.hid (Tm.out.below hb)
        have HB := Lib.hid (HB.out.trans (hb.mono HB.out.size))
        have o_150 : w16.heap.size ≤ w17.heap.size := hb.size
        clear c_124 s_125 c_126 c_127 s_128 c_129 s_130 c_131 s_132 c_133 s_134
        clear hb
        go_upto_region 27 with fail
        go_cut [12] from 13 (fun p u => NewVm w17 (cutF lo hi (os.map ObjD.kv)) p u)
        case first =>
          have q : w17.cell? ⟨w.heap.size, 0, none⟩ = some (.slice a os.length cap) ∧ w17.cell? ⟨w.heap.size + 1, 0, none⟩ = some (.string lo) ∧ w17.cell? ⟨w.heap.size + 1, 1, none⟩ = some (.string hi) ∧ Kp w17 (w.heap.size) (w.heap.size + 1) w17 := ⟨c_137, c_139, c_140, s_138, s_141, Below.refl _ _⟩
          have hn1 : w.heap.size < w17.heap.size := s_138
          have hn2 : w.heap.size + 1 < w17.heap.size := s_141
          go_region_held3 (fun u => u.cell? ⟨w.heap.size, 0, none⟩ = some (.slice a os.length cap) ∧ u.cell? ⟨w.heap.size + 1, 0, none⟩ = some (.string lo) ∧ u.cell? ⟨w.heap.size + 1, 1, none⟩ = some (.string hi) ∧ Kp w17 (w.heap.size) (w.heap.size + 1) u)
            (first | with_reducible exact q | with_reducible exact keep12 ((Below.refl _ _).drew) q | with_reducible exact keep12 ((Below.refl _ _).alloc (Nat.le_refl _) _) q | with_reducible exact keep12 (((Below.refl _ _).alloc (Nat.le_refl _) _).drew) q | with_reducible exact keep12_set q hn1 hn2 (by omega))
            (first
              | (go_at_call 18; refine (toVmap_at a os cap _ (HV.out.below ((keep12_kp (W := w17) (n1 := w.heap.size) (n2 := w.heap.size + 1) (x0 := .slice a os.length cap) (y0 := .string lo) (y1 := .string hi) (by with_reducible assumption)).from_ HB.out)) HA.out.2.1 HA.out.2.2.1).mono ?_; rintro e wA ⟨aA, csA, cA, hkA, rfl, hat, hb⟩; have q := keep12 (W := w17) (n1 := w.heap.size) (n2 := w.heap.size + 1) (x0 := .slice a os.length cap) (y0 := .string lo) (y1 := .string hi) hb (by with_reducible assumption); (try ((first | with_reducible refine of_new1 hb ?_ | with_reducible refine of_new1D hb ?_ | with_reducible refine of_carry1 hb zn ?_); intro zn; have zn0 := zn.1; have zn1 := zn.2.1; have zn2 := zn.2.2)); have TA := Lib.hid hat; have EA := Lib.hid hkA; have szA := (keep12_kp q).size; clear hat hb hkA)
              | (go_at_call 19; refine (toSpan_any lo hi _).mono ?_; rintro e wB ⟨rfl, hb⟩; have q := keep12 (W := w17) (n1 := w.heap.size) (n2 := w.heap.size + 1) (x0 := .slice a os.length cap) (y0 := .string lo) (y1 := .string hi) hb (by with_reducible assumption); (try ((first | with_reducible refine of_new1 hb ?_ | with_reducible refine of_new1D hb ?_ | with_reducible refine of_carry1 hb zn ?_); intro zn; have zn0 := zn.1; have zn1 := zn.2.1; have zn2 := zn.2.2)); (try (first | (have TA := Lib.hid (TA.out.below hb)) | (have TA := Lib.hid ((TA.out.below ((Below.refl _ _).alloc (Nat.le_refl _) _)).below hb)))); have szB := (keep12_kp q).size; clear hb)
              | (go_at_call 20; (try have zl := zn.2.2); refine (vmapCut_at (by first | with_reducible exact TA.out | with_reducible exact (TA.out.below ((Below.refl _ _).alloc (Nat.le_refl _) _))) EA.out HA.out HLo.out HHi.out).mono ?_; rintro e wC ⟨aC, csC, cC, hkC, rfl, hat, hb⟩; have q := keep12 (W := w17) (n1 := w.heap.size) (n2 := w.heap.size + 1) (x0 := .slice a os.length cap) (y0 := .string lo) (y1 := .string hi) hb (by with_reducible assumption); (try ((first | with_reducible refine of_new1 hb ?_ | with_reducible refine of_new1D hb ?_ | with_reducible refine of_carry1 hb zn ?_); intro zn; have zn0 := zn.1; have zn1 := zn.2.1; have zn2 := zn.2.2)); have EC := Lib.hid hkC; have TC := Lib.hid hat; have szC := (keep12_kp q).size; clear hkC hat hb))
          all_goals (go_wp2_with fail; go_meet)
          all_goals
            first | with_reducible exact newVm_A (keep12_kp q) EC.out TC.out (by first | omega | (simp; omega)) | with_reducible exact newVm_B (keep12_kp q) EC.out TC.out zn (by omega) (by first | omega | (simp; omega) | simp)
        case rest =>
          obtain ⟨gh, lh, hh, ah, csh, ch, rfl, hb, hg1, hg2, hg3, hg4, e0, hkv, hat⟩ := hcut
          have Eh := Lib.hid hkv
          have Th := Lib.hid hat
          obtain ⟨w18, rfl⟩ : ∃ x, x = wc := ⟨_, rfl⟩
          have hih : hh ≤ w18.heap.size := hat.le
          have c_151 := (hb.cell (p := ⟨w.heap.size, 0, none⟩) s_138).trans c_137
          have s_152 : w.heap.size < w18.heap.size := Nat.lt_of_lt_of_le s_138 hb.size
          have c_153 := (hb.cell (p := ⟨w.heap.size + 1, 0, none⟩) s_141).trans c_139
          have c_154 := (hb.cell (p := ⟨w.heap.size + 1, 1, none⟩) s_141).trans c_140
          have s_155 : w.heap.size + 1 < w18.heap.size := Nat.lt_of_lt_of_le s_141 hb.size
          have c_156 := (hb.cell (p := ⟨gw, 0, none⟩) s_143).trans c_142
          have s_157 : gw < w18.heap.size := Nat.lt_of_lt_of_le s_143 hb.size
          have c_158 := (hb.cell (p := ⟨w9.heap.size, 0, none⟩) s_145).trans c_144
          have s_159 : w9.heap.size < w18.heap.size := Nat.lt_of_lt_of_le s_145 hb.size
          have c_160 := (hb.cell (p := ⟨gg, 0, none⟩) s_147).trans c_146
          have s_161 : gg < w18.heap.size := Nat.lt_of_lt_of_le s_147 hb.size
          have H_162 := Lib.hid (H_148.out.below hb)
          have H_163 := Lib.hid (H_149.out.below hb)
          have HB := Lib.hid (HB.out.trans (hb.mono HB.out.size))
          have o_164 : w17.heap.size ≤ w18.heap.size := hb.size
          clear c_137 s_138 c_139 c_140 s_141 c_142 s_143 c_144 s_145 c_146 s_147
          have c_165 := e0
          have s_166 := hg2
          have k_167 : gh < w18.heap.size := hg2
          have m_168 := hg1
          have m_169 := hg3
          have m_170 := hg4
          clear hkv hb hat e0 hg1 hg2 hg3 hg4
          have hOh : objOff csh csh.length ≤ 3145728 := by rw [off_of Eh.out]; exact HK.out
          go_wp2_with fail
          refine (eqVmap_at Th.out H_162.out (Eh.out.trans Ew.out.symm) (fits_of_kv Eh.out HKF.out) (by have := objOff_ge csh; unfold maxLen; omega)).mono ?_
          rintro e w19 ⟨rfl, hb⟩
          have c_171 := (hb.cell (p := ⟨w.heap.size, 0, none⟩) s_152).trans c_151
          have s_172 : w.heap.size < w19.heap.size := Nat.lt_of_lt_of_le s_152 hb.size
          have c_173 := (hb.cell (p := ⟨w.heap.size + 1, 0, none⟩) s_155).trans c_153
          have c_174 := (hb.cell (p := ⟨w.heap.size + 1, 1, none⟩) s_155).trans c_154
          have s_175 : w.heap.size + 1 < w19.heap.size := Nat.lt_of_lt_of_le s_155 hb.size
          have c_176 := (hb.cell (p := ⟨gw, 0, none⟩) s_157).trans c_156
          have s_177 : gw < w19.heap.size := Nat.lt_of_lt_of_le s_157 hb.size
          have c_178 := (hb.cell (p := ⟨w9.heap.size, 0, none⟩) s_159).trans c_158
          have s_179 : w9.heap.size < w19.heap.size := Nat.lt_of_lt_of_le s_159 hb.size
          have c_180 := (hb.cell (p := ⟨gg, 0, none⟩) s_161).trans c_160
          have s_181 : gg < w19.heap.size := Nat.lt_of_lt_of_le s_161 hb.size
          have c_182 := (hb.cell (p := ⟨gh, 0, none⟩) s_166).trans c_165
          have s_183 : gh < w19.heap.size := Nat.lt_of_lt_of_le s_166 hb.size
          have H_184 := Lib.hid (H_162.out.below hb)
          have H_185 := Lib.hid (H_163.out.below hb)
          have H_186 := Lib.hid (Th.out.below hb)
          have HB := Lib.hid (HB.out.trans (hb.mono HB.out.size))
          have o_187 : w18.heap.size ≤ w19.heap.size := hb.size
          clear c_151 s_152 c_153 c_154 s_155 c_156 s_157 c_158 s_159 c_160 s_161 c_165 s_166
          clear hb
          go_wp2_with fail
          refine (heldVmap_at rfl H_185.out (by omega) (by omega)).mono ?_
          rintro e w20 ⟨rfl, hb⟩
          have c_188 := (hb.cell (p := ⟨w.heap.size, 0, none⟩) s_172).trans c_171
          have s_189 : w.heap.size < w20.heap.size := Nat.lt_of_lt_of_le s_172 hb.size
          have c_190 := (hb.cell (p := ⟨w.heap.size + 1, 0, none⟩) s_175).trans c_173
          have c_191 := (hb.cell (p := ⟨w.heap.size + 1, 1, none⟩) s_175).trans c_174
          have s_192 : w.heap.size + 1 < w20.heap.size := Nat.lt_of_lt_of_le s_175 hb.size
          have c_193 := (hb.cell (p := ⟨gw, 0, none⟩) s_177).trans c_176
          have s_194 : gw < w20.heap.size := Nat.lt_of_lt_of_le s_177 hb.size
          have c_195 := (hb.cell (p := ⟨w9.heap.size, 0, none⟩) s_179).trans c_178
          have s_196 : w9.heap.size < w20.heap.size := Nat.lt_of_lt_of_le s_179 hb.size
          have c_197 := (hb.cell (p := ⟨gg, 0, none⟩) s_181).trans c_180
          have s_198 : gg < w20.heap.size := Nat.lt_of_lt_of_le s_181 hb.size
          have c_199 := (hb.cell (p := ⟨gh, 0, none⟩) s_183).trans c_182
          have s_200 : gh < w20.heap.size := Nat.lt_of_lt_of_le s_183 hb.size
          have H_201 := Lib.hid (H_184.out.below hb)
          have H_202 := Lib.hid (H_185.out.below hb)
          have H_203 := Lib.hid (H_186.out.below hb)
          have HB := Lib.hid (HB.out.trans (hb.mono HB.out.size))
          have o_204 : w19.heap.size ≤ w20.heap.size := hb.size
          clear c_171 s_172 c_173 c_174 s_175 c_176 s_177 c_178 s_179 c_180 s_181 c_182 s_183
          clear hb
          go_wp2_with fail
          go_ret
          exact ⟨rfl, HB.out⟩
end Go.Proofs.Ytmabffdocofijaa
