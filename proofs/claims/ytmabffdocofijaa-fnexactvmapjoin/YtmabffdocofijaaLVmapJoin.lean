/- The law of VmapJoin, walked. -/
import Derived.Test.YtmabffdocofijaaLawV
import Derived.Test.YtmabffdocofijaaVJoinS
import Derived.Test.YtmabffdocofijaaVJoinI
namespace Go.Proofs.Ytmabffdocofijaa
open Go.RowKit

theorem specVmapJoin_at {l1 h1 l2 h2 : Nat} {a b : Option Addr} {cs es os ps : List ObjD} {c d : Nat} {w : World} (h : VmAt w l1 h1 a cs) (k : VmAt w l2 h2 b es) (e : cs.map ObjD.kv = os.map ObjD.kv) (f : es.map ObjD.kv = ps.map ObjD.kv) (hA : ArgOk os) (hB : ArgOk ps) :
    Calls Try.prog 24 #[.agg #[.slice a cs.length c], .agg #[.slice b es.length d]] w (VmOutB (joinF (os.map ObjD.kv) (ps.map ObjD.kv)) (joinB (os.map ObjD.kv) (ps.map ObjD.kv)) w) := by
  obtain ⟨h1, h2, h3, _⟩ := hA.same e
  obtain ⟨k1, k2, k3, _⟩ := hB.same f
  rw [← e, ← f]; exact specVmapJoin_any a b cs es c d w h.in1 k.in1 h1 k1 h.pl k.pl h2 k2 h3 k3
theorem vmapJoin_at {l1 h1 l2 h2 : Nat} {a b : Option Addr} {cs es os ps : List ObjD} {c d : Nat} {w : World} (h : VmAt w l1 h1 a cs) (k : VmAt w l2 h2 b es) (e : cs.map ObjD.kv = os.map ObjD.kv) (f : es.map ObjD.kv = ps.map ObjD.kv) (hA : ArgOk os) (hB : ArgOk ps) :
    Calls Try.prog 25 #[.agg #[.slice a cs.length c], .agg #[.slice b es.length d]] w (VmOutB (joinF (os.map ObjD.kv) (ps.map ObjD.kv)) (joinB (os.map ObjD.kv) (ps.map ObjD.kv)) w) := by
  obtain ⟨h1, h2, h3, _⟩ := hA.same e
  obtain ⟨k1, k2, k3, _⟩ := hB.same f
  rw [← e, ← f]; exact vmapJoin_any a b cs es c d w h.in1 k.in1 h1 k1 h.pl k.pl h2 k2 h3 k3

set_option maxRecDepth 100000 in
set_option maxHeartbeats 8000000 in
theorem vmapJoin_law (a : Option Addr) (os : List ObjD) (cap : Nat) (b : Option Addr) (ps : List ObjD) (capb : Nat) (w : World) (hv : ObjsIn w a os) (hf : ∀ o ∈ os, o.fits) (hn : os.length ≤ maxLen) (hu : ObjsIn w b ps) (hg : ∀ o ∈ ps, o.fits) (hm : ps.length ≤ maxLen) :
    Calls Try.prog 4 #[.agg #[.slice a os.length cap], .agg #[.slice b ps.length capb]] w fun e w' => e = .returned (.bool true) ∧ Below w.heap.size w w' := by
  have HV := Lib.hid hv
  have HU := Lib.hid hu
  have HF := Lib.hid hf
  have HG := Lib.hid hg
  have HN := Lib.hid hn
  have HM := Lib.hid hm
  clear hv hu hf hg hn hm
  obtain ⟨W0, hW0⟩ : ∃ W0, (w.alloc (.cells #[.slice a os.length cap] 24)).alloc (.cells #[.slice b ps.length capb] 24) = W0 := ⟨_, rfl⟩
  have HB : Below w.heap.size w W0 := by rw [← hW0]; exact ((Below.refl _ _).alloc (Nat.le_refl _) _).alloc (by simp) _
  have xa0 : W0.cell? ⟨w.heap.size, 0, none⟩ = some (.slice a os.length cap) := by rw [← hW0]; simp [go_sem]
  have xb0 : W0.cell? ⟨w.heap.size + 1, 0, none⟩ = some (.slice b ps.length capb) := by rw [← hW0]; simp [go_sem]
  have sb : w.heap.size + 1 < W0.heap.size := by rw [← hW0]; simp
  have sa : w.heap.size < W0.heap.size := by omega
  have kb : w.heap.size + 1 < W0.heap.size := sb
  have HB := Lib.hid HB
  go_enter Try.func4, Try.ntmps4
  go_wp2_with fail
  clear hW0
  refine (szVmap_any a os cap _ _ (HV.out.below HB.out) HF.out HN.out (by omega) (by omega)).mono ?_
  rintro e w1 ⟨z, rfl, hz, hb⟩
  have c_1 := (hb.cell (p := ⟨w.heap.size, 0, none⟩) sa).trans xa0
  have s_2 : w.heap.size < w1.heap.size := Nat.lt_of_lt_of_le sa hb.size
  have c_3 := (hb.cell (p := ⟨w.heap.size + 1, 0, none⟩) sb).trans xb0
  have s_4 : w.heap.size + 1 < w1.heap.size := Nat.lt_of_lt_of_le sb hb.size
  have HB := Lib.hid (HB.out.trans (hb.mono HB.out.size))
  have o_5 : W0.heap.size ≤ w1.heap.size := hb.size
  clear xa0 sa xb0 sb
  clear hb
  rcases hz with rfl | ⟨hz, hsum⟩
  · go_wp2_with fail
    go_ret
    exact ⟨rfl, HB.out⟩
  have HA := Lib.hid (argOk_of HF.out (by omega))
  have hzl : z ≤ 1048576 := by omega
  clear hsum
  go_wp2_with fail
  refine (szVmap_any b ps capb z _ (HU.out.below HB.out) HG.out HM.out hz hzl).mono ?_
  rintro e w2 ⟨y, rfl, hy, hb⟩
  have c_6 := (hb.cell (p := ⟨w.heap.size, 0, none⟩) s_2).trans c_1
  have s_7 : w.heap.size < w2.heap.size := Nat.lt_of_lt_of_le s_2 hb.size
  have c_8 := (hb.cell (p := ⟨w.heap.size + 1, 0, none⟩) s_4).trans c_3
  have s_9 : w.heap.size + 1 < w2.heap.size := Nat.lt_of_lt_of_le s_4 hb.size
  have HB := Lib.hid (HB.out.trans (hb.mono HB.out.size))
  have o_10 : w1.heap.size ≤ w2.heap.size := hb.size
  clear c_1 s_2 c_3 s_4
  clear hb
  rcases hy with rfl | ⟨hy, hsum⟩
  · go_wp2_with fail
    go_ret
    exact ⟨rfl, HB.out⟩
  have HAb := Lib.hid (argOk_of HG.out (by omega))
  clear hsum
  have HK := Lib.hid (Nat.le_trans (joinF_off (os.map ObjD.kv) (ps.map ObjD.kv)) (Nat.add_le_add HA.out.2.2.2 HAb.out.2.2.2))
  have HKF := Lib.hid (joinF_fits (kvFits_of HA.out.1) (kvFits_of HAb.out.1))
  go_upto_region 8 with fail
  go_cut [6, 7] from 17 (fun p r u => r = .bool (joinB (os.map ObjD.kv) (ps.map ObjD.kv)) ∧ NewVm w2 (joinF (os.map ObjD.kv) (ps.map ObjD.kv)) p u)
  case first =>
    have q : w2.cell? ⟨w.heap.size, 0, none⟩ = some (.slice a os.length cap) ∧ w2.cell? ⟨w.heap.size + 1, 0, none⟩ = some (.slice b ps.length capb) ∧ Kp w2 (w.heap.size) (w.heap.size + 1) w2 := ⟨c_6, c_8, s_7, s_9, Below.refl _ _⟩
    have hn1 : w.heap.size < w2.heap.size := s_7
    have hn2 : w.heap.size + 1 < w2.heap.size := s_9
    go_region_held3 (fun u => u.cell? ⟨w.heap.size, 0, none⟩ = some (.slice a os.length cap) ∧ u.cell? ⟨w.heap.size + 1, 0, none⟩ = some (.slice b ps.length capb) ∧ Kp w2 (w.heap.size) (w.heap.size + 1) u)
      (first | with_reducible exact q | with_reducible exact keep11 ((Below.refl _ _).drew) q | with_reducible exact keep11 ((Below.refl _ _).alloc (Nat.le_refl _) _) q | with_reducible exact keep11 (((Below.refl _ _).alloc (Nat.le_refl _) _).drew) q | with_reducible exact keep11_set q hn1 hn2 (by omega) | fail)
      (first
        | (go_at_call 18; refine (toVmap_at a os cap _ (HV.out.below ((keep11_kp (W := w2) (n1 := w.heap.size) (n2 := w.heap.size + 1) (x0 := .slice a os.length cap) (y0 := .slice b ps.length capb) (by with_reducible assumption)).from_ HB.out)) HA.out.2.1 HA.out.2.2.1).mono ?_; rintro e wA ⟨aA, csA, cA, hkA, rfl, hat, hb⟩; have q := keep11 (W := w2) (n1 := w.heap.size) (n2 := w.heap.size + 1) (x0 := .slice a os.length cap) (y0 := .slice b ps.length capb) hb (by with_reducible assumption); (try ((first | with_reducible refine of_new1 hb ?_ | with_reducible refine of_new1D hb ?_ | with_reducible refine of_carry1 hb zn ?_); intro zn; have zn0 := zn.1; have zn1 := zn.2.1; have zn2 := zn.2.2)); have TA := Lib.hid hat; have EA := Lib.hid hkA; have szA := (keep11_kp q).size; clear hat hb hkA)
        | (go_at_call 18; refine (toVmap_at b ps capb _ (HU.out.below ((keep11_kp (W := w2) (n1 := w.heap.size) (n2 := w.heap.size + 1) (x0 := .slice a os.length cap) (y0 := .slice b ps.length capb) (by with_reducible assumption)).from_ HB.out)) HAb.out.2.1 HAb.out.2.2.1).mono ?_; rintro e wB ⟨aB, csB, cB, hkB, rfl, hat, hb⟩; have q := keep11 (W := w2) (n1 := w.heap.size) (n2 := w.heap.size + 1) (x0 := .slice a os.length cap) (y0 := .slice b ps.length capb) hb (by with_reducible assumption); (try ((first | with_reducible refine of_new1 hb ?_ | with_reducible refine of_new1D hb ?_ | with_reducible refine of_carry1 hb zn ?_); intro zn; have zn0 := zn.1; have zn1 := zn.2.1; have zn2 := zn.2.2)); (try (first | (have TA := Lib.hid (TA.out.below hb)) | (have TA := Lib.hid ((TA.out.below ((Below.refl _ _).alloc (Nat.le_refl _) _)).below hb)))); have TB := Lib.hid hat; have EB := Lib.hid hkB; have szB := (keep11_kp q).size; clear hat hb hkB)
        | (go_at_call 24; (try have zl := zn.2.2); refine (specVmapJoin_at (by first | with_reducible exact TA.out | with_reducible exact (TA.out.below ((Below.refl _ _).alloc (Nat.le_refl _) _))) (by first | with_reducible exact TB.out | with_reducible exact (TB.out.below ((Below.refl _ _).alloc (Nat.le_refl _) _))) EA.out EB.out HA.out HAb.out).mono ?_; rintro e wC ⟨aC, csC, cC, hkC, rfl, hat, hb⟩; have q := keep11 (W := w2) (n1 := w.heap.size) (n2 := w.heap.size + 1) (x0 := .slice a os.length cap) (y0 := .slice b ps.length capb) hb (by with_reducible assumption); (try ((first | with_reducible refine of_new1 hb ?_ | with_reducible refine of_new1D hb ?_ | with_reducible refine of_carry1 hb zn ?_); intro zn; have zn0 := zn.1; have zn1 := zn.2.1; have zn2 := zn.2.2)); have EC := Lib.hid hkC; have TC := Lib.hid hat; have szC := (keep11_kp q).size; clear hkC hat hb)
        | fail)
    all_goals (go_wp2_with fail; go_meet)
    all_goals
      first | exact ⟨rfl, newVm_A (keep11_kp q) EC.out TC.out (by first | omega | (simp; omega))⟩ | exact ⟨rfl, newVm_B (keep11_kp q) EC.out TC.out zn (by omega) (by first | omega | (simp; omega) | simp)⟩
  case rest =>
    obtain ⟨rfl, gw, lw, hw, aw, csw, cw, rfl, hb, hg1, hg2, hg3, hg4, e0, hkv, hat⟩ := hcut
    have Ew := Lib.hid hkv
    have Tw := Lib.hid hat
    obtain ⟨w3, rfl⟩ : ∃ x, x = wc := ⟨_, rfl⟩
    have hiw : hw ≤ w3.heap.size := hat.le
    have c_11 := (hb.cell (p := ⟨w.heap.size, 0, none⟩) s_7).trans c_6
    have s_12 : w.heap.size < w3.heap.size := Nat.lt_of_lt_of_le s_7 hb.size
    have c_13 := (hb.cell (p := ⟨w.heap.size + 1, 0, none⟩) s_9).trans c_8
    have s_14 : w.heap.size + 1 < w3.heap.size := Nat.lt_of_lt_of_le s_9 hb.size
    have HB := Lib.hid (HB.out.trans (hb.mono HB.out.size))
    have o_15 : w2.heap.size ≤ w3.heap.size := hb.size
    clear c_6 s_7 c_8 s_9
    have c_16 := e0
    have s_17 := hg2
    have k_18 : gw < w3.heap.size := hg2
    have m_19 := hg1
    have m_20 := hg3
    have m_21 := hg4
    clear hkv hb hat e0 hg1 hg2 hg3 hg4
    go_wp2_with fail
    refine (toVmap_at a os cap _ (HV.out.below HB.out) HA.out.2.1 HA.out.2.2.1).mono ?_
    rintro e w4 ⟨ax, csx, cx, hkv, rfl, hat, hb⟩
    have Tx := Lib.hid hat
    have Ex := Lib.hid hkv
    have c_22 := (hb.cell (p := ⟨w.heap.size, 0, none⟩) s_12).trans c_11
    have s_23 : w.heap.size < w4.heap.size := Nat.lt_of_lt_of_le s_12 hb.size
    have c_24 := (hb.cell (p := ⟨w.heap.size + 1, 0, none⟩) s_14).trans c_13
    have s_25 : w.heap.size + 1 < w4.heap.size := Nat.lt_of_lt_of_le s_14 hb.size
    have c_26 := (hb.cell (p := ⟨gw, 0, none⟩) s_17).trans c_16
    have s_27 : gw < w4.heap.size := Nat.lt_of_lt_of_le s_17 hb.size
    have H_28 := Lib.hid (Tw.out.below hb)
    have HB := Lib.hid (HB.out.trans (hb.mono HB.out.size))
    have o_29 : w3.heap.size ≤ w4.heap.size := hb.size
    clear c_11 s_12 c_13 s_14 c_16 s_17
    clear hat hkv hb
    go_upto_region 10 with fail
    obtain ⟨V_30, hV_30⟩ : ∃ V_30, w4.alloc (.cells #[.slice ax csx.length cx] 31) = V_30 := ⟨_, rfl⟩
    have bV_30 : Below w4.heap.size w4 V_30 := by rw [← hV_30]; exact (Below.refl _ _).alloc (Nat.le_refl _) _
    have c_31 : V_30.cell? ⟨w4.heap.size, 0, none⟩ = some (.slice ax csx.length cx) := by rw [← hV_30]; simp [go_sem]
    have s_32 : w4.heap.size < V_30.heap.size := by rw [← hV_30]; simp
    have k_33 : w4.heap.size < V_30.heap.size := s_32
    have c_34 := (bV_30.cell (p := ⟨w.heap.size, 0, none⟩) s_23).trans c_22
    have s_35 : w.heap.size < V_30.heap.size := Nat.lt_of_lt_of_le s_23 bV_30.size
    have c_36 := (bV_30.cell (p := ⟨w.heap.size + 1, 0, none⟩) s_25).trans c_24
    have s_37 : w.heap.size + 1 < V_30.heap.size := Nat.lt_of_lt_of_le s_25 bV_30.size
    have c_38 := (bV_30.cell (p := ⟨gw, 0, none⟩) s_27).trans c_26
    have s_39 : gw < V_30.heap.size := Nat.lt_of_lt_of_le s_27 bV_30.size
    have H_40 := Lib.hid (H_28.out.below bV_30)
    have H_41 := Lib.hid (Tx.out.below bV_30)
    have HB := Lib.hid (HB.out.trans (bV_30.mono HB.out.size))
    have o_42 : w4.heap.size ≤ V_30.heap.size := bV_30.size
    clear c_22 s_23 c_24 s_25 c_26 s_27
    clear bV_30
    rw [hV_30]
    clear hV_30
    go_wp2_with fail
    refine (toVmap_at b ps capb _ (HU.out.below HB.out) HAb.out.2.1 HAb.out.2.2.1).mono ?_
    rintro e w5 ⟨ay, csy, cy, hkv, rfl, hat, hb⟩
    have Ty := Lib.hid hat
    have Ey := Lib.hid hkv
    have c_43 := (hb.cell (p := ⟨w.heap.size, 0, none⟩) s_35).trans c_34
    have s_44 : w.heap.size < w5.heap.size := Nat.lt_of_lt_of_le s_35 hb.size
    have c_45 := (hb.cell (p := ⟨w.heap.size + 1, 0, none⟩) s_37).trans c_36
    have s_46 : w.heap.size + 1 < w5.heap.size := Nat.lt_of_lt_of_le s_37 hb.size
    have c_47 := (hb.cell (p := ⟨gw, 0, none⟩) s_39).trans c_38
    have s_48 : gw < w5.heap.size := Nat.lt_of_lt_of_le s_39 hb.size
    have c_49 := (hb.cell (p := ⟨w4.heap.size, 0, none⟩) s_32).trans c_31
    have s_50 : w4.heap.size < w5.heap.size := Nat.lt_of_lt_of_le s_32 hb.size
    have H_51 := Lib.hid (H_40.out.below hb)
    have H_52 := Lib.hid (H_41.out.below hb)
    have HB := Lib.hid (HB.out.trans (hb.mono HB.out.size))
    have o_53 : V_30.heap.size ≤ w5.heap.size := hb.size
    clear c_34 s_35 c_36 s_37 c_38 s_39 c_31 s_32
    clear hat hkv hb
    go_upto_region 11 with fail
    obtain ⟨V_54, hV_54⟩ : ∃ V_54, w5.alloc (.cells #[.slice ay csy.length cy] 31) = V_54 := ⟨_, rfl⟩
    have bV_54 : Below w5.heap.size w5 V_54 := by rw [← hV_54]; exact (Below.refl _ _).alloc (Nat.le_refl _) _
    have c_55 : V_54.cell? ⟨w5.heap.size, 0, none⟩ = some (.slice ay csy.length cy) := by rw [← hV_54]; simp [go_sem]
    have s_56 : w5.heap.size < V_54.heap.size := by rw [← hV_54]; simp
    have k_57 : w5.heap.size < V_54.heap.size := s_56
    have c_58 := (bV_54.cell (p := ⟨w.heap.size, 0, none⟩) s_44).trans c_43
    have s_59 : w.heap.size < V_54.heap.size := Nat.lt_of_lt_of_le s_44 bV_54.size
    have c_60 := (bV_54.cell (p := ⟨w.heap.size + 1, 0, none⟩) s_46).trans c_45
    have s_61 : w.heap.size + 1 < V_54.heap.size := Nat.lt_of_lt_of_le s_46 bV_54.size
    have c_62 := (bV_54.cell (p := ⟨gw, 0, none⟩) s_48).trans c_47
    have s_63 : gw < V_54.heap.size := Nat.lt_of_lt_of_le s_48 bV_54.size
    have c_64 := (bV_54.cell (p := ⟨w4.heap.size, 0, none⟩) s_50).trans c_49
    have s_65 : w4.heap.size < V_54.heap.size := Nat.lt_of_lt_of_le s_50 bV_54.size
    have H_66 := Lib.hid (H_51.out.below bV_54)
    have H_67 := Lib.hid (H_52.out.below bV_54)
    have H_68 := Lib.hid (Ty.out.below bV_54)
    have HB := Lib.hid (HB.out.trans (bV_54.mono HB.out.size))
    have o_69 : w5.heap.size ≤ V_54.heap.size := bV_54.size
    clear c_43 s_44 c_45 s_46 c_47 s_48 c_49 s_50
    clear bV_54
    rw [hV_54]
    clear hV_54
    go_wp2_with fail
    refine (vmapJoin_at H_67.out H_68.out Ex.out Ey.out HA.out HAb.out).mono ?_
    rintro e w6 ⟨ag, csg, cg, hkv, rfl, hat, hb⟩
    have Tg := Lib.hid hat
    have Eg := Lib.hid hkv
    have c_70 := (hb.cell (p := ⟨w.heap.size, 0, none⟩) s_59).trans c_58
    have s_71 : w.heap.size < w6.heap.size := Nat.lt_of_lt_of_le s_59 hb.size
    have c_72 := (hb.cell (p := ⟨w.heap.size + 1, 0, none⟩) s_61).trans c_60
    have s_73 : w.heap.size + 1 < w6.heap.size := Nat.lt_of_lt_of_le s_61 hb.size
    have c_74 := (hb.cell (p := ⟨gw, 0, none⟩) s_63).trans c_62
    have s_75 : gw < w6.heap.size := Nat.lt_of_lt_of_le s_63 hb.size
    have c_76 := (hb.cell (p := ⟨w4.heap.size, 0, none⟩) s_65).trans c_64
    have s_77 : w4.heap.size < w6.heap.size := Nat.lt_of_lt_of_le s_65 hb.size
    have c_78 := (hb.cell (p := ⟨w5.heap.size, 0, none⟩) s_56).trans c_55
    have s_79 : w5.heap.size < w6.heap.size := Nat.lt_of_lt_of_le s_56 hb.size
    have H_80 := Lib.hid (H_66.out.below hb)
    have H_81 := Lib.hid (H_67.out.below hb)
    have H_82 := Lib.hid (H_68.out.below hb)
    have HB := Lib.hid (HB.out.trans (hb.mono HB.out.size))
    have o_83 : V_54.heap.size ≤ w6.heap.size := hb.size
    clear c_58 s_59 c_60 s_61 c_62 s_63 c_64 s_65 c_55 s_56
    clear hat hkv hb
    go_upto_region 12 with fail
    obtain ⟨V_84, hV_84⟩ : ∃ V_84, w6.alloc (.cells #[.slice ag csg.length cg] 31) = V_84 := ⟨_, rfl⟩
    have bV_84 : Below w6.heap.size w6 V_84 := by rw [← hV_84]; exact (Below.refl _ _).alloc (Nat.le_refl _) _
    have c_85 : V_84.cell? ⟨w6.heap.size, 0, none⟩ = some (.slice ag csg.length cg) := by rw [← hV_84]; simp [go_sem]
    have s_86 : w6.heap.size < V_84.heap.size := by rw [← hV_84]; simp
    have k_87 : w6.heap.size < V_84.heap.size := s_86
    have c_88 := (bV_84.cell (p := ⟨w.heap.size, 0, none⟩) s_71).trans c_70
    have s_89 : w.heap.size < V_84.heap.size := Nat.lt_of_lt_of_le s_71 bV_84.size
    have c_90 := (bV_84.cell (p := ⟨w.heap.size + 1, 0, none⟩) s_73).trans c_72
    have s_91 : w.heap.size + 1 < V_84.heap.size := Nat.lt_of_lt_of_le s_73 bV_84.size
    have c_92 := (bV_84.cell (p := ⟨gw, 0, none⟩) s_75).trans c_74
    have s_93 : gw < V_84.heap.size := Nat.lt_of_lt_of_le s_75 bV_84.size
    have c_94 := (bV_84.cell (p := ⟨w4.heap.size, 0, none⟩) s_77).trans c_76
    have s_95 : w4.heap.size < V_84.heap.size := Nat.lt_of_lt_of_le s_77 bV_84.size
    have c_96 := (bV_84.cell (p := ⟨w5.heap.size, 0, none⟩) s_79).trans c_78
    have s_97 : w5.heap.size < V_84.heap.size := Nat.lt_of_lt_of_le s_79 bV_84.size
    have H_98 := Lib.hid (H_80.out.below bV_84)
    have H_99 := Lib.hid (H_81.out.below bV_84)
    have H_100 := Lib.hid (H_82.out.below bV_84)
    have H_101 := Lib.hid (Tg.out.below bV_84)
    have HB := Lib.hid (HB.out.trans (bV_84.mono HB.out.size))
    have o_102 : w6.heap.size ≤ V_84.heap.size := bV_84.size
    clear c_70 s_71 c_72 s_73 c_74 s_75 c_76 s_77 c_78 s_79
    clear bV_84
    rw [hV_84]
    clear hV_84
    have hOg : objOff csg csg.length ≤ 6291456 := by rw [off_of Eg.out]; exact HK.out
    have hOx : objOff csx csx.length ≤ 3145728 := by rw [off_of Ex.out]; exact HA.out.2.2.2
    have hOy : objOff csy csy.length ≤ 3145728 := by rw [off_of Ey.out]; exact HAb.out.2.2.2
    obtain ⟨r, hr⟩ : ∃ r, joinB (os.map ObjD.kv) (ps.map ObjD.kv) = r := ⟨_, rfl⟩
    have hrr : (decide (r = r)) = true := by simp
    rw [hr]
    have HR := Lib.hid hr
    clear hr
    go_wp2_with fail
    refine (eqVmap_at H_101.out H_98.out (Eg.out.trans Ew.out.symm) (fits_of_kv Eg.out HKF.out) (by have := objOff_ge csg; unfold maxLen; omega)).mono ?_
    rintro e w7 ⟨rfl, hb⟩
    have c_103 := (hb.cell (p := ⟨w.heap.size, 0, none⟩) s_89).trans c_88
    have s_104 : w.heap.size < w7.heap.size := Nat.lt_of_lt_of_le s_89 hb.size
    have c_105 := (hb.cell (p := ⟨w.heap.size + 1, 0, none⟩) s_91).trans c_90
    have s_106 : w.heap.size + 1 < w7.heap.size := Nat.lt_of_lt_of_le s_91 hb.size
    have c_107 := (hb.cell (p := ⟨gw, 0, none⟩) s_93).trans c_92
    have s_108 : gw < w7.heap.size := Nat.lt_of_lt_of_le s_93 hb.size
    have c_109 := (hb.cell (p := ⟨w4.heap.size, 0, none⟩) s_95).trans c_94
    have s_110 : w4.heap.size < w7.heap.size := Nat.lt_of_lt_of_le s_95 hb.size
    have c_111 := (hb.cell (p := ⟨w5.heap.size, 0, none⟩) s_97).trans c_96
    have s_112 : w5.heap.size < w7.heap.size := Nat.lt_of_lt_of_le s_97 hb.size
    have c_113 := (hb.cell (p := ⟨w6.heap.size, 0, none⟩) s_86).trans c_85
    have s_114 : w6.heap.size < w7.heap.size := Nat.lt_of_lt_of_le s_86 hb.size
    have H_115 := Lib.hid (H_98.out.below hb)
    have H_116 := Lib.hid (H_99.out.below hb)
    have H_117 := Lib.hid (H_100.out.below hb)
    have H_118 := Lib.hid (H_101.out.below hb)
    have HB := Lib.hid (HB.out.trans (hb.mono HB.out.size))
    have o_119 : V_84.heap.size ≤ w7.heap.size := hb.size
    clear c_88 s_89 c_90 s_91 c_92 s_93 c_94 s_95 c_96 s_97 c_85 s_86
    clear hb
    go_upto_region 14 with fail
    go_cut [58] from 17 (fun p u => p = .bool false ∧ Below w7.heap.size w7 u)
    case first =>
      have q : w7.cell? ⟨w4.heap.size, 0, none⟩ = some (.slice ax csx.length cx) ∧ w7.cell? ⟨w.heap.size, 0, none⟩ = some (.slice a os.length cap) ∧ Kp w7 (w4.heap.size) (w.heap.size) w7 := ⟨c_109, c_103, s_110, s_104, Below.refl _ _⟩
      go_region_held3 (fun u => u.cell? ⟨w4.heap.size, 0, none⟩ = some (.slice ax csx.length cx) ∧ u.cell? ⟨w.heap.size, 0, none⟩ = some (.slice a os.length cap) ∧ Kp w7 (w4.heap.size) (w.heap.size) u)
        (first | with_reducible exact q | with_reducible exact keep11 ((Below.refl _ _).drew) q)
        (first
          | (go_at_call 18; refine (toVmap_at a os cap _ (HV.out.below ((keep11_kp (W := w7) (n1 := w4.heap.size) (n2 := w.heap.size) (x0 := .slice ax csx.length cx) (y0 := .slice a os.length cap) (by with_reducible assumption)).from_ HB.out)) HA.out.2.1 HA.out.2.2.1).mono ?_; rintro e wA ⟨aA, csA, cA, hkA, rfl, hat, hb⟩; have q := keep11 (W := w7) (n1 := w4.heap.size) (n2 := w.heap.size) (x0 := .slice ax csx.length cx) (y0 := .slice a os.length cap) hb (by with_reducible assumption); have TA := Lib.hid hat; have EA := Lib.hid hkA; clear hat hb hkA)
          | (go_at_call 21; refine (eqVmap_at (H_116.out.below (keep11_kp (W := w7) (n1 := w4.heap.size) (n2 := w.heap.size) (x0 := .slice ax csx.length cx) (y0 := .slice a os.length cap) (by with_reducible assumption)).2.2) TA.out (Ex.out.trans EA.out.symm) (HA.out.same Ex.out).1 (by have := objOff_ge csx; unfold maxLen; omega)).mono ?_; rintro e wE ⟨rfl, hb⟩; have q := keep11 (W := w7) (n1 := w4.heap.size) (n2 := w.heap.size) (x0 := .slice ax csx.length cx) (y0 := .slice a os.length cap) hb (by with_reducible assumption); clear hb))
      all_goals (go_wp2_with fail; go_meet)
      all_goals exact ⟨rfl, (keep11_kp q).2.2⟩
    case rest =>
      obtain ⟨rfl, hb⟩ := hcut
      obtain ⟨w8, rfl⟩ : ∃ x, x = wc := ⟨_, rfl⟩
      have c_120 := (hb.cell (p := ⟨w.heap.size, 0, none⟩) s_104).trans c_103
      have s_121 : w.heap.size < w8.heap.size := Nat.lt_of_lt_of_le s_104 hb.size
      have c_122 := (hb.cell (p := ⟨w.heap.size + 1, 0, none⟩) s_106).trans c_105
      have s_123 : w.heap.size + 1 < w8.heap.size := Nat.lt_of_lt_of_le s_106 hb.size
      have c_124 := (hb.cell (p := ⟨gw, 0, none⟩) s_108).trans c_107
      have s_125 : gw < w8.heap.size := Nat.lt_of_lt_of_le s_108 hb.size
      have c_126 := (hb.cell (p := ⟨w4.heap.size, 0, none⟩) s_110).trans c_109
      have s_127 : w4.heap.size < w8.heap.size := Nat.lt_of_lt_of_le s_110 hb.size
      have c_128 := (hb.cell (p := ⟨w5.heap.size, 0, none⟩) s_112).trans c_111
      have s_129 : w5.heap.size < w8.heap.size := Nat.lt_of_lt_of_le s_112 hb.size
      have c_130 := (hb.cell (p := ⟨w6.heap.size, 0, none⟩) s_114).trans c_113
      have s_131 : w6.heap.size < w8.heap.size := Nat.lt_of_lt_of_le s_114 hb.size
      have H_132 := Lib.hid (H_115.out.below hb)
      have H_133 := Lib.hid (H_116.out.below hb)
      have H_134 := Lib.hid (H_117.out.below hb)
      have H_135 := Lib.hid (H_118.out.below hb)
      have HB := Lib.hid (HB.out.trans (hb.mono HB.out.size))
      have o_136 : w7.heap.size ≤ w8.heap.size := hb.size
      clear c_103 s_104 c_105 s_106 c_107 s_108 c_109 s_110 c_111 s_112 c_113 s_114
      clear hb
      go_upto_region 16 with fail
      go_cut [63] from 17 (fun p u => p = .bool false ∧ Below w8.heap.size w8 u)
      case first =>
        have q : w8.cell? ⟨w5.heap.size, 0, none⟩ = some (.slice ay csy.length cy) ∧ w8.cell? ⟨w.heap.size + 1, 0, none⟩ = some (.slice b ps.length capb) ∧ Kp w8 (w5.heap.size) (w.heap.size + 1) w8 := ⟨c_128, c_122, s_129, s_123, Below.refl _ _⟩
        go_region_held3 (fun u => u.cell? ⟨w5.heap.size, 0, none⟩ = some (.slice ay csy.length cy) ∧ u.cell? ⟨w.heap.size + 1, 0, none⟩ = some (.slice b ps.length capb) ∧ Kp w8 (w5.heap.size) (w.heap.size + 1) u)
          (first | with_reducible exact q | with_reducible exact keep11 ((Below.refl _ _).drew) q)
          (first
            | (go_at_call 18; refine (toVmap_at b ps capb _ (HU.out.below ((keep11_kp (W := w8) (n1 := w5.heap.size) (n2 := w.heap.size + 1) (x0 := .slice ay csy.length cy) (y0 := .slice b ps.length capb) (by with_reducible assumption)).from_ HB.out)) HAb.out.2.1 HAb.out.2.2.1).mono ?_; rintro e wA ⟨aA, csA, cA, hkA, rfl, hat, hb⟩; have q := keep11 (W := w8) (n1 := w5.heap.size) (n2 := w.heap.size + 1) (x0 := .slice ay csy.length cy) (y0 := .slice b ps.length capb) hb (by with_reducible assumption); have TA := Lib.hid hat; have EA := Lib.hid hkA; clear hat hb hkA)
            | (go_at_call 21; refine (eqVmap_at (H_134.out.below (keep11_kp (W := w8) (n1 := w5.heap.size) (n2 := w.heap.size + 1) (x0 := .slice ay csy.length cy) (y0 := .slice b ps.length capb) (by with_reducible assumption)).2.2) TA.out (Ey.out.trans EA.out.symm) (HAb.out.same Ey.out).1 (by have := objOff_ge csy; unfold maxLen; omega)).mono ?_; rintro e wE ⟨rfl, hb⟩; have q := keep11 (W := w8) (n1 := w5.heap.size) (n2 := w.heap.size + 1) (x0 := .slice ay csy.length cy) (y0 := .slice b ps.length capb) hb (by with_reducible assumption); clear hb))
        all_goals (go_wp2_with fail; go_meet)
        all_goals exact ⟨rfl, (keep11_kp q).2.2⟩
      case rest =>
        obtain ⟨rfl, hb⟩ := hcut
        obtain ⟨w9, rfl⟩ : ∃ x, x = wc := ⟨_, rfl⟩
        have c_137 := (hb.cell (p := ⟨w.heap.size, 0, none⟩) s_121).trans c_120
        have s_138 : w.heap.size < w9.heap.size := Nat.lt_of_lt_of_le s_121 hb.size
        have c_139 := (hb.cell (p := ⟨w.heap.size + 1, 0, none⟩) s_123).trans c_122
        have s_140 : w.heap.size + 1 < w9.heap.size := Nat.lt_of_lt_of_le s_123 hb.size
        have c_141 := (hb.cell (p := ⟨gw, 0, none⟩) s_125).trans c_124
        have s_142 : gw < w9.heap.size := Nat.lt_of_lt_of_le s_125 hb.size
        have c_143 := (hb.cell (p := ⟨w4.heap.size, 0, none⟩) s_127).trans c_126
        have s_144 : w4.heap.size < w9.heap.size := Nat.lt_of_lt_of_le s_127 hb.size
        have c_145 := (hb.cell (p := ⟨w5.heap.size, 0, none⟩) s_129).trans c_128
        have s_146 : w5.heap.size < w9.heap.size := Nat.lt_of_lt_of_le s_129 hb.size
        have c_147 := (hb.cell (p := ⟨w6.heap.size, 0, none⟩) s_131).trans c_130
        have s_148 : w6.heap.size < w9.heap.size := Nat.lt_of_lt_of_le s_131 hb.size
        have H_149 := Lib.hid (H_132.out.below hb)
        have H_150 := Lib.hid (H_133.out.below hb)
        have H_151 := Lib.hid (H_134.out.below hb)
        have H_152 := Lib.hid (H_135.out.below hb)
        have HB := Lib.hid (HB.out.trans (hb.mono HB.out.size))
        have o_153 : w8.heap.size ≤ w9.heap.size := hb.size
        clear c_120 s_121 c_122 s_123 c_124 s_125 c_126 s_127 c_128 s_129 c_130 s_131
        clear hb
        go_wp2_with fail
        refine (markVmap_at rfl H_150.out (k := 1) (by omega) (by omega)).mono ?_
        rintro e w10 ⟨rfl, hatm, hb⟩
        have c_154 := (hb.cellS (p := ⟨w.heap.size, 0, none⟩) s_138 (by show ¬ (_ ≤ w.heap.size ∧ w.heap.size < _); omega)).trans c_137
        have s_155 : w.heap.size < w10.heap.size := Nat.lt_of_lt_of_le s_138 hb.size
        have c_156 := (hb.cellS (p := ⟨w.heap.size + 1, 0, none⟩) s_140 (by show ¬ (_ ≤ w.heap.size + 1 ∧ w.heap.size + 1 < _); omega)).trans c_139
        have s_157 : w.heap.size + 1 < w10.heap.size := Nat.lt_of_lt_of_le s_140 hb.size
        have c_158 := (hb.cellS (p := ⟨gw, 0, none⟩) s_142 (by show ¬ (_ ≤ gw ∧ gw < _); omega)).trans c_141
        have s_159 : gw < w10.heap.size := Nat.lt_of_lt_of_le s_142 hb.size
        have c_160 := (hb.cellS (p := ⟨w4.heap.size, 0, none⟩) s_144 (by show ¬ (_ ≤ w4.heap.size ∧ w4.heap.size < _); omega)).trans c_143
        have s_161 : w4.heap.size < w10.heap.size := Nat.lt_of_lt_of_le s_144 hb.size
        have c_162 := (hb.cellS (p := ⟨w5.heap.size, 0, none⟩) s_146 (by show ¬ (_ ≤ w5.heap.size ∧ w5.heap.size < _); omega)).trans c_145
        have s_163 : w5.heap.size < w10.heap.size := Nat.lt_of_lt_of_le s_146 hb.size
        have c_164 := (hb.cellS (p := ⟨w6.heap.size, 0, none⟩) s_148 (by show ¬ (_ ≤ w6.heap.size ∧ w6.heap.size < _); omega)).trans c_147
        have s_165 : w6.heap.size < w10.heap.size := Nat.lt_of_lt_of_le s_148 hb.size
        have H_166 := Lib.hid (H_149.out.turned (by intro b h1 h2; omega) hb)
        have H_167 := Lib.hid (H_151.out.turned (by intro b h1 h2; omega) hb)
        have H_168 := Lib.hid (H_152.out.turned (by intro b h1 h2; omega) hb)
        have HB := Lib.hid (step_turned HB.out hb (by omega) HB.out.size)
        have o_169 : w9.heap.size ≤ w10.heap.size := hb.size
        clear c_137 s_138 c_139 s_140 c_141 s_142 c_143 s_144 c_145 s_146 c_147 s_148
        clear hatm hb
        go_wp2_with fail
        refine (markVmap_at rfl H_167.out (k := 1 + objOff csx csx.length) (by omega) (by omega)).mono ?_
        rintro e w11 ⟨rfl, hatm, hb⟩
        have c_170 := (hb.cellS (p := ⟨w.heap.size, 0, none⟩) s_155 (by show ¬ (_ ≤ w.heap.size ∧ w.heap.size < _); omega)).trans c_154
        have s_171 : w.heap.size < w11.heap.size := Nat.lt_of_lt_of_le s_155 hb.size
        have c_172 := (hb.cellS (p := ⟨w.heap.size + 1, 0, none⟩) s_157 (by show ¬ (_ ≤ w.heap.size + 1 ∧ w.heap.size + 1 < _); omega)).trans c_156
        have s_173 : w.heap.size + 1 < w11.heap.size := Nat.lt_of_lt_of_le s_157 hb.size
        have c_174 := (hb.cellS (p := ⟨gw, 0, none⟩) s_159 (by show ¬ (_ ≤ gw ∧ gw < _); omega)).trans c_158
        have s_175 : gw < w11.heap.size := Nat.lt_of_lt_of_le s_159 hb.size
        have c_176 := (hb.cellS (p := ⟨w4.heap.size, 0, none⟩) s_161 (by show ¬ (_ ≤ w4.heap.size ∧ w4.heap.size < _); omega)).trans c_160
        have s_177 : w4.heap.size < w11.heap.size := Nat.lt_of_lt_of_le s_161 hb.size
        have c_178 := (hb.cellS (p := ⟨w5.heap.size, 0, none⟩) s_163 (by show ¬ (_ ≤ w5.heap.size ∧ w5.heap.size < _); omega)).trans c_162
        have s_179 : w5.heap.size < w11.heap.size := Nat.lt_of_lt_of_le s_163 hb.size
        have c_180 := (hb.cellS (p := ⟨w6.heap.size, 0, none⟩) s_165 (by show ¬ (_ ≤ w6.heap.size ∧ w6.heap.size < _); omega)).trans c_164
        have s_181 : w6.heap.size < w11.heap.size := Nat.lt_of_lt_of_le s_165 hb.size
        have H_182 := Lib.hid (H_166.out.turned (by intro b h1 h2; omega) hb)
        have H_183 := Lib.hid (H_168.out.turned (by intro b h1 h2; omega) hb)
        have HB := Lib.hid (step_turned HB.out hb (by omega) HB.out.size)
        have o_184 : w10.heap.size ≤ w11.heap.size := hb.size
        clear c_154 s_155 c_156 s_157 c_158 s_159 c_160 s_161 c_162 s_163 c_164 s_165
        clear hatm hb
        have hpos : ¬ (((1 + objOff csx csx.length + objOff csy csy.length : Nat) : Int) < 0) := by omega
        go_wp2_with fail
        refine (eqVmap_at H_183.out H_182.out (Eg.out.trans Ew.out.symm) (fits_of_kv Eg.out HKF.out) (by have := objOff_ge csg; unfold maxLen; omega)).mono ?_
        rintro e w12 ⟨rfl, hb⟩
        have c_185 := (hb.cell (p := ⟨w.heap.size, 0, none⟩) s_171).trans c_170
        have s_186 : w.heap.size < w12.heap.size := Nat.lt_of_lt_of_le s_171 hb.size
        have c_187 := (hb.cell (p := ⟨w.heap.size + 1, 0, none⟩) s_173).trans c_172
        have s_188 : w.heap.size + 1 < w12.heap.size := Nat.lt_of_lt_of_le s_173 hb.size
        have c_189 := (hb.cell (p := ⟨gw, 0, none⟩) s_175).trans c_174
        have s_190 : gw < w12.heap.size := Nat.lt_of_lt_of_le s_175 hb.size
        have c_191 := (hb.cell (p := ⟨w4.heap.size, 0, none⟩) s_177).trans c_176
        have s_192 : w4.heap.size < w12.heap.size := Nat.lt_of_lt_of_le s_177 hb.size
        have c_193 := (hb.cell (p := ⟨w5.heap.size, 0, none⟩) s_179).trans c_178
        have s_194 : w5.heap.size < w12.heap.size := Nat.lt_of_lt_of_le s_179 hb.size
        have c_195 := (hb.cell (p := ⟨w6.heap.size, 0, none⟩) s_181).trans c_180
        have s_196 : w6.heap.size < w12.heap.size := Nat.lt_of_lt_of_le s_181 hb.size
        have H_197 := Lib.hid (H_182.out.below hb)
        have H_198 := Lib.hid (H_183.out.below hb)
        have HB := Lib.hid (HB.out.trans (hb.mono HB.out.size))
        have o_199 : w11.heap.size ≤ w12.heap.size := hb.size
        clear c_170 s_171 c_172 s_173 c_174 s_175 c_176 s_177 c_178 s_179 c_180 s_181
        clear hb
        go_wp2_with fail
        refine (markVmap_at rfl H_198.out (k := 1) (by omega) (by omega)).mono ?_
        rintro e w13 ⟨rfl, hatm, hb⟩
        have Tm := Lib.hid hatm
        have c_200 := (hb.cellS (p := ⟨w.heap.size, 0, none⟩) s_186 (by show ¬ (_ ≤ w.heap.size ∧ w.heap.size < _); omega)).trans c_185
        have s_201 : w.heap.size < w13.heap.size := Nat.lt_of_lt_of_le s_186 hb.size
        have c_202 := (hb.cellS (p := ⟨w.heap.size + 1, 0, none⟩) s_188 (by show ¬ (_ ≤ w.heap.size + 1 ∧ w.heap.size + 1 < _); omega)).trans c_187
        have s_203 : w.heap.size + 1 < w13.heap.size := Nat.lt_of_lt_of_le s_188 hb.size
        have c_204 := (hb.cellS (p := ⟨gw, 0, none⟩) s_190 (by show ¬ (_ ≤ gw ∧ gw < _); omega)).trans c_189
        have s_205 : gw < w13.heap.size := Nat.lt_of_lt_of_le s_190 hb.size
        have c_206 := (hb.cellS (p := ⟨w4.heap.size, 0, none⟩) s_192 (by show ¬ (_ ≤ w4.heap.size ∧ w4.heap.size < _); omega)).trans c_191
        have s_207 : w4.heap.size < w13.heap.size := Nat.lt_of_lt_of_le s_192 hb.size
        have c_208 := (hb.cellS (p := ⟨w5.heap.size, 0, none⟩) s_194 (by show ¬ (_ ≤ w5.heap.size ∧ w5.heap.size < _); omega)).trans c_193
        have s_209 : w5.heap.size < w13.heap.size := Nat.lt_of_lt_of_le s_194 hb.size
        have c_210 := (hb.cellS (p := ⟨w6.heap.size, 0, none⟩) s_196 (by show ¬ (_ ≤ w6.heap.size ∧ w6.heap.size < _); omega)).trans c_195
        have s_211 : w6.heap.size < w13.heap.size := Nat.lt_of_lt_of_le s_196 hb.size
        have H_212 := Lib.hid (H_197.out.turned (by intro b h1 h2; omega) hb)
        have HB := Lib.hid (step_turned HB.out hb (by omega) HB.out.size)
        have o_213 : w12.heap.size ≤ w13.heap.size := hb.size
        clear c_185 s_186 c_187 s_188 c_189 s_190 c_191 s_192 c_193 s_194 c_195 s_196
        clear hatm hb
        go_wp2_with fail
        refine (heldVmap_at rfl Tm.out (by omega) (by omega)).mono ?_
        rintro e w14 ⟨rfl, hb⟩
        have c_214 := (hb.cell (p := ⟨w.heap.size, 0, none⟩) s_201).trans c_200
        have s_215 : w.heap.size < w14.heap.size := Nat.lt_of_lt_of_le s_201 hb.size
        have c_216 := (hb.cell (p := ⟨w.heap.size + 1, 0, none⟩) s_203).trans c_202
        have s_217 : w.heap.size + 1 < w14.heap.size := Nat.lt_of_lt_of_le s_203 hb.size
        have c_218 := (hb.cell (p := ⟨gw, 0, none⟩) s_205).trans c_204
        have s_219 : gw < w14.heap.size := Nat.lt_of_lt_of_le s_205 hb.size
        have c_220 := (hb.cell (p := ⟨w4.heap.size, 0, none⟩) s_207).trans c_206
        have s_221 : w4.heap.size < w14.heap.size := Nat.lt_of_lt_of_le s_207 hb.size
        have c_222 := (hb.cell (p := ⟨w5.heap.size, 0, none⟩) s_209).trans c_208
        have s_223 : w5.heap.size < w14.heap.size := Nat.lt_of_lt_of_le s_209 hb.size
        have c_224 := (hb.cell (p := ⟨w6.heap.size, 0, none⟩) s_211).trans c_210
        have s_225 : w6.heap.size < w14.heap.size := Nat.lt_of_lt_of_le s_211 hb.size
        have H_226 := Lib.hid (H_212.out.below hb)
        have H_227 := Lib.hid (Tm.out.below hb)
        have HB := Lib.hid (HB.out.trans (hb.mono HB.out.size))
        have o_228 : w13.heap.size ≤ w14.heap.size := hb.size
        clear c_200 s_201 c_202 s_203 c_204 s_205 c_206 s_207 c_208 s_209 c_210 s_211
        clear hb
        rw [← HR.out]
        go_upto_region 31 with fail
        go_cut [15, 16] from 17 (fun p r u => r = .bool (joinB (os.map ObjD.kv) (ps.map ObjD.kv)) ∧ NewVm w14 (joinF (os.map ObjD.kv) (ps.map ObjD.kv)) p u)
        case first =>
          have q : w14.cell? ⟨w.heap.size, 0, none⟩ = some (.slice a os.length cap) ∧ w14.cell? ⟨w.heap.size + 1, 0, none⟩ = some (.slice b ps.length capb) ∧ Kp w14 (w.heap.size) (w.heap.size + 1) w14 := ⟨c_214, c_216, s_215, s_217, Below.refl _ _⟩
          have hn1 : w.heap.size < w14.heap.size := s_215
          have hn2 : w.heap.size + 1 < w14.heap.size := s_217
          go_region_held3 (fun u => u.cell? ⟨w.heap.size, 0, none⟩ = some (.slice a os.length cap) ∧ u.cell? ⟨w.heap.size + 1, 0, none⟩ = some (.slice b ps.length capb) ∧ Kp w14 (w.heap.size) (w.heap.size + 1) u)
            (first | with_reducible exact q | with_reducible exact keep11 ((Below.refl _ _).drew) q | with_reducible exact keep11 ((Below.refl _ _).alloc (Nat.le_refl _) _) q | with_reducible exact keep11 (((Below.refl _ _).alloc (Nat.le_refl _) _).drew) q | with_reducible exact keep11_set q hn1 hn2 (by omega) | fail)
            (first
              | (go_at_call 18; refine (toVmap_at a os cap _ (HV.out.below ((keep11_kp (W := w14) (n1 := w.heap.size) (n2 := w.heap.size + 1) (x0 := .slice a os.length cap) (y0 := .slice b ps.length capb) (by with_reducible assumption)).from_ HB.out)) HA.out.2.1 HA.out.2.2.1).mono ?_; rintro e wA ⟨aA, csA, cA, hkA, rfl, hat, hb⟩; have q := keep11 (W := w14) (n1 := w.heap.size) (n2 := w.heap.size + 1) (x0 := .slice a os.length cap) (y0 := .slice b ps.length capb) hb (by with_reducible assumption); (try ((first | with_reducible refine of_new1 hb ?_ | with_reducible refine of_new1D hb ?_ | with_reducible refine of_carry1 hb zn ?_); intro zn; have zn0 := zn.1; have zn1 := zn.2.1; have zn2 := zn.2.2)); have TA := Lib.hid hat; have EA := Lib.hid hkA; have szA := (keep11_kp q).size; clear hat hb hkA)
              | (go_at_call 18; refine (toVmap_at b ps capb _ (HU.out.below ((keep11_kp (W := w14) (n1 := w.heap.size) (n2 := w.heap.size + 1) (x0 := .slice a os.length cap) (y0 := .slice b ps.length capb) (by with_reducible assumption)).from_ HB.out)) HAb.out.2.1 HAb.out.2.2.1).mono ?_; rintro e wB ⟨aB, csB, cB, hkB, rfl, hat, hb⟩; have q := keep11 (W := w14) (n1 := w.heap.size) (n2 := w.heap.size + 1) (x0 := .slice a os.length cap) (y0 := .slice b ps.length capb) hb (by with_reducible assumption); (try ((first | with_reducible refine of_new1 hb ?_ | with_reducible refine of_new1D hb ?_ | with_reducible refine of_carry1 hb zn ?_); intro zn; have zn0 := zn.1; have zn1 := zn.2.1; have zn2 := zn.2.2)); (try (first | (have TA := Lib.hid (TA.out.below hb)) | (have TA := Lib.hid ((TA.out.below ((Below.refl _ _).alloc (Nat.le_refl _) _)).below hb)))); have TB := Lib.hid hat; have EB := Lib.hid hkB; have szB := (keep11_kp q).size; clear hat hb hkB)
              | (go_at_call 25; (try have zl := zn.2.2); refine (vmapJoin_at (by first | with_reducible exact TA.out | with_reducible exact (TA.out.below ((Below.refl _ _).alloc (Nat.le_refl _) _))) (by first | with_reducible exact TB.out | with_reducible exact (TB.out.below ((Below.refl _ _).alloc (Nat.le_refl _) _))) EA.out EB.out HA.out HAb.out).mono ?_; rintro e wC ⟨aC, csC, cC, hkC, rfl, hat, hb⟩; have q := keep11 (W := w14) (n1 := w.heap.size) (n2 := w.heap.size + 1) (x0 := .slice a os.length cap) (y0 := .slice b ps.length capb) hb (by with_reducible assumption); (try ((first | with_reducible refine of_new1 hb ?_ | with_reducible refine of_new1D hb ?_ | with_reducible refine of_carry1 hb zn ?_); intro zn; have zn0 := zn.1; have zn1 := zn.2.1; have zn2 := zn.2.2)); have EC := Lib.hid hkC; have TC := Lib.hid hat; have szC := (keep11_kp q).size; clear hkC hat hb)
              | fail)
          all_goals (go_wp2_with fail; go_meet)
          all_goals
            first | exact ⟨rfl, newVm_A (keep11_kp q) EC.out TC.out (by first | omega | (simp; omega))⟩ | exact ⟨rfl, newVm_B (keep11_kp q) EC.out TC.out zn (by omega) (by first | omega | (simp; omega) | simp)⟩
        case rest =>
          obtain ⟨rfl, gh, lh, hh, ah, csh, ch, rfl, hb, hg1, hg2, hg3, hg4, e0, hkv, hat⟩ := hcut
          have Eh := Lib.hid hkv
          have Th := Lib.hid hat
          obtain ⟨w15, rfl⟩ : ∃ x, x = wc := ⟨_, rfl⟩
          have hih : hh ≤ w15.heap.size := hat.le
          have c_229 := (hb.cell (p := ⟨w.heap.size, 0, none⟩) s_215).trans c_214
          have s_230 : w.heap.size < w15.heap.size := Nat.lt_of_lt_of_le s_215 hb.size
          have c_231 := (hb.cell (p := ⟨w.heap.size + 1, 0, none⟩) s_217).trans c_216
          have s_232 : w.heap.size + 1 < w15.heap.size := Nat.lt_of_lt_of_le s_217 hb.size
          have c_233 := (hb.cell (p := ⟨gw, 0, none⟩) s_219).trans c_218
          have s_234 : gw < w15.heap.size := Nat.lt_of_lt_of_le s_219 hb.size
          have c_235 := (hb.cell (p := ⟨w4.heap.size, 0, none⟩) s_221).trans c_220
          have s_236 : w4.heap.size < w15.heap.size := Nat.lt_of_lt_of_le s_221 hb.size
          have c_237 := (hb.cell (p := ⟨w5.heap.size, 0, none⟩) s_223).trans c_222
          have s_238 : w5.heap.size < w15.heap.size := Nat.lt_of_lt_of_le s_223 hb.size
          have c_239 := (hb.cell (p := ⟨w6.heap.size, 0, none⟩) s_225).trans c_224
          have s_240 : w6.heap.size < w15.heap.size := Nat.lt_of_lt_of_le s_225 hb.size
          have H_241 := Lib.hid (H_226.out.below hb)
          have H_242 := Lib.hid (H_227.out.below hb)
          have HB := Lib.hid (HB.out.trans (hb.mono HB.out.size))
          have o_243 : w14.heap.size ≤ w15.heap.size := hb.size
          clear c_214 s_215 c_216 s_217 c_218 s_219 c_220 s_221 c_222 s_223 c_224 s_225
          have c_244 := e0
          have s_245 := hg2
          have k_246 : gh < w15.heap.size := hg2
          have m_247 := hg1
          have m_248 := hg3
          have m_249 := hg4
          clear hkv hb hat e0 hg1 hg2 hg3 hg4
          rw [HR.out]
          have hOh : objOff csh csh.length ≤ 6291456 := by rw [off_of Eh.out]; exact HK.out
          go_wp2_with fail
          refine (eqVmap_at Th.out H_241.out (Eh.out.trans Ew.out.symm) (fits_of_kv Eh.out HKF.out) (by have := objOff_ge csh; unfold maxLen; omega)).mono ?_
          rintro e w16 ⟨rfl, hb⟩
          have c_250 := (hb.cell (p := ⟨w.heap.size, 0, none⟩) s_230).trans c_229
          have s_251 : w.heap.size < w16.heap.size := Nat.lt_of_lt_of_le s_230 hb.size
          have c_252 := (hb.cell (p := ⟨w.heap.size + 1, 0, none⟩) s_232).trans c_231
          have s_253 : w.heap.size + 1 < w16.heap.size := Nat.lt_of_lt_of_le s_232 hb.size
          have c_254 := (hb.cell (p := ⟨gw, 0, none⟩) s_234).trans c_233
          have s_255 : gw < w16.heap.size := Nat.lt_of_lt_of_le s_234 hb.size
          have c_256 := (hb.cell (p := ⟨w4.heap.size, 0, none⟩) s_236).trans c_235
          have s_257 : w4.heap.size < w16.heap.size := Nat.lt_of_lt_of_le s_236 hb.size
          have c_258 := (hb.cell (p := ⟨w5.heap.size, 0, none⟩) s_238).trans c_237
          have s_259 : w5.heap.size < w16.heap.size := Nat.lt_of_lt_of_le s_238 hb.size
          have c_260 := (hb.cell (p := ⟨w6.heap.size, 0, none⟩) s_240).trans c_239
          have s_261 : w6.heap.size < w16.heap.size := Nat.lt_of_lt_of_le s_240 hb.size
          have c_262 := (hb.cell (p := ⟨gh, 0, none⟩) s_245).trans c_244
          have s_263 : gh < w16.heap.size := Nat.lt_of_lt_of_le s_245 hb.size
          have H_264 := Lib.hid (H_241.out.below hb)
          have H_265 := Lib.hid (H_242.out.below hb)
          have H_266 := Lib.hid (Th.out.below hb)
          have HB := Lib.hid (HB.out.trans (hb.mono HB.out.size))
          have o_267 : w15.heap.size ≤ w16.heap.size := hb.size
          clear c_229 s_230 c_231 s_232 c_233 s_234 c_235 s_236 c_237 s_238 c_239 s_240 c_244 s_245
          clear hb
          go_wp2_with fail
          refine (heldVmap_at rfl H_265.out (by omega) (by omega)).mono ?_
          rintro e w17 ⟨rfl, hb⟩
          have c_268 := (hb.cell (p := ⟨w.heap.size, 0, none⟩) s_251).trans c_250
          have s_269 : w.heap.size < w17.heap.size := Nat.lt_of_lt_of_le s_251 hb.size
          have c_270 := (hb.cell (p := ⟨w.heap.size + 1, 0, none⟩) s_253).trans c_252
          have s_271 : w.heap.size + 1 < w17.heap.size := Nat.lt_of_lt_of_le s_253 hb.size
          have c_272 := (hb.cell (p := ⟨gw, 0, none⟩) s_255).trans c_254
          have s_273 : gw < w17.heap.size := Nat.lt_of_lt_of_le s_255 hb.size
          have c_274 := (hb.cell (p := ⟨w4.heap.size, 0, none⟩) s_257).trans c_256
          have s_275 : w4.heap.size < w17.heap.size := Nat.lt_of_lt_of_le s_257 hb.size
          have c_276 := (hb.cell (p := ⟨w5.heap.size, 0, none⟩) s_259).trans c_258
          have s_277 : w5.heap.size < w17.heap.size := Nat.lt_of_lt_of_le s_259 hb.size
          have c_278 := (hb.cell (p := ⟨w6.heap.size, 0, none⟩) s_261).trans c_260
          have s_279 : w6.heap.size < w17.heap.size := Nat.lt_of_lt_of_le s_261 hb.size
          have c_280 := (hb.cell (p := ⟨gh, 0, none⟩) s_263).trans c_262
          have s_281 : gh < w17.heap.size := Nat.lt_of_lt_of_le s_263 hb.size
          have H_282 := Lib.hid (H_264.out.below hb)
          have H_283 := Lib.hid (H_265.out.below hb)
          have H_284 := Lib.hid (H_266.out.below hb)
          have HB := Lib.hid (HB.out.trans (hb.mono HB.out.size))
          have o_285 : w16.heap.size ≤ w17.heap.size := hb.size
          clear c_250 s_251 c_252 s_253 c_254 s_255 c_256 s_257 c_258 s_259 c_260 s_261 c_262 s_263
          clear hb
          go_wp2_with fail
          go_ret
          exact ⟨rfl, HB.out⟩
end Go.Proofs.Ytmabffdocofijaa
