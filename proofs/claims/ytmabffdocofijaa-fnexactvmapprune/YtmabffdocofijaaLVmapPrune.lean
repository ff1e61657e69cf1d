/- The law of VmapPrune, walked. -/
import Derived.Test.YtmabffdocofijaaLawV
import Derived.Test.YtmabffdocofijaaVPruneS
import Derived.Test.YtmabffdocofijaaVPruneI
namespace Go.Proofs.Ytmabffdocofijaa
open Go.RowKit

theorem specVmapPrune_at {lo_ hi_ : Nat} {a : Option Addr} {cs os : List ObjD} {c : Nat} {id : Int} {w : World} (h : VmAt w lo_ hi_ a cs) (e : cs.map ObjD.kv = os.map ObjD.kv) (hA : ArgOk os) :
    Calls Try.prog 26 #[.agg #[.slice a cs.length c], .int .i64 id] w (VmOut (pruneF id (os.map ObjD.kv)) w) := by
  obtain ⟨h1, h2, h3, _⟩ := hA.same e
  rw [← e]; exact specVmapPrune_any a cs c id w h.in1 h1 h.pl h2 h3
theorem vmapPrune_at {lo_ hi_ : Nat} {a : Option Addr} {cs os : List ObjD} {c : Nat} {id : Int} {w : World} (h : VmAt w lo_ hi_ a cs) (e : cs.map ObjD.kv = os.map ObjD.kv) (hA : ArgOk os) :
    Calls Try.prog 27 #[.agg #[.slice a cs.length c], .int .i64 id] w (VmOut (pruneF id (os.map ObjD.kv)) w) := by
  obtain ⟨h1, h2, h3, _⟩ := hA.same e
  rw [← e]; exact vmapPrune_any a cs c id w h.in1 h1 h.pl h2 h3

set_option maxRecDepth 100000 in
set_option maxHeartbeats 8000000 in
theorem vmapPrune_law (a : Option Addr) (os : List ObjD) (cap : Nat) (id : Int) (w : World) (hv : ObjsIn w a os) (hf : ∀ o ∈ os, o.fits) (hn : os.length ≤ maxLen) :
    Calls Try.prog 5 #[.agg #[.slice a os.length cap], .int .i64 id] w fun e w' => e = .returned (.bool true) ∧ Below w.heap.size w w' := by
  have HV := Lib.hid hv
  have HF := Lib.hid hf
  have HN := Lib.hid hn
  clear hv hf hn
  obtain ⟨W0, hW0⟩ : ∃ W0, w.alloc (.cells #[.slice a os.length cap] 24) = W0 := ⟨_, rfl⟩
  have HB : Below w.heap.size w W0 := by rw [← hW0]; exact (Below.refl _ _).alloc (Nat.le_refl _) _
  have xa0 : W0.cell? ⟨w.heap.size, 0, none⟩ = some (.slice a os.length cap) := by rw [← hW0]; simp [go_sem]
  have sa : w.heap.size < W0.heap.size := by rw [← hW0]; simp
  have ka : w.heap.size < W0.heap.size := sa
  have HB := Lib.hid HB
  go_enter Try.func5, Try.ntmps5
  go_wp2_with fail
  clear hW0
  refine (szVmap_any a os cap _ _ (HV.out.below HB.out) HF.out HN.out (by omega) (by omega)).mono ?_
  rintro e w1 ⟨z, rfl, hz, hb⟩
  have c_1 := (hb.cell (p := ⟨w.heap.size, 0, none⟩) sa).trans xa0
  have s_2 : w.heap.size < w1.heap.size := Nat.lt_of_lt_of_le sa hb.size
  have HB := Lib.hid (HB.out.trans (hb.mono HB.out.size))
  have o_3 : W0.heap.size ≤ w1.heap.size := hb.size
  clear xa0 sa
  clear hb
  rcases hz with rfl | ⟨hz, hsum⟩
  · go_wp2_with fail
    go_ret
    exact ⟨rfl, HB.out⟩
  have HA := Lib.hid (argOk_of HF.out (by omega))
  clear hsum
  have HK := Lib.hid (Nat.le_trans (pruneF_off id (os.map ObjD.kv)) HA.out.2.2.2)
  have HKF := Lib.hid (pruneF_fits (id := id) (kvFits_of HA.out.1))
  go_wp2_with fail
  refine (toVmap_at a os cap _ (HV.out.below HB.out) HA.out.2.1 HA.out.2.2.1).mono ?_
  rintro e w2 ⟨av, csv, cv, hkv, rfl, hat, hb⟩
  have Tv := Lib.hid hat
  have Ev := Lib.hid hkv
  have c_4 := (hb.cell (p := ⟨w.heap.size, 0, none⟩) s_2).trans c_1
  have s_5 : w.heap.size < w2.heap.size := Nat.lt_of_lt_of_le s_2 hb.size
  have HB := Lib.hid (HB.out.trans (hb.mono HB.out.size))
  have o_6 : w1.heap.size ≤ w2.heap.size := hb.size
  clear c_1 s_2
  clear hat hkv hb
  go_wp2_with fail
  refine (specVmapPrune_at Tv.out Ev.out HA.out).mono ?_
  rintro e w3 ⟨aw, csw, cw, hkv, rfl, hat, hb⟩
  have Tw := Lib.hid hat
  have Ew := Lib.hid hkv
  have c_7 := (hb.cell (p := ⟨w.heap.size, 0, none⟩) s_5).trans c_4
  have s_8 : w.heap.size < w3.heap.size := Nat.lt_of_lt_of_le s_5 hb.size
  have HB := Lib.hid (HB.out.trans (hb.mono HB.out.size))
  have o_9 : w2.heap.size ≤ w3.heap.size := hb.size
  clear c_4 s_5
  clear hat hkv hb
  go_upto_region 6 with fail
  obtain ⟨V_10, hV_10⟩ : ∃ V_10, w3.alloc (.cells #[.slice aw csw.length cw] 31) = V_10 := ⟨_, rfl⟩
  have bV_10 : Below w3.heap.size w3 V_10 := by rw [← hV_10]; exact (Below.refl _ _).alloc (Nat.le_refl _) _
  have c_11 : V_10.cell? ⟨w3.heap.size, 0, none⟩ = some (.slice aw csw.length cw) := by rw [← hV_10]; simp [go_sem]
  have s_12 : w3.heap.size < V_10.heap.size := by rw [← hV_10]; simp
  have k_13 : w3.heap.size < V_10.heap.size := s_12
  have c_14 := (bV_10.cell (p := ⟨w.heap.size, 0, none⟩) s_8).trans c_7
  have s_15 : w.heap.size < V_10.heap.size := Nat.lt_of_lt_of_le s_8 bV_10.size
  have H_16 := Lib.hid (Tw.out.below bV_10)
  have HB := Lib.hid (HB.out.trans (bV_10.mono HB.out.size))
  have o_17 : w3.heap.size ≤ V_10.heap.size := bV_10.size
  clear c_7 s_8
  clear bV_10
  rw [hV_10]
  clear hV_10
  go_wp2_with fail
  refine (toVmap_at a os cap _ (HV.out.below HB.out) HA.out.2.1 HA.out.2.2.1).mono ?_
  rintro e w4 ⟨ax, csx, cx, hkv, rfl, hat, hb⟩
  have Tx := Lib.hid hat
  have Ex := Lib.hid hkv
  have c_18 := (hb.cell (p := ⟨w.heap.size, 0, none⟩) s_15).trans c_14
  have s_19 : w.heap.size < w4.heap.size := Nat.lt_of_lt_of_le s_15 hb.size
  have c_20 := (hb.cell (p := ⟨w3.heap.size, 0, none⟩) s_12).trans c_11
  have s_21 : w3.heap.size < w4.heap.size := Nat.lt_of_lt_of_le s_12 hb.size
  have H_22 := Lib.hid (H_16.out.below hb)
  have HB := Lib.hid (HB.out.trans (hb.mono HB.out.size))
  have o_23 : V_10.heap.size ≤ w4.heap.size := hb.size
  clear c_14 s_15 c_11 s_12
  clear hat hkv hb
  go_upto_region 7 with fail
  obtain ⟨V_24, hV_24⟩ : ∃ V_24, w4.alloc (.cells #[.slice ax csx.length cx] 31) = V_24 := ⟨_, rfl⟩
  have bV_24 : Below w4.heap.size w4 V_24 := by rw [← hV_24]; exact (Below.refl _ _).alloc (Nat.le_refl _) _
  have c_25 : V_24.cell? ⟨w4.heap.size, 0, none⟩ = some (.slice ax csx.length cx) := by rw [← hV_24]; simp [go_sem]
  have s_26 : w4.heap.size < V_24.heap.size := by rw [← hV_24]; simp
  have k_27 : w4.heap.size < V_24.heap.size := s_26
  have c_28 := (bV_24.cell (p := ⟨w.heap.size, 0, none⟩) s_19).trans c_18
  have s_29 : w.heap.size < V_24.heap.size := Nat.lt_of_lt_of_le s_19 bV_24.size
  have c_30 := (bV_24.cell (p := ⟨w3.heap.size, 0, none⟩) s_21).trans c_20
  have s_31 : w3.heap.size < V_24.heap.size := Nat.lt_of_lt_of_le s_21 bV_24.size
  have H_32 := Lib.hid (H_22.out.below bV_24)
  have H_33 := Lib.hid (Tx.out.below bV_24)
  have HB := Lib.hid (HB.out.trans (bV_24.mono HB.out.size))
  have o_34 : w4.heap.size ≤ V_24.heap.size := bV_24.size
  clear c_18 s_19 c_20 s_21
  clear bV_24
  rw [hV_24]
  clear hV_24
  go_wp2_with fail
  refine (vmapPrune_at H_33.out Ex.out HA.out).mono ?_
  rintro e w5 ⟨ag, csg, cg, hkv, rfl, hat, hb⟩
  have Tg := Lib.hid hat
  have Eg := Lib.hid hkv
  have c_35 := (hb.cell (p := ⟨w.heap.size, 0, none⟩) s_29).trans c_28
  have s_36 : w.heap.size < w5.heap.size := Nat.lt_of_lt_of_le s_29 hb.size
  have c_37 := (hb.cell (p := ⟨w3.heap.size, 0, none⟩) s_31).trans c_30
  have s_38 : w3.heap.size < w5.heap.size := Nat.lt_of_lt_of_le s_31 hb.size
  have c_39 := (hb.cell (p := ⟨w4.heap.size, 0, none⟩) s_26).trans c_25
  have s_40 : w4.heap.size < w5.heap.size := Nat.lt_of_lt_of_le s_26 hb.size
  have H_41 := Lib.hid (H_32.out.below hb)
  have H_42 := Lib.hid (H_33.out.below hb)
  have HB := Lib.hid (HB.out.trans (hb.mono HB.out.size))
  have o_43 : V_24.heap.size ≤ w5.heap.size := hb.size
  clear c_28 s_29 c_30 s_31 c_25 s_26
  clear hat hkv hb
  go_upto_region 8 with fail
  obtain ⟨V_44, hV_44⟩ : ∃ V_44, w5.alloc (.cells #[.slice ag csg.length cg] 31) = V_44 := ⟨_, rfl⟩
  have bV_44 : Below w5.heap.size w5 V_44 := by rw [← hV_44]; exact (Below.refl _ _).alloc (Nat.le_refl _) _
  have c_45 : V_44.cell? ⟨w5.heap.size, 0, none⟩ = some (.slice ag csg.length cg) := by rw [← hV_44]; simp [go_sem]
  have s_46 : w5.heap.size < V_44.heap.size := by rw [← hV_44]; simp
  have k_47 : w5.heap.size < V_44.heap.size := s_46
  have c_48 := (bV_44.cell (p := ⟨w.heap.size, 0, none⟩) s_36).trans c_35
  have s_49 : w.heap.size < V_44.heap.size := Nat.lt_of_lt_of_le s_36 bV_44.size
  have c_50 := (bV_44.cell (p := ⟨w3.heap.size, 0, none⟩) s_38).trans c_37
  have s_51 : w3.heap.size < V_44.heap.size := Nat.lt_of_lt_of_le s_38 bV_44.size
  have c_52 := (bV_44.cell (p := ⟨w4.heap.size, 0, none⟩) s_40).trans c_39
  have s_53 : w4.heap.size < V_44.heap.size := Nat.lt_of_lt_of_le s_40 bV_44.size
  have H_54 := Lib.hid (H_41.out.below bV_44)
  have H_55 := Lib.hid (H_42.out.below bV_44)
  have H_56 := Lib.hid (Tg.out.below bV_44)
  have HB := Lib.hid (HB.out.trans (bV_44.mono HB.out.size))
  have o_57 : w5.heap.size ≤ V_44.heap.size := bV_44.size
  clear c_35 s_36 c_37 s_38 c_39 s_40
  clear bV_44
  rw [hV_44]
  clear hV_44
  have hOg : objOff csg csg.length ≤ 3145728 := by rw [off_of Eg.out]; exact HK.out
  have hOx : objOff csx csx.length ≤ 3145728 := by rw [off_of Ex.out]; exact HA.out.2.2.2
  go_wp2_with fail
  refine (eqVmap_at H_56.out H_54.out (Eg.out.trans Ew.out.symm) (fits_of_kv Eg.out HKF.out) (by have := objOff_ge csg; unfold maxLen; omega)).mono ?_
  rintro e w6 ⟨rfl, hb⟩
  have c_58 := (hb.cell (p := ⟨w.heap.size, 0, none⟩) s_49).trans c_48
  have s_59 : w.heap.size < w6.heap.size := Nat.lt_of_lt_of_le s_49 hb.size
  have c_60 := (hb.cell (p := ⟨w3.heap.size, 0, none⟩) s_51).trans c_50
  have s_61 : w3.heap.size < w6.heap.size := Nat.lt_of_lt_of_le s_51 hb.size
  have c_62 := (hb.cell (p := ⟨w4.heap.size, 0, none⟩) s_53).trans c_52
  have s_63 : w4.heap.size < w6.heap.size := Nat.lt_of_lt_of_le s_53 hb.size
  have c_64 := (hb.cell (p := ⟨w5.heap.size, 0, none⟩) s_46).trans c_45
  have s_65 : w5.heap.size < w6.heap.size := Nat.lt_of_lt_of_le s_46 hb.size
  have H_66 := Lib.hid (H_54.out.below hb)
  have H_67 := Lib.hid (H_55.out.below hb)
  have H_68 := Lib.hid (H_56.out.below hb)
  have HB := Lib.hid (HB.out.trans (hb.mono HB.out.size))
  have o_69 : V_44.heap.size ≤ w6.heap.size := hb.size
  clear c_48 s_49 c_50 s_51 c_52 s_53 c_45 s_46
  clear hb
  go_upto_region 10 with fail
  go_cut [35] from 13 (fun p u => p = .bool false ∧ Below w6.heap.size w6 u)
  case first =>
    have q : w6.cell? ⟨w4.heap.size, 0, none⟩ = some (.slice ax csx.length cx) ∧ w6.cell? ⟨w.heap.size, 0, none⟩ = some (.slice a os.length cap) ∧ Kp w6 (w4.heap.size) (w.heap.size) w6 := ⟨c_62, c_58, s_63, s_59, Below.refl _ _⟩
    go_region_held3 (fun u => u.cell? ⟨w4.heap.size, 0, none⟩ = some (.slice ax csx.length cx) ∧ u.cell? ⟨w.heap.size, 0, none⟩ = some (.slice a os.length cap) ∧ Kp w6 (w4.heap.size) (w.heap.size) u)
      (first | with_reducible exact q | with_reducible exact keep11 ((Below.refl _ _).drew) q)
      (first
        | (go_at_call 18; refine (toVmap_at a os cap _ (HV.out.below ((keep11_kp (W := w6) (n1 := w4.heap.size) (n2 := w.heap.size) (x0 := .slice ax csx.length cx) (y0 := .slice a os.length cap) (by with_reducible assumption)).from_ HB.out)) HA.out.2.1 HA.out.2.2.1).mono ?_; rintro e wA ⟨aA, csA, cA, hkA, rfl, hat, hb⟩; have q := keep11 (W := w6) (n1 := w4.heap.size) (n2 := w.heap.size) (x0 := .slice ax csx.length cx) (y0 := .slice a os.length cap) hb (by with_reducible assumption); have TA := Lib.hid hat; have EA := Lib.hid hkA; clear hat hb hkA)
        | (go_at_call 21; refine (eqVmap_at (H_67.out.below (keep11_kp (W := w6) (n1 := w4.heap.size) (n2 := w.heap.size) (x0 := .slice ax csx.length cx) (y0 := .slice a os.length cap) (by with_reducible assumption)).2.2) TA.out (Ex.out.trans EA.out.symm) (HA.out.same Ex.out).1 (by have := objOff_ge csx; unfold maxLen; omega)).mono ?_; rintro e wE ⟨rfl, hb⟩; have q := keep11 (W := w6) (n1 := w4.heap.size) (n2 := w.heap.size) (x0 := .slice ax csx.length cx) (y0 := .slice a os.length cap) hb (by with_reducible assumption); clear hb))
    all_goals (go_wp2_with fail; go_meet)
    all_goals exact ⟨rfl, (keep11_kp q).2.2⟩
  case rest =>
    obtain ⟨rfl, hb⟩ := hcut
    obtain ⟨w7, rfl⟩ : ∃ x, x = wc := ⟨_, rfl⟩
    have c_70 := (hb.cell (p := ⟨w.heap.size, 0, none⟩) s_59).trans c_58
    have s_71 : w.heap.size < w7.heap.size := Nat.lt_of_lt_of_le s_59 hb.size
    have c_72 := (hb.cell (p := ⟨w3.heap.size, 0, none⟩) s_61).trans c_60
    have s_73 : w3.heap.size < w7.heap.size := Nat.lt_of_lt_of_le s_61 hb.size
    have c_74 := (hb.cell (p := ⟨w4.heap.size, 0, none⟩) s_63).trans c_62
    have s_75 : w4.heap.size < w7.heap.size := Nat.lt_of_lt_of_le s_63 hb.size
    have c_76 := (hb.cell (p := ⟨w5.heap.size, 0, none⟩) s_65).trans c_64
    have s_77 : w5.heap.size < w7.heap.size := Nat.lt_of_lt_of_le s_65 hb.size
    have H_78 := Lib.hid (H_66.out.below hb)
    have H_79 := Lib.hid (H_67.out.below hb)
    have H_80 := Lib.hid (H_68.out.below hb)
    have HB := Lib.hid (HB.out.trans (hb.mono HB.out.size))
    have o_81 : w6.heap.size ≤ w7.heap.size := hb.size
    clear c_58 s_59 c_60 s_61 c_62 s_63 c_64 s_65
    clear hb
    go_wp2_with fail
    refine (markVmap_at rfl H_79.out (k := 1) (by omega) (by omega)).mono ?_
    rintro e w8 ⟨rfl, hatm, hb⟩
    have c_82 := (hb.cellS (p := ⟨w.heap.size, 0, none⟩) s_71 (by show ¬ (_ ≤ w.heap.size ∧ w.heap.size < _); omega)).trans c_70
    have s_83 : w.heap.size < w8.heap.size := Nat.lt_of_lt_of_le s_71 hb.size
    have c_84 := (hb.cellS (p := ⟨w3.heap.size, 0, none⟩) s_73 (by show ¬ (_ ≤ w3.heap.size ∧ w3.heap.size < _); omega)).trans c_72
    have s_85 : w3.heap.size < w8.heap.size := Nat.lt_of_lt_of_le s_73 hb.size
    have c_86 := (hb.cellS (p := ⟨w4.heap.size, 0, none⟩) s_75 (by show ¬ (_ ≤ w4.heap.size ∧ w4.heap.size < _); omega)).trans c_74
    have s_87 : w4.heap.size < w8.heap.size := Nat.lt_of_lt_of_le s_75 hb.size
    have c_88 := (hb.cellS (p := ⟨w5.heap.size, 0, none⟩) s_77 (by show ¬ (_ ≤ w5.heap.size ∧ w5.heap.size < _); omega)).trans c_76
    have s_89 : w5.heap.size < w8.heap.size := Nat.lt_of_lt_of_le s_77 hb.size
    have H_90 := Lib.hid (H_78.out.turned (by intro b h1 h2; omega) hb)
    have H_91 := Lib.hid (H_80.out.turned (by intro b h1 h2; omega) hb)
    have HB := Lib.hid (step_turned HB.out hb (by omega) HB.out.size)
    have o_92 : w7.heap.size ≤ w8.heap.size := hb.size
    clear c_70 s_71 c_72 s_73 c_74 s_75 c_76 s_77
    clear hatm hb
    go_wp2_with fail
    refine (eqVmap_at H_91.out H_90.out (Eg.out.trans Ew.out.symm) (fits_of_kv Eg.out HKF.out) (by have := objOff_ge csg; unfold maxLen; omega)).mono ?_
    rintro e w9 ⟨rfl, hb⟩
    have c_93 := (hb.cell (p := ⟨w.heap.size, 0, none⟩) s_83).trans c_82
    have s_94 : w.heap.size < w9.heap.size := Nat.lt_of_lt_of_le s_83 hb.size
    have c_95 := (hb.cell (p := ⟨w3.heap.size, 0, none⟩) s_85).trans c_84
    have s_96 : w3.heap.size < w9.heap.size := Nat.lt_of_lt_of_le s_85 hb.size
    have c_97 := (hb.cell (p := ⟨w4.heap.size, 0, none⟩) s_87).trans c_86
    have s_98 : w4.heap.size < w9.heap.size := Nat.lt_of_lt_of_le s_87 hb.size
    have c_99 := (hb.cell (p := ⟨w5.heap.size, 0, none⟩) s_89).trans c_88
    have s_100 : w5.heap.size < w9.heap.size := Nat.lt_of_lt_of_le s_89 hb.size
    have H_101 := Lib.hid (H_90.out.below hb)
    have H_102 := Lib.hid (H_91.out.below hb)
    have HB := Lib.hid (HB.out.trans (hb.mono HB.out.size))
    have o_103 : w8.heap.size ≤ w9.heap.size := hb.size
    clear c_82 s_83 c_84 s_85 c_86 s_87 c_88 s_89
    clear hb
    go_wp2_with fail
    refine (markVmap_at rfl H_102.out (k := 1) (by omega) (by omega)).mono ?_
    rintro e w10 ⟨rfl, hatm, hb⟩
    have Tm := Lib.hid hatm
    have c_104 := (hb.cellS (p := ⟨w.heap.size, 0, none⟩) s_94 (by show ¬ (_ ≤ w.heap.size ∧ w.heap.size < _); omega)).trans c_93
    have s_105 : w.heap.size < w10.heap.size := Nat.lt_of_lt_of_le s_94 hb.size
    have c_106 := (hb.cellS (p := ⟨w3.heap.size, 0, none⟩) s_96 (by show ¬ (_ ≤ w3.heap.size ∧ w3.heap.size < _); omega)).trans c_95
    have s_107 : w3.heap.size < w10.heap.size := Nat.lt_of_lt_of_le s_96 hb.size
    have c_108 := (hb.cellS (p := ⟨w4.heap.size, 0, none⟩) s_98 (by show ¬ (_ ≤ w4.heap.size ∧ w4.heap.size < _); omega)).trans c_97
    have s_109 : w4.heap.size < w10.heap.size := Nat.lt_of_lt_of_le s_98 hb.size
    have c_110 := (hb.cellS (p := ⟨w5.heap.size, 0, none⟩) s_100 (by show ¬ (_ ≤ w5.heap.size ∧ w5.heap.size < _); omega)).trans c_99
    have s_111 : w5.heap.size < w10.heap.size := Nat.lt_of_lt_of_le s_100 hb.size
    have H_112 := Lib.hid (H_101.out.turned (by intro b h1 h2; omega) hb)
    have HB := Lib.hid (step_turned HB.out hb (by omega) HB.out.size)
    have o_113 : w9.heap.size ≤ w10.heap.size := hb.size
    clear c_93 s_94 c_95 s_96 c_97 s_98 c_99 s_100
    clear hatm hb
    go_wp2_with fail
    refine (heldVmap_at rfl Tm.out (by omega) (by omega)).mono ?_
    rintro e w11 ⟨rfl, hb⟩
    have c_114 := (hb.cell (p := ⟨w.heap.size, 0, none⟩) s_105).trans c_104
    have s_115 : w.heap.size < w11.heap.size := Nat.lt_of_lt_of_le s_105 hb.size
    have c_116 := (hb.cell (p := ⟨w3.heap.size, 0, none⟩) s_107).trans c_106
    have s_117 : w3.heap.size < w11.heap.size := Nat.lt_of_lt_of_le s_107 hb.size
    have c_118 := (hb.cell (p := ⟨w4.heap.size, 0, none⟩) s_109).trans c_108
    have s_119 : w4.heap.size < w11.heap.size := Nat.lt_of_lt_of_le s_109 hb.size
    have c_120 := (hb.cell (p := ⟨w5.heap.size, 0, none⟩) s_111).trans c_110
    have s_121 : w5.heap.size < w11.heap.size := Nat.lt_of_lt_of_le s_111 hb.size
    have H_122 := Lib.hid (H_112.out.below hb)
    have H_123 := Lib.hid (Tm.out.below hb)
    have HB := Lib.hid (HB.out.trans (hb.mono HB.out.size))
    have o_124 : w10.heap.size ≤ w11.heap.size := hb.size
    clear c_104 s_105 c_106 s_107 c_108 s_109 c_110 s_111
    clear hb
    go_wp2_with fail
    refine (toVmap_at a os cap _ (HV.out.below HB.out) HA.out.2.1 HA.out.2.2.1).mono ?_
    rintro e w12 ⟨ay, csy, cy, hkv, rfl, hat, hb⟩
    have Ty := Lib.hid hat
    have Ey := Lib.hid hkv
    have c_125 := (hb.cell (p := ⟨w.heap.size, 0, none⟩) s_115).trans c_114
    have s_126 : w.heap.size < w12.heap.size := Nat.lt_of_lt_of_le s_115 hb.size
    have c_127 := (hb.cell (p := ⟨w3.heap.size, 0, none⟩) s_117).trans c_116
    have s_128 : w3.heap.size < w12.heap.size := Nat.lt_of_lt_of_le s_117 hb.size
    have c_129 := (hb.cell (p := ⟨w4.heap.size, 0, none⟩) s_119).trans c_118
    have s_130 : w4.heap.size < w12.heap.size := Nat.lt_of_lt_of_le s_119 hb.size
    have c_131 := (hb.cell (p := ⟨w5.heap.size, 0, none⟩) s_121).trans c_120
    have s_132 : w5.heap.size < w12.heap.size := Nat.lt_of_lt_of_le s_121 hb.size
    have H_133 := Lib.hid (H_122.out.below hb)
    have H_134 := Lib.hid (H_123.out.below hb)
    have HB := Lib.hid (HB.out.trans (hb.mono HB.out.size))
    have o_135 : w11.heap.size ≤ w12.heap.size := hb.size
    clear c_114 s_115 c_116 s_117 c_118 s_119 c_120 s_121
    clear hat hkv hb
    go_wp2_with fail
    refine (vmapPrune_at Ty.out Ey.out HA.out).mono ?_
    rintro e w13 ⟨ah, csh, ch, hkv, rfl, hat, hb⟩
    have Th := Lib.hid hat
    have Eh := Lib.hid hkv
    have c_136 := (hb.cell (p := ⟨w.heap.size, 0, none⟩) s_126).trans c_125
    have s_137 : w.heap.size < w13.heap.size := Nat.lt_of_lt_of_le s_126 hb.size
    have c_138 := (hb.cell (p := ⟨w3.heap.size, 0, none⟩) s_128).trans c_127
    have s_139 : w3.heap.size < w13.heap.size := Nat.lt_of_lt_of_le s_128 hb.size
    have c_140 := (hb.cell (p := ⟨w4.heap.size, 0, none⟩) s_130).trans c_129
    have s_141 : w4.heap.size < w13.heap.size := Nat.lt_of_lt_of_le s_130 hb.size
    have c_142 := (hb.cell (p := ⟨w5.heap.size, 0, none⟩) s_132).trans c_131
    have s_143 : w5.heap.size < w13.heap.size := Nat.lt_of_lt_of_le s_132 hb.size
    have H_144 := Lib.hid (H_133.out.below hb)
    have H_145 := Lib.hid (H_134.out.below hb)
    have HB := Lib.hid (HB.out.trans (hb.mono HB.out.size))
    have o_146 : w12.heap.size ≤ w13.heap.size := hb.size
    clear c_125 s_126 c_127 s_128 c_129 s_130 c_131 s_132
    clear hat hkv hb
    go_upto_region 25 with fail
    obtain ⟨V_147, hV_147⟩ : ∃ V_147, w13.alloc (.cells #[.slice ah csh.length ch] 31) = V_147 := ⟨_, rfl⟩
    have bV_147 : Below w13.heap.size w13 V_147 := by rw [← hV_147]; exact (Below.refl _ _).alloc (Nat.le_refl _) _
    have c_148 : V_147.cell? ⟨w13.heap.size, 0, none⟩ = some (.slice ah csh.length ch) := by rw [← hV_147]; simp [go_sem]
    have s_149 : w13.heap.size < V_147.heap.size := by rw [← hV_147]; simp
    have k_150 : w13.heap.size < V_147.heap.size := s_149
    have c_151 := (bV_147.cell (p := ⟨w.heap.size, 0, none⟩) s_137).trans c_136
    have s_152 : w.heap.size < V_147.heap.size := Nat.lt_of_lt_of_le s_137 bV_147.size
    have c_153 := (bV_147.cell (p := ⟨w3.heap.size, 0, none⟩) s_139).trans c_138
    have s_154 : w3.heap.size < V_147.heap.size := Nat.lt_of_lt_of_le s_139 bV_147.size
    have c_155 := (bV_147.cell (p := ⟨w4.heap.size, 0, none⟩) s_141).trans c_140
    have s_156 : w4.heap.size < V_147.heap.size := Nat.lt_of_lt_of_le s_141 bV_147.size
    have c_157 := (bV_147.cell (p := ⟨w5.heap.size, 0, none⟩) s_143).trans c_142
    have s_158 : w5.heap.size < V_147.heap.size := Nat.lt_of_lt_of_le s_143 bV_147.size
    have H_159 := Lib.hid (H_144.out.below bV_147)
    have H_160 := Lib.hid (H_145.out.below bV_147)
    have H_161 := Lib.hid (Th.out.below bV_147)
    have HB := Lib.hid (HB.out.trans (bV_147.mono HB.out.size))
    have o_162 : w13.heap.size ≤ V_147.heap.size := bV_147.size
    clear c_136 s_137 c_138 s_139 c_140 s_141 c_142 s_143
    clear bV_147
    rw [hV_147]
    clear hV_147
    have hOh : objOff csh csh.length ≤ 3145728 := by rw [off_of Eh.out]; exact HK.out
    go_wp2_with fail
    refine (eqVmap_at H_161.out H_159.out (Eh.out.trans Ew.out.symm) (fits_of_kv Eh.out HKF.out) (by have := objOff_ge csh; unfold maxLen; omega)).mono ?_
    rintro e w14 ⟨rfl, hb⟩
    have c_163 := (hb.cell (p := ⟨w.heap.size, 0, none⟩) s_152).trans c_151
    have s_164 : w.heap.size < w14.heap.size := Nat.lt_of_lt_of_le s_152 hb.size
    have c_165 := (hb.cell (p := ⟨w3.heap.size, 0, none⟩) s_154).trans c_153
    have s_166 : w3.heap.size < w14.heap.size := Nat.lt_of_lt_of_le s_154 hb.size
    have c_167 := (hb.cell (p := ⟨w4.heap.size, 0, none⟩) s_156).trans c_155
    have s_168 : w4.heap.size < w14.heap.size := Nat.lt_of_lt_of_le s_156 hb.size
    have c_169 := (hb.cell (p := ⟨w5.heap.size, 0, none⟩) s_158).trans c_157
    have s_170 : w5.heap.size < w14.heap.size := Nat.lt_of_lt_of_le s_158 hb.size
    have c_171 := (hb.cell (p := ⟨w13.heap.size, 0, none⟩) s_149).trans c_148
    have s_172 : w13.heap.size < w14.heap.size := Nat.lt_of_lt_of_le s_149 hb.size
    have H_173 := Lib.hid (H_159.out.below hb)
    have H_174 := Lib.hid (H_160.out.below hb)
    have H_175 := Lib.hid (H_161.out.below hb)
    have HB := Lib.hid (HB.out.trans (hb.mono HB.out.size))
    have o_176 : V_147.heap.size ≤ w14.heap.size := hb.size
    clear c_151 s_152 c_153 s_154 c_155 s_156 c_157 s_158 c_148 s_149
    clear hb
    go_wp2_with fail
    refine (heldVmap_at rfl H_174.out (by omega) (by omega)).mono ?_
    rintro e w15 ⟨rfl, hb⟩
    have c_177 := (hb.cell (p := ⟨w.heap.size, 0, none⟩) s_164).trans c_163
    have s_178 : w.heap.size < w15.heap.size := Nat.lt_of_lt_of_le s_164 hb.size
    have c_179 := (hb.cell (p := ⟨w3.heap.size, 0, none⟩) s_166).trans c_165
    have s_180 : w3.heap.size < w15.heap.size := Nat.lt_of_lt_of_le s_166 hb.size
    have c_181 := (hb.cell (p := ⟨w4.heap.size, 0, none⟩) s_168).trans c_167
    have s_182 : w4.heap.size < w15.heap.size := Nat.lt_of_lt_of_le s_168 hb.size
    have c_183 := (hb.cell (p := ⟨w5.heap.size, 0, none⟩) s_170).trans c_169
    have s_184 : w5.heap.size < w15.heap.size := Nat.lt_of_lt_of_le s_170 hb.size
    have c_185 := (hb.cell (p := ⟨w13.heap.size, 0, none⟩) s_172).trans c_171
    have s_186 : w13.heap.size < w15.heap.size := Nat.lt_of_lt_of_le s_172 hb.size
    have H_187 := Lib.hid (H_173.out.below hb)
    have H_188 := Lib.hid (H_174.out.below hb)
    have H_189 := Lib.hid (H_175.out.below hb)
    have HB := Lib.hid (HB.out.trans (hb.mono HB.out.size))
    have o_190 : w14.heap.size ≤ w15.heap.size := hb.size
    clear c_163 s_164 c_165 s_166 c_167 s_168 c_169 s_170 c_171 s_172
    clear hb
    go_wp2_with fail
    go_ret
    exact ⟨rfl, HB.out⟩
end Go.Proofs.Ytmabffdocofijaa
