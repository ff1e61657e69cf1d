/- The law FnRouteAll: all rows are known, and right. -/
import Derived.Test.YtjijichgoodocaaFraM
namespace Go.Proofs.Ytjijichgoodocaa
open Go.RowKit

def FindIsK (r : Int) (ep : Int) (vs : List RowD) (key : ByteArray) : Prop := (PmapOkP ep vs ∧ keyOkB key = true → ∃ k : Nat, r = k ∧ FindAt vs key k) ∧ (¬ (PmapOkP ep vs ∧ keyOkB key = true) → r = -1)
theorem keyOk_b {s : ByteArray} {b : Bool} (h : keyOkB s = b) (hs : s.size ≤ maxLen) (w : World) :
    Calls Try.prog 60 #[.string s] w fun e w' => e = .returned (.bool b) ∧ Below w.heap.size w w' := (keyOk_is h hs w).mono fun e w' ⟨he, hw⟩ => ⟨he, hw ▸ Below.refl _ _⟩

theorem routeRight_yes {ks : List KnownD} {ep : Int} {vs : List RowD} (hr : RightP ks ep vs) (a : Option Addr) (cap : Nat) (am : Option Addr) (cm : Nat) (w : World) (hk : KnownsIn w a ks) (hkf : ∀ v ∈ ks, v.fits) (hkn : ks.length ≤ maxLen) (hv : RowsIn w am vs) (hf : ∀ v ∈ vs, v.fits) (hn : vs.length ≤ 1048576) :
    Calls Try.prog 59 #[.slice a ks.length cap, .agg #[.int .i64 ep, .slice am vs.length cm]] w fun e w' => e = .returned (.bool true) ∧ Below w.heap.size w w' :=
  (routeRight_any a ks cap ep am vs cm w hk hkf hkn hv hf hn).mono fun e w' ⟨b, he, hb, hbl⟩ => ⟨by rw [he, hb.2 hr], hbl⟩

set_option maxRecDepth 100000 in
set_option maxHeartbeats 8000000 in
theorem fnRouteAll_law (a : Option Addr) (len cap : Nat) (am2 : Option Addr) (len2 cap2 : Nat) (w : World) (h : BytesIn w a len cap) (h2 : BytesIn w am2 len2 cap2) :
    Calls Try.prog 12 #[.slice a len cap, .slice am2 len2 cap2] w fun e w' => e = .returned (.bool true) ∧ Below w.heap.size w w' := by
  have hcm := h.2.1
  have hlc := h.1
  have hcm2 := h2.2.1
  have hlc2 := h2.1
  have H := Lib.hid h
  clear h
  unfold maxLen at hcm hcm2
  by_cases hl : 1048576 < len
  · go_enter Try.func12, Try.ntmps12
    go_wp2_with fail
    go_ret
    exact ⟨rfl, Below.refl _ _⟩
  by_cases hl2 : 1048576 < len2
  · go_enter Try.func12, Try.ntmps12
    go_wp2_with fail
    go_ret
    exact ⟨rfl, Below.refl _ _⟩
  go_enter Try.func12, Try.ntmps12
  go_wp2_with fail
  refine (drawRouteAll_any a len cap _ H.out).mono ?_
  rintro e w1 ⟨ep, vs, am, c, rfl, hD, hb⟩
  have HB := Lib.hid hb
  have hv5 := hD.five
  have hv0 := hD.pos
  have HF := Lib.hid hD.fits
  have HD := Lib.hid hD
  have HM := Lib.hid (h2.below hb)
  clear hD hb H h2
  obtain ⟨V_1, hV_1⟩ : ∃ V_1, w1.alloc (.cells #[.int .i64 ep, .slice am vs.length c] 90) = V_1 := ⟨_, rfl⟩
  have bV_1 : Below w1.heap.size w1 V_1 := by rw [← hV_1]; exact (Below.refl _ _).alloc (Nat.le_refl _) _
  have c_2 : V_1.cell? ⟨w1.heap.size, 0, none⟩ = some (.int .i64 ep) := by rw [← hV_1]; simp [go_sem]
  have c_3 : V_1.cell? ⟨w1.heap.size, 1, none⟩ = some (.slice am vs.length c) := by rw [← hV_1]; simp [go_sem]
  have s_4 : w1.heap.size < V_1.heap.size := by rw [← hV_1]; simp
  have k_5 : w1.heap.size < V_1.heap.size := s_4
  have H_6 := Lib.hid (HD.out.below bV_1)
  have H_7 := Lib.hid (HM.out.below bV_1)
  have HB := Lib.hid (HB.out.trans (bV_1.mono HB.out.size))
  have o_8 : w1.heap.size ≤ V_1.heap.size := bV_1.size
  clear bV_1
  go_wp2_with fail
  clear hV_1
  refine (routeAll_any ep am vs c _ H_6.out.inn HF.out (by omega)).mono ?_
  rintro e w2 ⟨us, hrel, al, cl, rfl, hat, hb⟩
  have c_9 := (hb.cell (p := ⟨w1.heap.size, 0, none⟩) s_4).trans c_2
  have c_10 := (hb.cell (p := ⟨w1.heap.size, 1, none⟩) s_4).trans c_3
  have s_11 : w1.heap.size < w2.heap.size := Nat.lt_of_lt_of_le s_4 hb.size
  have H_12 := Lib.hid (H_6.out.below hb)
  have H_13 := Lib.hid (H_7.out.below hb)
  have HB := Lib.hid (HB.out.trans (hb.mono HB.out.size))
  have o_14 : V_1.heap.size ≤ w2.heap.size := hb.size
  clear c_2 c_3 s_4
  have HL := Lib.hid hat.in1
  have HRL := Lib.hid hrel
  clear hb hat hrel
  have hul : us.length ≤ 5 := by rcases HRL.out with ⟨_, h⟩ | ⟨_, h⟩ <;> rw [h]; rw [kRows_len]; omega; exact Nat.zero_le _
  rcases Nat.eq_zero_or_pos us.length with hu0 | hu0
  · obtain rfl := List.eq_nil_of_length_eq_zero hu0
    clear hu0 hul
    go_wp2_with fail
    refine (specRouteAll_any ep am vs c _ H_12.out.inn HF.out (by omega)).mono ?_
    rintro e w3 ⟨us2, hrel, al2, cl2, rfl, hat, hb⟩
    obtain rfl := RouteAllRel.unique HRL.out hrel
    have c_1015 := (hb.cell (p := ⟨w1.heap.size, 0, none⟩) s_11).trans c_9
    have c_1016 := (hb.cell (p := ⟨w1.heap.size, 1, none⟩) s_11).trans c_10
    have s_1017 : w1.heap.size < w3.heap.size := Nat.lt_of_lt_of_le s_11 hb.size
    have H_1018 := Lib.hid (H_12.out.below hb)
    have H_1019 := Lib.hid (H_13.out.below hb)
    have H_1020 := Lib.hid (HL.out.below hb)
    have HB := Lib.hid (HB.out.trans (hb.mono HB.out.size))
    have o_1021 : w2.heap.size ≤ w3.heap.size := hb.size
    clear c_9 c_10 s_11
    have HL2 := Lib.hid hat.in1
    clear hb hat hrel
    go_wp2_with fail
    refine (caKnown_same al al2 [] cl cl2 _ H_1020.out HL2.out (by simp)).mono ?_
    rintro e w4 ⟨rfl, hb⟩
    have c_1022 := (hb.cell (p := ⟨w1.heap.size, 0, none⟩) s_1017).trans c_1015
    have c_1023 := (hb.cell (p := ⟨w1.heap.size, 1, none⟩) s_1017).trans c_1016
    have s_1024 : w1.heap.size < w4.heap.size := Nat.lt_of_lt_of_le s_1017 hb.size
    have H_1025 := Lib.hid (H_1018.out.below hb)
    have H_1026 := Lib.hid (H_1019.out.below hb)
    have H_1027 := Lib.hid (H_1020.out.below hb)
    have H_1028 := Lib.hid (HL2.out.below hb)
    have HB := Lib.hid (HB.out.trans (hb.mono HB.out.size))
    have o_1029 : w3.heap.size ≤ w4.heap.size := hb.size
    clear c_1015 c_1016 s_1017
    clear hb
    go_wp2_with fail
    refine (specRouteAll_any ep am vs c _ H_1025.out.inn HF.out (by omega)).mono ?_
    rintro e w3 ⟨us2, hrel, al2, cl2, rfl, hat, hb⟩
    obtain rfl := RouteAllRel.unique HRL.out hrel
    have c_1030 := (hb.cell (p := ⟨w1.heap.size, 0, none⟩) s_1024).trans c_1022
    have c_1031 := (hb.cell (p := ⟨w1.heap.size, 1, none⟩) s_1024).trans c_1023
    have s_1032 : w1.heap.size < w3.heap.size := Nat.lt_of_lt_of_le s_1024 hb.size
    have H_1033 := Lib.hid (H_1025.out.below hb)
    have H_1034 := Lib.hid (H_1026.out.below hb)
    have H_1035 := Lib.hid (H_1027.out.below hb)
    have HB := Lib.hid (HB.out.trans (hb.mono HB.out.size))
    have o_1036 : w4.heap.size ≤ w3.heap.size := hb.size
    clear c_1022 c_1023 s_1024
    have HL2 := Lib.hid hat.in1
    clear hb hat hrel
    go_wp2_with fail
    refine (caKnown_same al al2 [] cl cl2 _ H_1035.out HL2.out (by simp)).mono ?_
    rintro e w4 ⟨rfl, hb⟩
    have c_1037 := (hb.cell (p := ⟨w1.heap.size, 0, none⟩) s_1032).trans c_1030
    have c_1038 := (hb.cell (p := ⟨w1.heap.size, 1, none⟩) s_1032).trans c_1031
    have s_1039 : w1.heap.size < w4.heap.size := Nat.lt_of_lt_of_le s_1032 hb.size
    have H_1040 := Lib.hid (H_1033.out.below hb)
    have H_1041 := Lib.hid (H_1034.out.below hb)
    have H_1042 := Lib.hid (H_1035.out.below hb)
    have H_1043 := Lib.hid (HL2.out.below hb)
    have HB := Lib.hid (HB.out.trans (hb.mono HB.out.size))
    have o_1044 : w3.heap.size ≤ w4.heap.size := hb.size
    clear c_1030 c_1031 s_1032
    clear hb
    go_wp2_with fail
    go_ret
    exact ⟨rfl, HB.out⟩
  have hp : PmapOkP ep vs ∧ us = kRows ep vs vs.length := by rcases HRL.out with h | ⟨_, h⟩; exact h; rw [h] at hu0; simp at hu0
  obtain ⟨hP, hus⟩ := hp
  have HP := Lib.hid hP
  have HUS := Lib.hid hus
  clear hP hus
  have huz : ((us.length : Int) == 0) = false := by simp; intro e; rw [e] at hu0; simp at hu0
  have huf : ∀ u ∈ us, u.fits := by rw [HUS.out]; exact kRows_fits HF.out _
  have HUF := Lib.hid huf
  clear huf
  go_wp2_with fail
  refine (specRouteAll_any ep am vs c _ H_12.out.inn HF.out (by omega)).mono ?_
  rintro e w3 ⟨us2, hrel, al2, cl2, rfl, hat, hb⟩
  obtain rfl := RouteAllRel.unique HRL.out hrel
  have c_15 := (hb.cell (p := ⟨w1.heap.size, 0, none⟩) s_11).trans c_9
  have c_16 := (hb.cell (p := ⟨w1.heap.size, 1, none⟩) s_11).trans c_10
  have s_17 : w1.heap.size < w3.heap.size := Nat.lt_of_lt_of_le s_11 hb.size
  have H_18 := Lib.hid (H_12.out.below hb)
  have H_19 := Lib.hid (H_13.out.below hb)
  have H_20 := Lib.hid (HL.out.below hb)
  have HB := Lib.hid (HB.out.trans (hb.mono HB.out.size))
  have o_21 : w2.heap.size ≤ w3.heap.size := hb.size
  clear c_9 c_10 s_11
  have HL2 := Lib.hid hat.in1
  clear hb hat hrel
  go_wp2_with fail
  refine (caKnown_same al al2 us cl cl2 _ H_20.out HL2.out (by omega)).mono ?_
  rintro e w4 ⟨rfl, hb⟩
  have c_22 := (hb.cell (p := ⟨w1.heap.size, 0, none⟩) s_17).trans c_15
  have c_23 := (hb.cell (p := ⟨w1.heap.size, 1, none⟩) s_17).trans c_16
  have s_24 : w1.heap.size < w4.heap.size := Nat.lt_of_lt_of_le s_17 hb.size
  have H_25 := Lib.hid (H_18.out.below hb)
  have H_26 := Lib.hid (H_19.out.below hb)
  have H_27 := Lib.hid (H_20.out.below hb)
  have H_28 := Lib.hid (HL2.out.below hb)
  have HB := Lib.hid (HB.out.trans (hb.mono HB.out.size))
  have o_29 : w3.heap.size ≤ w4.heap.size := hb.size
  clear c_15 c_16 s_17
  clear hb
  go_wp2_with fail
  refine (drawRouteFind_any am2 len2 cap2 _ H_26.out).mono ?_
  rintro e w5 ⟨ks, kb, kc, key, hkey, rfl, hK, hb⟩
  have HKY := Lib.hid hkey
  clear hkey hK
  have c_30 := (hb.cell (p := ⟨w1.heap.size, 0, none⟩) s_24).trans c_22
  have c_31 := (hb.cell (p := ⟨w1.heap.size, 1, none⟩) s_24).trans c_23
  have s_32 : w1.heap.size < w5.heap.size := Nat.lt_of_lt_of_le s_24 hb.size
  have H_33 := Lib.hid (H_25.out.below hb)
  have H_34 := Lib.hid (H_26.out.below hb)
  have H_35 := Lib.hid (H_27.out.below hb)
  have HB := Lib.hid (HB.out.trans (hb.mono HB.out.size))
  have o_36 : w4.heap.size ≤ w5.heap.size := hb.size
  clear c_22 c_23 s_24
  clear hb
  go_wp2_with fail
  refine (routeFind_any al us cl key _ H_35.out HUF.out (by unfold maxLen; omega) HKY.out).mono ?_
  rintro e w6 ⟨r, rb, rfl, hr, hb⟩
  have c_37 := (hb.cell (p := ⟨w1.heap.size, 0, none⟩) s_32).trans c_30
  have c_38 := (hb.cell (p := ⟨w1.heap.size, 1, none⟩) s_32).trans c_31
  have s_39 : w1.heap.size < w6.heap.size := Nat.lt_of_lt_of_le s_32 hb.size
  have H_40 := Lib.hid (H_33.out.below hb)
  have H_41 := Lib.hid (H_35.out.below hb)
  have HB := Lib.hid (HB.out.trans (hb.mono HB.out.size))
  have o_42 : w5.heap.size ≤ w6.heap.size := hb.size
  clear c_30 c_31 s_32
  have HR := Lib.hid hr
  clear hb hr
  obtain ⟨V_43, hV_43⟩ : ∃ V_43, w6.alloc (.cells #[.string r.f0, .string r.f1, .int .i64 r.f2, .int .i64 r.f3] 84) = V_43 := ⟨_, rfl⟩
  have bV_43 : Below w6.heap.size w6 V_43 := by rw [← hV_43]; exact (Below.refl _ _).alloc (Nat.le_refl _) _
  have c_44 : V_43.cell? ⟨w6.heap.size, 0, none⟩ = some (.string r.f0) := by rw [← hV_43]; simp [go_sem]
  have c_45 : V_43.cell? ⟨w6.heap.size, 1, none⟩ = some (.string r.f1) := by rw [← hV_43]; simp [go_sem]
  have c_46 : V_43.cell? ⟨w6.heap.size, 2, none⟩ = some (.int .i64 r.f2) := by rw [← hV_43]; simp [go_sem]
  have c_47 : V_43.cell? ⟨w6.heap.size, 3, none⟩ = some (.int .i64 r.f3) := by rw [← hV_43]; simp [go_sem]
  have s_48 : w6.heap.size < V_43.heap.size := by rw [← hV_43]; simp
  have k_49 : w6.heap.size < V_43.heap.size := s_48
  have c_50 := (bV_43.cell (p := ⟨w1.heap.size, 0, none⟩) s_39).trans c_37
  have c_51 := (bV_43.cell (p := ⟨w1.heap.size, 1, none⟩) s_39).trans c_38
  have s_52 : w1.heap.size < V_43.heap.size := Nat.lt_of_lt_of_le s_39 bV_43.size
  have H_53 := Lib.hid (H_40.out.below bV_43)
  have H_54 := Lib.hid (H_41.out.below bV_43)
  have HB := Lib.hid (HB.out.trans (bV_43.mono HB.out.size))
  have o_55 : w6.heap.size ≤ V_43.heap.size := bV_43.size
  clear c_37 c_38 s_39
  clear bV_43
  go_wp2_with fail
  clear hV_43
  refine (pmapFind_any ep am vs c key _ H_53.out.inn HF.out (by omega) HKY.out).mono ?_
  rintro e w7 ⟨q, rfl, hq1, hq2, hb⟩
  have c_56 := (hb.cell (p := ⟨w1.heap.size, 0, none⟩) s_52).trans c_50
  have c_57 := (hb.cell (p := ⟨w1.heap.size, 1, none⟩) s_52).trans c_51
  have s_58 : w1.heap.size < w7.heap.size := Nat.lt_of_lt_of_le s_52 hb.size
  have c_59 := (hb.cell (p := ⟨w6.heap.size, 0, none⟩) s_48).trans c_44
  have c_60 := (hb.cell (p := ⟨w6.heap.size, 1, none⟩) s_48).trans c_45
  have c_61 := (hb.cell (p := ⟨w6.heap.size, 2, none⟩) s_48).trans c_46
  have c_62 := (hb.cell (p := ⟨w6.heap.size, 3, none⟩) s_48).trans c_47
  have s_63 : w6.heap.size < w7.heap.size := Nat.lt_of_lt_of_le s_48 hb.size
  have H_64 := Lib.hid (H_53.out.below hb)
  have H_65 := Lib.hid (H_54.out.below hb)
  have HB := Lib.hid (HB.out.trans (hb.mono HB.out.size))
  have o_66 : V_43.heap.size ≤ w7.heap.size := hb.size
  clear c_50 c_51 s_52 c_44 c_45 c_46 c_47 s_48
  have HQ := Lib.hid (show FindIsK q ep vs key from And.intro hq1 hq2)
  clear hb hq1 hq2
  obtain ⟨kk, hkk⟩ : ∃ b, keyOkB key = b := ⟨_, rfl⟩
  have HKK := Lib.hid hkk
  clear hkk
  have HKO := Lib.hid (show KokIs true us from ⟨fun _ => by rw [HUS.out]; exact kRows_ok HP.out, fun _ => rfl⟩)
  have HRT := Lib.hid (show RightP us ep vs by rw [HUS.out]; exact kRows_right HP.out)
  cases kk
  · skip
    obtain rfl : rb = false := rf_nokey HKK.out HR.out
    go_wp2_with fail
    have hbq : Below w7.heap.size w7 w7.drew := (Below.refl _ _).drew
    have qq := And.intro (c_56) (And.intro (c_57) (And.intro (c_59) (And.intro (c_60) (And.intro (c_61) (c_62)))))
    refine wp_region_held_drew (S := (fun u => u.cell? ⟨w1.heap.size, 0, none⟩ = some (.int .i64 ep) ∧ u.cell? ⟨w1.heap.size, 1, none⟩ = some (.slice am vs.length c) ∧ u.cell? ⟨w6.heap.size, 0, none⟩ = some (.string r.f0) ∧ u.cell? ⟨w6.heap.size, 1, none⟩ = some (.string r.f1) ∧ u.cell? ⟨w6.heap.size, 2, none⟩ = some (.int .i64 r.f2) ∧ u.cell? ⟨w6.heap.size, 3, none⟩ = some (.int .i64 r.f3))) (by kernel_rfl) (by exact qq) (fun hH0 => ?_)
    refine wpAnyH_take (i := 0) (oi := { dst := Option.some 52, op := Go.Op.move (Go.Operand.tmp 6), type := 80, pos := "laws.go:1459", after := #[], guard := Option.none }) (v := ?v1) rfl (by kernel_rfl) (by kernel_rfl) (by kernel_rfl) (fun _ _ _ h => h) (Or.inl ⟨by rfl, ?y1⟩) hH0 ?r1
    case y1 => (intro w hSw; (try dsimp only at hSw); go_simp; (try with_reducible rfl))
    (try simp only [Act.put, List.setIfInBounds_toArray, List.set_cons_zero, List.set_cons_succ])
    refine wpAnyH_ready (rs := [1]) (by kernel_rfl) (by simp) ?_
    refine AllReadyH.cons (o := { dst := Option.some 53, op := Go.Op.call { callee := Go.Callee.value (Go.Operand.func 53), args := #[Go.Operand.tmp 52], argTypes := #[80] }, type := 4, pos := "laws.go:1459", after := #[{ on := 0, ground := Go.Ground.data }], guard := Option.none }) rfl (fun K hK => ?s3) ?m3
    case s3 =>
      (go_simp; (go_at_call 53; refine (routeOk_is HKO.out al cl _ (H_65.out.below hbq) HUF.out (by omega)).mono ?_; rintro e v ⟨rfl, hb⟩; have hbq := hbq.trans (hb.mono hbq.size); have qq := And.intro ((hbq.cell (p := ⟨w1.heap.size, 0, none⟩) s_58).trans c_56) (And.intro ((hbq.cell (p := ⟨w1.heap.size, 1, none⟩) s_58).trans c_57) (And.intro ((hbq.cell (p := ⟨w6.heap.size, 0, none⟩) s_63).trans c_59) (And.intro ((hbq.cell (p := ⟨w6.heap.size, 1, none⟩) s_63).trans c_60) (And.intro ((hbq.cell (p := ⟨w6.heap.size, 2, none⟩) s_63).trans c_61) ((hbq.cell (p := ⟨w6.heap.size, 3, none⟩) s_63).trans c_62))))); clear hb); (try go_wp2_with fail))
      refine hK.out _ _ ?h3 (fun hH3 => ?g3)
      case h3 => ((try dsimp only); (first | with_reducible exact qq | exact qq))
      clear hK K hH0
      (try simp only [Act.put, List.setIfInBounds_toArray, List.set_cons_zero, List.set_cons_succ])
      refine wpAnyH_take (i := 2) (oi := { dst := Option.some 54, op := Go.Op.move (Go.Operand.tmp 53), type := 4, pos := "laws.go:1459", after := #[{ on := 1, ground := Go.Ground.data }, { on := 1, ground := Go.Ground.chain }], guard := Option.none }) (v := ?v4) rfl (by kernel_rfl) (by kernel_rfl) (by kernel_rfl) (fun _ _ _ h => h) (Or.inl ⟨by rfl, ?y4⟩) hH3 ?r4
      case y4 => (intro w hSw; (try dsimp only at hSw); go_simp; (try with_reducible rfl))
      (try simp only [Act.put, List.setIfInBounds_toArray, List.set_cons_zero, List.set_cons_succ])
      refine wpAnyH_take (i := 3) (oi := { dst := Option.some 55, op := Go.Op.move (Go.Operand.tmp 6), type := 80, pos := "laws.go:1459", after := #[{ on := 2, ground := Go.Ground.guard }], guard := Option.some (2, Bool.true) }) (v := ?v5) rfl (by kernel_rfl) (by kernel_rfl) (by kernel_rfl) (fun _ _ _ h => h) (Or.inl ⟨by rfl, ?y5⟩) hH3 ?r5
      case y5 => (intro w hSw; (try dsimp only at hSw); go_simp; (try with_reducible rfl))
      (try simp only [Act.put, List.setIfInBounds_toArray, List.set_cons_zero, List.set_cons_succ])
      refine wpAnyH_take (i := 4) (oi := { dst := Option.some 56, op := Go.Op.load 90 (Go.Operand.tmp 5), type := 90, pos := "laws.go:1459", after := #[{ on := 2, ground := Go.Ground.guard }], guard := Option.some (2, Bool.true) }) (v := ?v6) rfl (by kernel_rfl) (by kernel_rfl) (by kernel_rfl) (fun _ _ _ h => h) (Or.inl ⟨by rfl, ?y6⟩) hH3 ?r6
      case y6 => (intro w hSw; (try dsimp only at hSw); go_simp; (try with_reducible rfl))
      (try simp only [Act.put, List.setIfInBounds_toArray, List.set_cons_zero, List.set_cons_succ])
      refine wpAnyH_ready (rs := [5]) (by kernel_rfl) (by simp) ?_
      refine AllReadyH.cons (o := { dst := Option.some 57, op := Go.Op.call { callee := Go.Callee.value (Go.Operand.func 59), args := #[Go.Operand.tmp 55, Go.Operand.tmp 56], argTypes := #[80, 90] }, type := 4, pos := "laws.go:1459", after := #[{ on := 3, ground := Go.Ground.data }, { on := 4, ground := Go.Ground.data }, { on := 2, ground := Go.Ground.chain }, { on := 2, ground := Go.Ground.guard }], guard := Option.some (2, Bool.true) }) rfl (fun K hK => ?s8) ?m8
      case s8 =>
        (go_simp; (go_at_call 59; refine (routeRight_yes HRT.out al cl am c _ (H_65.out.below hbq) HUF.out (by unfold maxLen; omega) ((H_64.out.below hbq).inn) HF.out (by omega)).mono ?_; rintro e v ⟨rfl, hb⟩; have hbq := hbq.trans (hb.mono hbq.size); have qq := And.intro ((hbq.cell (p := ⟨w1.heap.size, 0, none⟩) s_58).trans c_56) (And.intro ((hbq.cell (p := ⟨w1.heap.size, 1, none⟩) s_58).trans c_57) (And.intro ((hbq.cell (p := ⟨w6.heap.size, 0, none⟩) s_63).trans c_59) (And.intro ((hbq.cell (p := ⟨w6.heap.size, 1, none⟩) s_63).trans c_60) (And.intro ((hbq.cell (p := ⟨w6.heap.size, 2, none⟩) s_63).trans c_61) ((hbq.cell (p := ⟨w6.heap.size, 3, none⟩) s_63).trans c_62))))); clear hb); (try go_wp2_with fail))
        refine hK.out _ _ ?h8 (fun hH8 => ?g8)
        case h8 => ((try dsimp only); (first | with_reducible exact qq | exact qq))
        clear hK K hH3
        (try simp only [Act.put, List.setIfInBounds_toArray, List.set_cons_zero, List.set_cons_succ])
        refine wpAnyH_take (i := 6) (oi := { dst := Option.some 58, op := Go.Op.pick (Go.Operand.tmp 54) (Go.Operand.tmp 57) (Go.Operand.const (Go.Value.bool Bool.false)), type := 4, pos := "laws.go:1459", after := #[{ on := 2, ground := Go.Ground.data }, { on := 5, ground := Go.Ground.data }], guard := Option.none }) (v := ?v9) rfl (by kernel_rfl) (by kernel_rfl) (by kernel_rfl) (fun _ _ _ h => h) (Or.inl ⟨by rfl, ?y9⟩) hH8 ?r9
        case y9 => (intro w hSw; (try dsimp only at hSw); go_simp; (try with_reducible rfl))
        (try simp only [Act.put, List.setIfInBounds_toArray, List.set_cons_zero, List.set_cons_succ])
        refine wpAnyH_take (i := 7) (oi := { dst := Option.some 59, op := Go.Op.move (Go.Operand.tmp 58), type := 4, pos := "laws.go:1459", after := #[{ on := 6, ground := Go.Ground.data }, { on := 5, ground := Go.Ground.chain }], guard := Option.none }) (v := ?v10) rfl (by kernel_rfl) (by kernel_rfl) (by kernel_rfl) (fun _ _ _ h => h) (Or.inl ⟨by rfl, ?y10⟩) hH8 ?r10
        case y10 => (intro w hSw; (try dsimp only at hSw); go_simp; (try with_reducible rfl))
        (try simp only [Act.put, List.setIfInBounds_toArray, List.set_cons_zero, List.set_cons_succ])
        refine wpAnyH_take (i := 8) (oi := { dst := Option.some 60, op := Go.Op.move (Go.Operand.tmp 10), type := 4, pos := "laws.go:1459", after := #[{ on := 7, ground := Go.Ground.guard }], guard := Option.some (7, Bool.true) }) (v := ?v11) rfl (by kernel_rfl) (by kernel_rfl) (by kernel_rfl) (fun _ _ _ h => h) (Or.inl ⟨by rfl, ?y11⟩) hH8 ?r11
        case y11 => (intro w hSw; (try dsimp only at hSw); go_simp; (try with_reducible rfl))
        (try simp only [Act.put, List.setIfInBounds_toArray, List.set_cons_zero, List.set_cons_succ])
        refine wpAnyH_take (i := 9) (oi := { dst := Option.some 61, op := Go.Op.move (Go.Operand.tmp 8), type := 9, pos := "laws.go:1459", after := #[{ on := 7, ground := Go.Ground.guard }], guard := Option.some (7, Bool.true) }) (v := ?v12) rfl (by kernel_rfl) (by kernel_rfl) (by kernel_rfl) (fun _ _ _ h => h) (Or.inl ⟨by rfl, ?y12⟩) hH8 ?r12
        case y12 => (intro w hSw; (try dsimp only at hSw); go_simp; (try with_reducible rfl))
        (try simp only [Act.put, List.setIfInBounds_toArray, List.set_cons_zero, List.set_cons_succ])
        refine wpAnyH_ready (rs := [10]) (by kernel_rfl) (by simp) ?_
        refine AllReadyH.cons (o := { dst := Option.some 62, op := Go.Op.call { callee := Go.Callee.value (Go.Operand.func 60), args := #[Go.Operand.tmp 61], argTypes := #[9] }, type := 4, pos := "laws.go:1459", after := #[{ on := 9, ground := Go.Ground.data }, { on := 7, ground := Go.Ground.chain }, { on := 7, ground := Go.Ground.guard }], guard := Option.some (7, Bool.true) }) rfl (fun K hK => ?s14) ?m14
        case s14 =>
          (go_simp; (go_at_call 60; refine (keyOk_b HKK.out HKY.out _).mono ?_; rintro e v ⟨rfl, hb⟩; have hbq := hbq.trans (hb.mono hbq.size); have qq := And.intro ((hbq.cell (p := ⟨w1.heap.size, 0, none⟩) s_58).trans c_56) (And.intro ((hbq.cell (p := ⟨w1.heap.size, 1, none⟩) s_58).trans c_57) (And.intro ((hbq.cell (p := ⟨w6.heap.size, 0, none⟩) s_63).trans c_59) (And.intro ((hbq.cell (p := ⟨w6.heap.size, 1, none⟩) s_63).trans c_60) (And.intro ((hbq.cell (p := ⟨w6.heap.size, 2, none⟩) s_63).trans c_61) ((hbq.cell (p := ⟨w6.heap.size, 3, none⟩) s_63).trans c_62))))); clear hb); (try go_wp2_with fail))
          refine hK.out _ _ ?h14 (fun hH14 => ?g14)
          case h14 => ((try dsimp only); (first | with_reducible exact qq | exact qq))
          clear hK K hH8
          (try simp only [Act.put, List.setIfInBounds_toArray, List.set_cons_zero, List.set_cons_succ])
          refine wpAnyH_take (i := 11) (oi := { dst := Option.some 63, op := Go.Op.binOp Go.BinOp.eql 4 (Go.Operand.tmp 60) (Go.Operand.tmp 62) 4, type := 4, pos := "laws.go:1459", after := #[{ on := 8, ground := Go.Ground.data }, { on := 10, ground := Go.Ground.data }, { on := 7, ground := Go.Ground.guard }], guard := Option.some (7, Bool.true) }) (v := ?v15) rfl (by kernel_rfl) (by kernel_rfl) (by kernel_rfl) (fun _ _ _ h => h) (Or.inl ⟨by rfl, ?y15⟩) hH14 ?r15
          case y15 => (intro w hSw; (try dsimp only at hSw); go_simp; (try with_reducible rfl))
          (try simp only [Act.put, List.setIfInBounds_toArray, List.set_cons_zero, List.set_cons_succ])
          refine wpAnyH_take (i := 12) (oi := { dst := Option.some 64, op := Go.Op.pick (Go.Operand.tmp 59) (Go.Operand.tmp 63) (Go.Operand.const (Go.Value.bool Bool.false)), type := 4, pos := "laws.go:1459", after := #[{ on := 7, ground := Go.Ground.data }, { on := 11, ground := Go.Ground.data }], guard := Option.none }) (v := ?v16) rfl (by kernel_rfl) (by kernel_rfl) (by kernel_rfl) (fun _ _ _ h => h) (Or.inl ⟨by rfl, ?y16⟩) hH14 ?r16
          case y16 => (intro w hSw; (try dsimp only at hSw); go_simp; (try with_reducible rfl))
          (try simp only [Act.put, List.setIfInBounds_toArray, List.set_cons_zero, List.set_cons_succ])
          refine wpAnyH_take (i := 13) (oi := { dst := Option.some 65, op := Go.Op.move (Go.Operand.tmp 64), type := 4, pos := "laws.go:1459", after := #[{ on := 12, ground := Go.Ground.data }, { on := 10, ground := Go.Ground.chain }], guard := Option.none }) (v := ?v17) rfl (by kernel_rfl) (by kernel_rfl) (by kernel_rfl) (fun _ _ _ h => h) (Or.inl ⟨by rfl, ?y17⟩) hH14 ?r17
          case y17 => (intro w hSw; (try dsimp only at hSw); go_simp; (try with_reducible rfl))
          (try simp only [Act.put, List.setIfInBounds_toArray, List.set_cons_zero, List.set_cons_succ])
          refine wpAnyH_take (i := 14) (oi := { dst := Option.some 66, op := Go.Op.move (Go.Operand.tmp 10), type := 4, pos := "laws.go:1459", after := #[{ on := 13, ground := Go.Ground.guard }], guard := Option.some (13, Bool.true) }) (v := ?v18) rfl (by kernel_rfl) (by kernel_rfl) (by kernel_rfl) (fun _ _ _ h => h) (Or.inl ⟨by rfl, ?y18⟩) hH14 ?r18
          case y18 => (intro w hSw; (try dsimp only at hSw); go_simp; (try with_reducible rfl))
          (try simp only [Act.put, List.setIfInBounds_toArray, List.set_cons_zero, List.set_cons_succ])
          refine wpAnyH_take (i := 15) (oi := { dst := Option.some 67, op := Go.Op.unOp Go.UnOp.not 4 (Go.Operand.tmp 66), type := 4, pos := "laws.go:1459", after := #[{ on := 14, ground := Go.Ground.data }, { on := 13, ground := Go.Ground.guard }], guard := Option.some (13, Bool.true) }) (v := ?v19) rfl (by kernel_rfl) (by kernel_rfl) (by kernel_rfl) (fun _ _ _ h => h) (Or.inl ⟨by rfl, ?y19⟩) hH14 ?r19
          case y19 => (intro w hSw; (try dsimp only at hSw); go_simp; (try with_reducible rfl))
          (try simp only [Act.put, List.setIfInBounds_toArray, List.set_cons_zero, List.set_cons_succ])
          refine wpAnyH_take (i := 16) (oi := { dst := Option.some 68, op := Go.Op.move (Go.Operand.tmp 67), type := 4, pos := "laws.go:1459", after := #[{ on := 15, ground := Go.Ground.data }, { on := 13, ground := Go.Ground.chain }, { on := 13, ground := Go.Ground.guard }], guard := Option.some (13, Bool.true) }) (v := ?v20) rfl (by kernel_rfl) (by kernel_rfl) (by kernel_rfl) (fun _ _ _ h => h) (Or.inl ⟨by rfl, ?y20⟩) hH14 ?r20
          case y20 => (intro w hSw; (try dsimp only at hSw); go_simp; (try with_reducible rfl))
          (try simp only [Act.put, List.setIfInBounds_toArray, List.set_cons_zero, List.set_cons_succ])
          refine wpAnyH_take (i := 17) (oi := { dst := Option.some 69, op := Go.Op.fieldAddr 90 (Go.Operand.tmp 5) 1, type := 0, pos := "laws.go:1459", after := #[{ on := 16, ground := Go.Ground.guard }], guard := Option.some (16, Bool.false) }) (v := undef) rfl (by kernel_rfl) (by kernel_rfl) (by kernel_rfl) (fun _ _ _ h => h) (Or.inr ⟨by rfl, rfl⟩) hH14 ?r21
          (try simp only [Act.put, List.setIfInBounds_toArray, List.set_cons_zero, List.set_cons_succ])
          refine wpAnyH_take (i := 18) (oi := { dst := Option.some 70, op := Go.Op.load 88 (Go.Operand.tmp 69), type := 88, pos := "laws.go:1459", after := #[{ on := 17, ground := Go.Ground.data }, { on := 16, ground := Go.Ground.guard }], guard := Option.some (16, Bool.false) }) (v := undef) rfl (by kernel_rfl) (by kernel_rfl) (by kernel_rfl) (fun _ _ _ h => h) (Or.inr ⟨by rfl, rfl⟩) hH14 ?r22
          (try simp only [Act.put, List.setIfInBounds_toArray, List.set_cons_zero, List.set_cons_succ])
          refine wpAnyH_take (i := 19) (oi := { dst := Option.some 71, op := Go.Op.move (Go.Operand.tmp 11), type := 3, pos := "laws.go:1459", after := #[{ on := 16, ground := Go.Ground.guard }], guard := Option.some (16, Bool.false) }) (v := undef) rfl (by kernel_rfl) (by kernel_rfl) (by kernel_rfl) (fun _ _ _ h => h) (Or.inr ⟨by rfl, rfl⟩) hH14 ?r23
          (try simp only [Act.put, List.setIfInBounds_toArray, List.set_cons_zero, List.set_cons_succ])
          refine wpAnyH_take (i := 20) (oi := { dst := Option.some 72, op := Go.Op.indexAddr 88 (Go.Operand.tmp 70) (Go.Operand.tmp 71), type := 0, pos := "laws.go:1459", after := #[{ on := 18, ground := Go.Ground.data }, { on := 19, ground := Go.Ground.data }, { on := 16, ground := Go.Ground.guard }], guard := Option.some (16, Bool.false) }) (v := undef) rfl (by kernel_rfl) (by kernel_rfl) (by kernel_rfl) (fun _ _ _ h => h) (Or.inr ⟨by rfl, rfl⟩) hH14 ?r24
          (try simp only [Act.put, List.setIfInBounds_toArray, List.set_cons_zero, List.set_cons_succ])
          refine wpAnyH_take (i := 21) (oi := { dst := Option.some 73, op := Go.Op.fieldAddr 98 (Go.Operand.tmp 72) 1, type := 0, pos := "laws.go:1459", after := #[{ on := 20, ground := Go.Ground.data }, { on := 16, ground := Go.Ground.guard }], guard := Option.some (16, Bool.false) }) (v := undef) rfl (by kernel_rfl) (by kernel_rfl) (by kernel_rfl) (fun _ _ _ h => h) (Or.inr ⟨by rfl, rfl⟩) hH14 ?r25
          (try simp only [Act.put, List.setIfInBounds_toArray, List.set_cons_zero, List.set_cons_succ])
          refine wpAnyH_take (i := 22) (oi := { dst := Option.some 74, op := Go.Op.load 3 (Go.Operand.tmp 73), type := 3, pos := "laws.go:1459", after := #[{ on := 21, ground := Go.Ground.data }, { on := 16, ground := Go.Ground.guard }], guard := Option.some (16, Bool.false) }) (v := undef) rfl (by kernel_rfl) (by kernel_rfl) (by kernel_rfl) (fun _ _ _ h => h) (Or.inr ⟨by rfl, rfl⟩) hH14 ?r26
          (try simp only [Act.put, List.setIfInBounds_toArray, List.set_cons_zero, List.set_cons_succ])
          refine wpAnyH_take (i := 23) (oi := { dst := Option.some 75, op := Go.Op.fieldAddr 84 (Go.Operand.tmp 9) 1, type := 0, pos := "laws.go:1459", after := #[{ on := 16, ground := Go.Ground.guard }], guard := Option.some (16, Bool.false) }) (v := undef) rfl (by kernel_rfl) (by kernel_rfl) (by kernel_rfl) (fun _ _ _ h => h) (Or.inr ⟨by rfl, rfl⟩) hH14 ?r27
          (try simp only [Act.put, List.setIfInBounds_toArray, List.set_cons_zero, List.set_cons_succ])
          refine wpAnyH_take (i := 24) (oi := { dst := Option.some 76, op := Go.Op.load 3 (Go.Operand.tmp 75), type := 3, pos := "laws.go:1459", after := #[{ on := 23, ground := Go.Ground.data }, { on := 16, ground := Go.Ground.guard }], guard := Option.some (16, Bool.false) }) (v := undef) rfl (by kernel_rfl) (by kernel_rfl) (by kernel_rfl) (fun _ _ _ h => h) (Or.inr ⟨by rfl, rfl⟩) hH14 ?r28
          (try simp only [Act.put, List.setIfInBounds_toArray, List.set_cons_zero, List.set_cons_succ])
          refine wpAnyH_take (i := 25) (oi := { dst := Option.some 77, op := Go.Op.binOp Go.BinOp.eql 3 (Go.Operand.tmp 74) (Go.Operand.tmp 76) 3, type := 4, pos := "laws.go:1459", after := #[{ on := 22, ground := Go.Ground.data }, { on := 24, ground := Go.Ground.data }, { on := 16, ground := Go.Ground.guard }], guard := Option.some (16, Bool.false) }) (v := undef) rfl (by kernel_rfl) (by kernel_rfl) (by kernel_rfl) (fun _ _ _ h => h) (Or.inr ⟨by rfl, rfl⟩) hH14 ?r29
          (try simp only [Act.put, List.setIfInBounds_toArray, List.set_cons_zero, List.set_cons_succ])
          refine wpAnyH_take (i := 26) (oi := { dst := Option.some 78, op := Go.Op.pick (Go.Operand.tmp 68) (Go.Operand.const (Go.Value.bool Bool.true)) (Go.Operand.tmp 77), type := 4, pos := "laws.go:1459", after := #[{ on := 16, ground := Go.Ground.data }, { on := 25, ground := Go.Ground.data }, { on := 13, ground := Go.Ground.guard }], guard := Option.some (13, Bool.true) }) (v := ?v30) rfl (by kernel_rfl) (by kernel_rfl) (by kernel_rfl) (fun _ _ _ h => h) (Or.inl ⟨by rfl, ?y30⟩) hH14 ?r30
          case y30 => (intro w hSw; (try dsimp only at hSw); go_simp; (try with_reducible rfl))
          (try simp only [Act.put, List.setIfInBounds_toArray, List.set_cons_zero, List.set_cons_succ])
          refine wpAnyH_take (i := 27) (oi := { dst := Option.some 79, op := Go.Op.pick (Go.Operand.tmp 65) (Go.Operand.tmp 78) (Go.Operand.const (Go.Value.bool Bool.false)), type := 4, pos := "laws.go:1459", after := #[{ on := 13, ground := Go.Ground.data }, { on := 26, ground := Go.Ground.data }], guard := Option.none }) (v := ?v31) rfl (by kernel_rfl) (by kernel_rfl) (by kernel_rfl) (fun _ _ _ h => h) (Or.inl ⟨by rfl, ?y31⟩) hH14 ?r31
          case y31 => (intro w hSw; (try dsimp only at hSw); go_simp; (try with_reducible rfl))
          (try simp only [Act.put, List.setIfInBounds_toArray, List.set_cons_zero, List.set_cons_succ])
          refine wpAnyH_take (i := 28) (oi := { dst := Option.some 4, op := Go.Op.assign (Go.Operand.tmp 79), type := 4, pos := "laws.go:1459", after := #[{ on := 27, ground := Go.Ground.data }, { on := 16, ground := Go.Ground.chain }, { on := 0, ground := Go.Ground.phase }, { on := 1, ground := Go.Ground.phase }, { on := 2, ground := Go.Ground.phase }, { on := 3, ground := Go.Ground.phase }, { on := 4, ground := Go.Ground.phase }, { on := 5, ground := Go.Ground.phase }, { on := 6, ground := Go.Ground.phase }, { on := 7, ground := Go.Ground.phase }, { on := 8, ground := Go.Ground.phase }, { on := 9, ground := Go.Ground.phase }, { on := 10, ground := Go.Ground.phase }, { on := 11, ground := Go.Ground.phase }, { on := 12, ground := Go.Ground.phase }, { on := 13, ground := Go.Ground.phase }, { on := 14, ground := Go.Ground.phase }, { on := 15, ground := Go.Ground.phase }, { on := 16, ground := Go.Ground.phase }, { on := 17, ground := Go.Ground.phase }, { on := 18, ground := Go.Ground.phase }, { on := 19, ground := Go.Ground.phase }, { on := 20, ground := Go.Ground.phase }, { on := 21, ground := Go.Ground.phase }, { on := 22, ground := Go.Ground.phase }, { on := 23, ground := Go.Ground.phase }, { on := 24, ground := Go.Ground.phase }, { on := 25, ground := Go.Ground.phase }, { on := 26, ground := Go.Ground.phase }, { on := 27, ground := Go.Ground.phase }], guard := Option.none }) (v := ?v32) rfl (by kernel_rfl) (by kernel_rfl) (by kernel_rfl) (fun _ _ _ h => h) (Or.inl ⟨by rfl, ?y32⟩) hH14 ?r32
          case y32 => (intro w hSw; (try dsimp only at hSw); go_simp; (try with_reducible rfl))
          (try simp only [Act.put, List.setIfInBounds_toArray, List.set_cons_zero, List.set_cons_succ])
          refine wpAnyH_done (by kernel_rfl) ?_ _
          clear hH14
          go_wp2_with fail
          go_ret
          exact ⟨rfl, HB.out.trans (hbq.mono HB.out.size)⟩
        exact AllReadyH.nil
      exact AllReadyH.nil
    exact AllReadyH.nil
  · skip
    obtain ⟨k, rfl, hF⟩ := HQ.out.1 ⟨HP.out, HKK.out⟩
    have hkl := hF.1.1
    have HRr := HR.out
    rw [HUS.out] at HRr
    obtain ⟨rfl, hrk⟩ := kRows_find HP.out HKK.out hF HRr
    clear HRr
    rcases H_64.out.inn with hnil | ⟨bb, oo, e0, hbb, hcc⟩
    · rw [hnil] at hkl; simp at hkl
    obtain ⟨d0, d1⟩ := hcc k hkl
    have hnode : vs[k].f1 = r.f2 := by rw [hrk]; exact (nodeOf_lt hkl).symm
    rw [hnode] at d1
    cases e0
    clear hcc d0 hnode hrk hF
    have i1 : (0 : Int) ≤ (k : Int) := by omega
    have i2 : (k : Int) < (vs.length : Int) := by omega
    go_wp2_with fail
    have hbq : Below w7.heap.size w7 w7.drew := (Below.refl _ _).drew
    have qq := And.intro (c_56) (And.intro (c_57) (And.intro (c_59) (And.intro (c_60) (And.intro (c_61) (And.intro (c_62) (d1))))))
    go_region_held3 (fun u => u.cell? ⟨w1.heap.size, 0, none⟩ = some (.int .i64 ep) ∧ u.cell? ⟨w1.heap.size, 1, none⟩ = some (.slice (some ⟨bb, oo, none⟩) vs.length c) ∧ u.cell? ⟨w6.heap.size, 0, none⟩ = some (.string r.f0) ∧ u.cell? ⟨w6.heap.size, 1, none⟩ = some (.string r.f1) ∧ u.cell? ⟨w6.heap.size, 2, none⟩ = some (.int .i64 r.f2) ∧ u.cell? ⟨w6.heap.size, 3, none⟩ = some (.int .i64 r.f3) ∧ u.cell? ⟨bb, oo + k * 2 + 1, none⟩ = some (.int .i64 r.f2))
      (first | with_reducible exact qq | exact qq | fail)
      (first
        | (go_at_call 53; (with_reducible refine (routeOk_is HKO.out al cl _ (H_65.out.below hbq) HUF.out (by omega)).mono ?_); rintro e v ⟨rfl, hb⟩; have hbq := hbq.trans (hb.mono hbq.size); have qq := And.intro ((hbq.cell (p := ⟨w1.heap.size, 0, none⟩) s_58).trans c_56) (And.intro ((hbq.cell (p := ⟨w1.heap.size, 1, none⟩) s_58).trans c_57) (And.intro ((hbq.cell (p := ⟨w6.heap.size, 0, none⟩) s_63).trans c_59) (And.intro ((hbq.cell (p := ⟨w6.heap.size, 1, none⟩) s_63).trans c_60) (And.intro ((hbq.cell (p := ⟨w6.heap.size, 2, none⟩) s_63).trans c_61) (And.intro ((hbq.cell (p := ⟨w6.heap.size, 3, none⟩) s_63).trans c_62) ((hbq.cell (p := ⟨bb, oo + k * 2 + 1, none⟩) hbb).trans d1)))))); clear hb)
        | (go_at_call 59; (with_reducible refine (routeRight_yes HRT.out al cl (some ⟨bb, oo, none⟩) c _ (H_65.out.below hbq) HUF.out (by unfold maxLen; omega) ((H_64.out.below hbq).inn) HF.out (by omega)).mono ?_); rintro e v ⟨rfl, hb⟩; have hbq := hbq.trans (hb.mono hbq.size); have qq := And.intro ((hbq.cell (p := ⟨w1.heap.size, 0, none⟩) s_58).trans c_56) (And.intro ((hbq.cell (p := ⟨w1.heap.size, 1, none⟩) s_58).trans c_57) (And.intro ((hbq.cell (p := ⟨w6.heap.size, 0, none⟩) s_63).trans c_59) (And.intro ((hbq.cell (p := ⟨w6.heap.size, 1, none⟩) s_63).trans c_60) (And.intro ((hbq.cell (p := ⟨w6.heap.size, 2, none⟩) s_63).trans c_61) (And.intro ((hbq.cell (p := ⟨w6.heap.size, 3, none⟩) s_63).trans c_62) ((hbq.cell (p := ⟨bb, oo + k * 2 + 1, none⟩) hbb).trans d1)))))); clear hb)
        | (go_at_call 60; (with_reducible refine (keyOk_b HKK.out HKY.out _).mono ?_); rintro e v ⟨rfl, hb⟩; have hbq := hbq.trans (hb.mono hbq.size); have qq := And.intro ((hbq.cell (p := ⟨w1.heap.size, 0, none⟩) s_58).trans c_56) (And.intro ((hbq.cell (p := ⟨w1.heap.size, 1, none⟩) s_58).trans c_57) (And.intro ((hbq.cell (p := ⟨w6.heap.size, 0, none⟩) s_63).trans c_59) (And.intro ((hbq.cell (p := ⟨w6.heap.size, 1, none⟩) s_63).trans c_60) (And.intro ((hbq.cell (p := ⟨w6.heap.size, 2, none⟩) s_63).trans c_61) (And.intro ((hbq.cell (p := ⟨w6.heap.size, 3, none⟩) s_63).trans c_62) ((hbq.cell (p := ⟨bb, oo + k * 2 + 1, none⟩) hbb).trans d1)))))); clear hb)
        | fail)
    all_goals
      go_wp2_with fail
      go_ret
      exact ⟨rfl, HB.out.trans (hbq.mono HB.out.size)⟩
end Go.Proofs.Ytjijichgoodocaa
