/- The law FnRouteFind: a key is in one span that is known at most. -/
import Derived.Test.YtjijichgoodocaaFkC
namespace Go.Proofs.Ytjijichgoodocaa
open Go.RowKit

set_option maxRecDepth 100000 in
set_option maxHeartbeats 4000000 in
theorem fnRouteFind_law (a : Option Addr) (len cap : Nat) (w : World) (h : BytesIn w a len cap) :
    Calls Try.prog 11 #[.slice a len cap] w fun e w' => e = .returned (.bool true) ∧ Below w.heap.size w w' := by
  have hcm := h.2.1
  have hlc := h.1
  have H := Lib.hid h
  clear h
  unfold maxLen at hcm
  by_cases hl : 1048576 < len
  · go_enter Try.func11, Try.ntmps11
    go_wp2_with fail
    go_ret
    exact ⟨rfl, Below.refl _ _⟩
  go_enter Try.func11, Try.ntmps11
  go_wp2_with fail
  refine (drawRouteFind_any a len cap _ H.out).mono ?_
  rintro e w1 ⟨vs, b, c, key, hkey, rfl, hD, hb⟩
  have HB := Lib.hid hb
  have hn6 := hD.len
  have HF := Lib.hid hD.fits
  have HD := Lib.hid hD
  have HKY := Lib.hid hkey
  clear hD hb H hkey
  go_wp2_with fail
  refine (routeFind_any (some ⟨b, 0, none⟩) vs c key _ HD.out.inn HF.out (by unfold maxLen; omega) HKY.out).mono ?_
  rintro e w2 ⟨r, rb, rfl, hr, hb⟩
  have H_1 := Lib.hid (HD.out.below hb)
  have HB := Lib.hid (HB.out.trans (hb.mono HB.out.size))
  have o_2 : w1.heap.size ≤ w2.heap.size := hb.size
  have HR := Lib.hid hr
  clear hb hr
  obtain ⟨V_3, hV_3⟩ : ∃ V_3, w2.alloc (.cells #[.string r.f0, .string r.f1, .int .i64 r.f2, .int .i64 r.f3] 84) = V_3 := ⟨_, rfl⟩
  have bV_3 : Below w2.heap.size w2 V_3 := by rw [← hV_3]; exact (Below.refl _ _).alloc (Nat.le_refl _) _
  have c_4 : V_3.cell? ⟨w2.heap.size, 0, none⟩ = some (.string r.f0) := by rw [← hV_3]; simp [go_sem]
  have c_5 : V_3.cell? ⟨w2.heap.size, 1, none⟩ = some (.string r.f1) := by rw [← hV_3]; simp [go_sem]
  have c_6 : V_3.cell? ⟨w2.heap.size, 2, none⟩ = some (.int .i64 r.f2) := by rw [← hV_3]; simp [go_sem]
  have c_7 : V_3.cell? ⟨w2.heap.size, 3, none⟩ = some (.int .i64 r.f3) := by rw [← hV_3]; simp [go_sem]
  have s_8 : w2.heap.size < V_3.heap.size := by rw [← hV_3]; simp
  have k_9 : w2.heap.size < V_3.heap.size := s_8
  have H_10 := Lib.hid (H_1.out.below bV_3)
  have HB := Lib.hid (HB.out.trans (bV_3.mono HB.out.size))
  have o_11 : w2.heap.size ≤ V_3.heap.size := bV_3.size
  clear bV_3
  go_wp2_with fail
  clear hV_3
  refine (specRouteFind_any (some ⟨b, 0, none⟩) vs c key _ H_10.out.inn HF.out (by unfold maxLen; omega) HKY.out).mono ?_
  rintro e w3 ⟨r2, rb2, rfl, hr, hb⟩
  obtain ⟨rfl, rfl⟩ := RfRel.unique HR.out hr
  clear hr
  have c_12 := (hb.cell (p := ⟨w2.heap.size, 0, none⟩) s_8).trans c_4
  have c_13 := (hb.cell (p := ⟨w2.heap.size, 1, none⟩) s_8).trans c_5
  have c_14 := (hb.cell (p := ⟨w2.heap.size, 2, none⟩) s_8).trans c_6
  have c_15 := (hb.cell (p := ⟨w2.heap.size, 3, none⟩) s_8).trans c_7
  have s_16 : w2.heap.size < w3.heap.size := Nat.lt_of_lt_of_le s_8 hb.size
  have H_17 := Lib.hid (H_10.out.below hb)
  have HB := Lib.hid (HB.out.trans (hb.mono HB.out.size))
  have o_18 : V_3.heap.size ≤ w3.heap.size := hb.size
  clear c_4 c_5 c_6 c_7 s_8
  clear hb
  obtain ⟨V_19, hV_19⟩ : ∃ V_19, w3.alloc (.cells #[.string r.f0, .string r.f1, .int .i64 r.f2, .int .i64 r.f3] 84) = V_19 := ⟨_, rfl⟩
  have bV_19 : Below w3.heap.size w3 V_19 := by rw [← hV_19]; exact (Below.refl _ _).alloc (Nat.le_refl _) _
  have c_20 : V_19.cell? ⟨w3.heap.size, 0, none⟩ = some (.string r.f0) := by rw [← hV_19]; simp [go_sem]
  have c_21 : V_19.cell? ⟨w3.heap.size, 1, none⟩ = some (.string r.f1) := by rw [← hV_19]; simp [go_sem]
  have c_22 : V_19.cell? ⟨w3.heap.size, 2, none⟩ = some (.int .i64 r.f2) := by rw [← hV_19]; simp [go_sem]
  have c_23 : V_19.cell? ⟨w3.heap.size, 3, none⟩ = some (.int .i64 r.f3) := by rw [← hV_19]; simp [go_sem]
  have s_24 : w3.heap.size < V_19.heap.size := by rw [← hV_19]; simp
  have k_25 : w3.heap.size < V_19.heap.size := s_24
  have c_26 := (bV_19.cell (p := ⟨w2.heap.size, 0, none⟩) s_16).trans c_12
  have c_27 := (bV_19.cell (p := ⟨w2.heap.size, 1, none⟩) s_16).trans c_13
  have c_28 := (bV_19.cell (p := ⟨w2.heap.size, 2, none⟩) s_16).trans c_14
  have c_29 := (bV_19.cell (p := ⟨w2.heap.size, 3, none⟩) s_16).trans c_15
  have s_30 : w2.heap.size < V_19.heap.size := Nat.lt_of_lt_of_le s_16 bV_19.size
  have H_31 := Lib.hid (H_17.out.below bV_19)
  have HB := Lib.hid (HB.out.trans (bV_19.mono HB.out.size))
  have o_32 : w3.heap.size ≤ V_19.heap.size := bV_19.size
  clear c_12 c_13 c_14 c_15 s_16
  clear bV_19
  obtain ⟨ok, hok⟩ := kok_ex vs
  have HOK := Lib.hid hok
  clear hok
  go_wp2_with fail
  clear hV_19
  refine (routeOk_is HOK.out (some ⟨b, 0, none⟩) c _ H_31.out.inn HF.out (by omega)).mono ?_
  rintro e w4 ⟨rfl, hb⟩
  have c_33 := (hb.cell (p := ⟨w2.heap.size, 0, none⟩) s_30).trans c_26
  have c_34 := (hb.cell (p := ⟨w2.heap.size, 1, none⟩) s_30).trans c_27
  have c_35 := (hb.cell (p := ⟨w2.heap.size, 2, none⟩) s_30).trans c_28
  have c_36 := (hb.cell (p := ⟨w2.heap.size, 3, none⟩) s_30).trans c_29
  have s_37 : w2.heap.size < w4.heap.size := Nat.lt_of_lt_of_le s_30 hb.size
  have c_38 := (hb.cell (p := ⟨w3.heap.size, 0, none⟩) s_24).trans c_20
  have c_39 := (hb.cell (p := ⟨w3.heap.size, 1, none⟩) s_24).trans c_21
  have c_40 := (hb.cell (p := ⟨w3.heap.size, 2, none⟩) s_24).trans c_22
  have c_41 := (hb.cell (p := ⟨w3.heap.size, 3, none⟩) s_24).trans c_23
  have s_42 : w3.heap.size < w4.heap.size := Nat.lt_of_lt_of_le s_24 hb.size
  have H_43 := Lib.hid (H_31.out.below hb)
  have HB := Lib.hid (HB.out.trans (hb.mono HB.out.size))
  have o_44 : V_19.heap.size ≤ w4.heap.size := hb.size
  clear c_26 c_27 c_28 c_29 s_30 c_20 c_21 c_22 c_23 s_24
  clear hb
  cases ok
  · go_wp2_with fail
    go_ret
    exact ⟨rfl, HB.out⟩
  have HCN := Lib.hid (find_cnt (HOK.out.1 rfl) HR.out)
  clear c_33 c_34 c_35 c_36 s_37
  clear c_38 c_39 c_40 c_41 s_42
  go_wp2_with fail
  go_loopw [9, 10] (fun n i wr => ∃ t k : Nat, t ≤ vs.length ∧ i = .int .i64 t ∧ n = .int .i64 k ∧ k ≤ t ∧ k = ((vs.take t).filter (hasK key)).length ∧ Below w4.heap.size w4 wr) (fun _ i _ => vs.length - (intOf i).toNat)
  case atStart => exact ⟨0, 0, Nat.zero_le _, rfl, rfl, Nat.le_refl _, rfl, Below.refl _ _⟩
  case round =>
    obtain ⟨t, k, ht, rfl, rfl, hkt, hkc, hb⟩ := hrel
    obtain ⟨w5, rfl⟩ : ∃ x, x = wr := ⟨_, rfl⟩
    have HC := Lib.hid hkc
    have HBW := Lib.hid hb
    have H_1045 := Lib.hid (H_43.out.below hb)
    have HB := Lib.hid (HB.out.trans (hb.mono HB.out.size))
    have o_1046 : w4.heap.size ≤ w5.heap.size := hb.size
    clear hb hkc
    by_cases hlt : t < vs.length
    · skip
      rcases H_1045.out.inn with hnil | ⟨bb, oo, e0, hbb, hcc⟩
      · rw [hnil] at hlt; simp at hlt
      cases e0
      obtain ⟨d0, d1, d2, d3⟩ := hcc t hlt
      simp only [Nat.zero_add] at d0 d1 d2 d3
      have hvf := HF.out _ (List.getElem_mem hlt)
      have HCS := Lib.hid (cnt_succ vs (hasK key) t hlt)
      obtain ⟨hs, hhs⟩ : ∃ q, spanHasB vs[t].f0 vs[t].f1 key = q := ⟨_, rfl⟩
      have HH := Lib.hid hhs
      have HHK := Lib.hid (show hasK key vs[t] = hs from hhs)
      have HV := Lib.hid hvf
      clear hhs hvf hcc d2 d3
      have i1 : (0 : Int) ≤ (t : Int) := by omega
      have i2 : (t : Int) < (vs.length : Int) := by omega
      cases hs
      · skip
        go_wp2_with fail
        refine (has_is HH.out HV.out.1 HV.out.2 HKY.out _).mono ?_
        rintro e w6 ⟨rfl, hb⟩
        have HBW := Lib.hid (HBW.out.trans (hb.mono HBW.out.size))
        clear hb
        go_wp2_with fail
        go_roundw
        case rel => exact ⟨t + 1, k, by omega, by go_num, by go_num, by omega, by rw [HCS.out, ← HC.out, HHK.out]; rfl, HBW.out⟩
        case measure => simp [intOf]; omega
      · skip
        go_wp2_with fail
        refine (has_is HH.out HV.out.1 HV.out.2 HKY.out _).mono ?_
        rintro e w6 ⟨rfl, hb⟩
        have HBW := Lib.hid (HBW.out.trans (hb.mono HBW.out.size))
        clear hb
        go_wp2_with fail
        go_roundw
        case rel => exact ⟨t + 1, k + 1, by omega, by go_num, by go_num, by omega, by rw [HCS.out, ← HC.out, HHK.out]; rfl, HBW.out⟩
        case measure => simp [intOf]; omega
    · skip
      obtain rfl : t = vs.length := by omega
      have hfin : k = if rb then 1 else 0 := by rw [HC.out, List.take_length, HCN.out]
      cases rb
      · skip
        obtain rfl : k = 0 := by simpa using hfin
        clear hfin hkt
        go_wp2_with fail
        go_ret
        exact ⟨rfl, HB.out⟩
      · skip
        obtain rfl : k = 1 := by simpa using hfin
        clear hfin hkt
        go_wp2_with fail
        go_ret
        exact ⟨rfl, HB.out⟩
end Go.Proofs.Ytjijichgoodocaa
