/- The law FnVmapGet: what is seen is there, and nothing later. -/
import Derived.Test.YtjijichgoodocaaCaV
import Derived.Test.YtjijichgoodocaaRows
import Derived.WalkKit
import Derived.ProofKit
import Derived.OpenShut
namespace Go.Proofs.Ytjijichgoodocaa
open Go.RowKit

theorem take_any (os : List ObjD) (p : ObjD → Bool) (t : Nat) (h : t < os.length) : (os.take (t + 1)).any p = ((os.take t).any p || p os[t]) := by
  rw [List.take_succ_eq_append_getElem h, List.any_append]
  simp

set_option maxRecDepth 100000 in
set_option maxHeartbeats 4000000 in
theorem fnVmapGet_law (a : Option Addr) (len cap : Nat) (w : World) (h : BytesIn w a len cap) :
    Calls Try.prog 5 #[.slice a len cap] w fun e w' => e = .returned (.bool true) ∧ Below w.heap.size w w' := by
  have hcm := h.2.1
  have hlc := h.1
  have H := Lib.hid h
  clear h
  unfold maxLen at hcm
  by_cases hl : 1048576 < len
  · go_enter Try.func5, Try.ntmps5
    go_wp2_with fail
    go_ret
    exact ⟨rfl, Below.refl _ _⟩
  go_enter Try.func5, Try.ntmps5
  go_wp2_with fail
  refine (drawVmapGet_any a len cap _ H.out).mono ?_
  rintro e w1 ⟨os, am, c, key, hkey, rfl, hD, hb⟩
  have HB := Lib.hid hb
  have hn20 := hD.len
  have HD0 := Lib.hid hD
  have HD := Lib.hid hD.mr
  have HKY := Lib.hid hkey
  have HV20 := Lib.hid hD.vl
  clear hD hb H hkey
  obtain ⟨V_1, hV_1⟩ : ∃ V_1, w1.alloc (.cells #[.slice am os.length c] 25) = V_1 := ⟨_, rfl⟩
  have bV_1 : Below w1.heap.size w1 V_1 := by rw [← hV_1]; exact (Below.refl _ _).alloc (Nat.le_refl _) _
  have c_2 : V_1.cell? ⟨w1.heap.size, 0, none⟩ = some (.slice am os.length c) := by rw [← hV_1]; simp [go_sem]
  have s_3 : w1.heap.size < V_1.heap.size := by rw [← hV_1]; simp
  have k_4 : w1.heap.size < V_1.heap.size := s_3
  have H_5 := Lib.hid (HD.out.below bV_1)
  have HB := Lib.hid (HB.out.trans (bV_1.mono HB.out.size))
  have o_6 : w1.heap.size ≤ V_1.heap.size := bV_1.size
  clear bV_1
  go_wp2_with fail
  clear hV_1
  refine (vmapGet_v H_5.out c key HKY.out).mono ?_
  rintro e w2 ⟨i1, t1, g1, b1, hv, rfl, hb⟩
  have K1 := Lib.hid hv
  clear hv
  have c_7 := (hb.cell (p := ⟨w1.heap.size, 0, none⟩) s_3).trans c_2
  have s_8 : w1.heap.size < w2.heap.size := Nat.lt_of_lt_of_le s_3 hb.size
  have H_9 := Lib.hid (H_5.out.below hb)
  have HB := Lib.hid (HB.out.trans (hb.mono HB.out.size))
  have o_10 : V_1.heap.size ≤ w2.heap.size := hb.size
  clear c_2 s_3
  clear hb
  obtain ⟨V_11, hV_11⟩ : ∃ V_11, w2.alloc (.cells #[.int .i64 i1, .string t1, .bool g1] 27) = V_11 := ⟨_, rfl⟩
  have bV_11 : Below w2.heap.size w2 V_11 := by rw [← hV_11]; exact (Below.refl _ _).alloc (Nat.le_refl _) _
  have c_12 : V_11.cell? ⟨w2.heap.size, 0, none⟩ = some (.int .i64 i1) := by rw [← hV_11]; simp [go_sem]
  have c_13 : V_11.cell? ⟨w2.heap.size, 1, none⟩ = some (.string t1) := by rw [← hV_11]; simp [go_sem]
  have c_14 : V_11.cell? ⟨w2.heap.size, 2, none⟩ = some (.bool g1) := by rw [← hV_11]; simp [go_sem]
  have s_15 : w2.heap.size < V_11.heap.size := by rw [← hV_11]; simp
  have k_16 : w2.heap.size < V_11.heap.size := s_15
  have c_17 := (bV_11.cell (p := ⟨w1.heap.size, 0, none⟩) s_8).trans c_7
  have s_18 : w1.heap.size < V_11.heap.size := Nat.lt_of_lt_of_le s_8 bV_11.size
  have H_19 := Lib.hid (H_9.out.below bV_11)
  have HB := Lib.hid (HB.out.trans (bV_11.mono HB.out.size))
  have o_20 : w2.heap.size ≤ V_11.heap.size := bV_11.size
  clear c_7 s_8
  clear bV_11
  go_wp2_with fail
  clear hV_11
  refine (specVmapGet_v H_19.out c key HKY.out).mono ?_
  rintro e w3 ⟨i2, t2, g2, b2, hv, rfl, hb⟩
  obtain ⟨rfl, rfl, rfl, rfl⟩ := VerIs.one K1.out hv
  clear hv
  have c_21 := (hb.cell (p := ⟨w1.heap.size, 0, none⟩) s_18).trans c_17
  have s_22 : w1.heap.size < w3.heap.size := Nat.lt_of_lt_of_le s_18 hb.size
  have c_23 := (hb.cell (p := ⟨w2.heap.size, 0, none⟩) s_15).trans c_12
  have c_24 := (hb.cell (p := ⟨w2.heap.size, 1, none⟩) s_15).trans c_13
  have c_25 := (hb.cell (p := ⟨w2.heap.size, 2, none⟩) s_15).trans c_14
  have s_26 : w2.heap.size < w3.heap.size := Nat.lt_of_lt_of_le s_15 hb.size
  have H_27 := Lib.hid (H_19.out.below hb)
  have HB := Lib.hid (HB.out.trans (hb.mono HB.out.size))
  have o_28 : V_11.heap.size ≤ w3.heap.size := hb.size
  clear c_17 s_18 c_12 c_13 c_14 s_15
  clear hb
  obtain ⟨V_29, hV_29⟩ : ∃ V_29, w3.alloc (.cells #[.int .i64 i1, .string t1, .bool g1] 27) = V_29 := ⟨_, rfl⟩
  have bV_29 : Below w3.heap.size w3 V_29 := by rw [← hV_29]; exact (Below.refl _ _).alloc (Nat.le_refl _) _
  have c_30 : V_29.cell? ⟨w3.heap.size, 0, none⟩ = some (.int .i64 i1) := by rw [← hV_29]; simp [go_sem]
  have c_31 : V_29.cell? ⟨w3.heap.size, 1, none⟩ = some (.string t1) := by rw [← hV_29]; simp [go_sem]
  have c_32 : V_29.cell? ⟨w3.heap.size, 2, none⟩ = some (.bool g1) := by rw [← hV_29]; simp [go_sem]
  have s_33 : w3.heap.size < V_29.heap.size := by rw [← hV_29]; simp
  have k_34 : w3.heap.size < V_29.heap.size := s_33
  have c_35 := (bV_29.cell (p := ⟨w1.heap.size, 0, none⟩) s_22).trans c_21
  have s_36 : w1.heap.size < V_29.heap.size := Nat.lt_of_lt_of_le s_22 bV_29.size
  have c_37 := (bV_29.cell (p := ⟨w2.heap.size, 0, none⟩) s_26).trans c_23
  have c_38 := (bV_29.cell (p := ⟨w2.heap.size, 1, none⟩) s_26).trans c_24
  have c_39 := (bV_29.cell (p := ⟨w2.heap.size, 2, none⟩) s_26).trans c_25
  have s_40 : w2.heap.size < V_29.heap.size := Nat.lt_of_lt_of_le s_26 bV_29.size
  have H_41 := Lib.hid (H_27.out.below bV_29)
  have HB := Lib.hid (HB.out.trans (bV_29.mono HB.out.size))
  have o_42 : w3.heap.size ≤ V_29.heap.size := bV_29.size
  clear c_21 s_22 c_23 c_24 c_25 s_26
  clear bV_29
  obtain ⟨ok, hok⟩ := mok_ex os
  have HOK := Lib.hid hok
  clear hok
  go_wp2_with fail
  clear hV_29
  refine (vmapOk_is HOK.out H_41.out c).mono ?_
  rintro e w4 ⟨rfl, hb⟩
  have c_43 := (hb.cell (p := ⟨w1.heap.size, 0, none⟩) s_36).trans c_35
  have s_44 : w1.heap.size < w4.heap.size := Nat.lt_of_lt_of_le s_36 hb.size
  have c_45 := (hb.cell (p := ⟨w2.heap.size, 0, none⟩) s_40).trans c_37
  have c_46 := (hb.cell (p := ⟨w2.heap.size, 1, none⟩) s_40).trans c_38
  have c_47 := (hb.cell (p := ⟨w2.heap.size, 2, none⟩) s_40).trans c_39
  have s_48 : w2.heap.size < w4.heap.size := Nat.lt_of_lt_of_le s_40 hb.size
  have c_49 := (hb.cell (p := ⟨w3.heap.size, 0, none⟩) s_33).trans c_30
  have c_50 := (hb.cell (p := ⟨w3.heap.size, 1, none⟩) s_33).trans c_31
  have c_51 := (hb.cell (p := ⟨w3.heap.size, 2, none⟩) s_33).trans c_32
  have s_52 : w3.heap.size < w4.heap.size := Nat.lt_of_lt_of_le s_33 hb.size
  have H_53 := Lib.hid (H_41.out.below hb)
  have HB := Lib.hid (HB.out.trans (hb.mono HB.out.size))
  have o_54 : V_29.heap.size ≤ w4.heap.size := hb.size
  clear c_35 s_36 c_37 c_38 c_39 s_40 c_30 c_31 c_32 s_33
  clear hb
  cases ok
  · go_wp2_with fail
    go_ret
    exact ⟨rfl, HB.out⟩
  have HM := Lib.hid (HOK.out.1 rfl)
  have HALL := Lib.hid (seen_any (key := key) HM.out)
  have HBL := Lib.hid K1.out.bool
  go_wp2_with fail
  go_loopw [9, 10] (fun f i wr => ∃ t n : Nat, t ≤ os.length ∧ i = .int .i64 t ∧ f = .bool ((os.take t).any (seenO key)) ∧ wr = w4.drewN n) (fun _ i _ => os.length - (intOf i).toNat)
  case atStart => exact ⟨0, 0, Nat.zero_le _, rfl, rfl, rfl⟩
  case round =>
    obtain ⟨t, n, ht, rfl, rfl, rfl⟩ := hrel
    by_cases hlt : t < os.length
    · skip
      have hmem := List.getElem_mem hlt
      rcases H_53.out.inn with hnil | ⟨bb, oo, rfl, hbb, hcc⟩
      · rw [hnil] at hlt; simp at hlt
      obtain ⟨d0, d1, dv⟩ := hcc t hlt
      have hv20 := HV20.out _ hmem
      have hpos := (((mapOk_iff os).1 HM.out).1 _ hmem).2.1
      rcases dv with hnil | ⟨b2, o2, ha2, hb2, hc2⟩
      · rw [hnil] at hpos; simp at hpos
      obtain ⟨q, hq⟩ : ∃ q, os[t].vers.length = q + 1 := ⟨os[t].vers.length - 1, by omega⟩
      have hql : q < os[t].vers.length := by omega
      have hq20 : q < 20 := by omega
      obtain ⟨e0, e1, e2⟩ := hc2 q hql
      have hlast : os[t].vers.getLast? = some os[t].vers[q] := by rw [List.getLast?_eq_getElem?, hq]; exact List.getElem?_eq_getElem hql
      obtain ⟨oc, hoc⟩ : ∃ oc, os[t].cap = oc := ⟨_, rfl⟩
      rw [ha2, hq, hoc] at d1
      have hstep := take_any os (seenO key) t hlt
      have HST := Lib.hid hstep
      have HLA := Lib.hid hlast
      have HQL := Lib.hid hql
      have hseen : seenO key os[t] = ((os[t].key.toList == key.toList) && !os[t].vers[q].gone) := by unfold seenO; rw [hlast]; rfl
      have HSE := Lib.hid hseen
      have HSV := Lib.hid (fun hs => seen_last (key := key) HM.out hmem hs : seenO key os[t] = true → _)
      obtain ⟨vq, hvq⟩ : ∃ v, os[t].vers[q] = v := ⟨_, rfl⟩
      obtain ⟨ky, hky⟩ : ∃ s, os[t].key = s := ⟨_, rfl⟩
      have HVQ := Lib.hid hvq
      have HKE := Lib.hid hky
      have f0 := e0.trans (show some (Value.int .i64 os[t].vers[q].id) = some (.int .i64 vq.id) by rw [← hvq])
      have f1 := e1.trans (show some (Value.string os[t].vers[q].text) = some (.string vq.text) by rw [← hvq])
      have f2 := e2.trans (show some (Value.bool os[t].vers[q].gone) = some (.bool vq.gone) by rw [← hvq])
      rw [hky] at d0
      clear e0 e1 e2
      clear hcc hc2 hoc ha2 hq hstep hlast hseen hvq hky hpos hv20 hmem
      have i1 : (0 : Int) ≤ (t : Int) := by omega
      have i2 : (t : Int) < (os.length : Int) := by omega
      have i3 : (0 : Int) ≤ (q : Int) := by omega
      have i4 : (q : Int) < ((q + 1 : Nat) : Int) := by omega
      have i5 : ((q + 1 : Nat) : Int) - 1 = (q : Int) := by omega
      have i6 : IntKind.i64.wrap (q : Int) = (q : Int) := IntWalk.i64_in _ (by omega)
      have i7 : IntKind.i64.wrap ((q : Int) + 1 - 1) = (q : Int) := by rw [show (q : Int) + 1 - 1 = (q : Int) by omega]; exact i6
      cases hke : (ky.toList == key.toList)
      · skip
        have hs : seenO key os[t] = false := by rw [HSE.out, HKE.out, hke]; rfl
        have HS := Lib.hid hs
        clear hs
        go_wp2_with fail
        go_roundw
        case rel => exact ⟨t + 1, _, by omega, by go_num, by rw [HST.out, HS.out, Bool.or_false], rfl⟩
        case measure => simp [intOf]; omega
      · cases hg : vq.gone
        · skip
          have hs : seenO key os[t] = true := by rw [HSE.out, HKE.out, HVQ.out, hke, hg]; rfl
          obtain ⟨v, hv1, hv2⟩ := HSV.out hs
          have hv3 : v = vq := (Option.some.inj (hv1.symm.trans HLA.out)).trans HVQ.out
          rw [hv3] at hv2
          have K1v := K1.out
          rw [hv2] at K1v
          obtain ⟨rfl, rfl, rfl, rfl⟩ := VerIs.one (VerIs.of_some vq) K1v
          have HS := Lib.hid hs
          clear hs hv1 hv2 hv3 K1v
          go_wp2_with fail
          go_quiet (fail)
          go_wp2_with fail
          go_roundw
          case rel => exact ⟨t + 1, _, by omega, by go_num, by rw [HST.out, HS.out, Bool.or_true], rfl⟩
          case measure => simp [intOf]; omega
        · skip
          have hs : seenO key os[t] = false := by rw [HSE.out, HKE.out, HVQ.out, hke, hg]; rfl
          have HS := Lib.hid hs
          clear hs
          go_wp2_with fail
          go_roundw
          case rel => exact ⟨t + 1, _, by omega, by go_num, by rw [HST.out, HS.out, Bool.or_false], rfl⟩
          case measure => simp [intOf]; omega
    · skip
      obtain rfl : t = os.length := by omega
      have hfin : (os.take os.length).any (seenO key) = b1 := by rw [List.take_length, HALL.out, HBL.out]
      rw [hfin]
      go_wp2_with fail
      go_ret
      exact ⟨rfl, below_drewV HB.out _⟩
end Go.Proofs.Ytjijichgoodocaa

/- The closed facts of the row of FnVmapGet. -/
namespace Go.Proofs.Ytjijichgoodocaa.fnVmapGet
open Go.ChangeShapes Go.WideShapes Go.ChangeAt Go.RowKit

set_option maxRecDepth 100000 in
theorem closed : joinedFacts Try.pinned.checked.prog 5 Try.f5 Rows.fnVmapGetSpec Rows.fnVmapGetRow = true := by kernel_rfl
end Go.Proofs.Ytjijichgoodocaa.fnVmapGet
