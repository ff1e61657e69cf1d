/- The law of VmapOk, walked. -/
import Derived.Test.YtchnmcpnpipfiaaMapOk
import Derived.Test.YtchnmcpnpipfiaaVmToB
import Derived.Test.YtchnmcpnpipfiaaAsk
import Derived.Test.YtchnmcpnpipfiaaVmapAt
namespace Go.Proofs.Ytchnmcpnpipfiaa
open Go.RowKit

theorem step {w u v : World} (h : Below w.heap.size w u) (hb : Below u.heap.size u v) : Below w.heap.size w v := h.trans (hb.mono h.size)
theorem fits_same {xs ys : List ObjD} (h : SameObjs xs ys) (hf : ∀ o ∈ xs, o.fits) : ∀ o ∈ ys, o.fits := by
  intro o ho
  obtain ⟨i, hi, rfl⟩ := List.getElem_of_mem ho
  have hx : i < xs.length := by have := h.1; omega
  obtain ⟨k1, k2⟩ := h.2 i hx hi
  have := hf _ (List.getElem_mem hx)
  exact ⟨k1 ▸ this.1, k2 ▸ this.2.1, k2 ▸ this.2.2⟩
theorem ok_same {xs ys : List ObjD} (h : SameObjs xs ys) : MapOkTo xs xs.length ↔ MapOkTo ys ys.length := by
  have key : ∀ {xs ys : List ObjD}, SameObjs xs ys → MapOkTo xs xs.length → MapOkTo ys ys.length := by
    intro xs ys h hx i hi _
    have hix : i < xs.length := by have := h.1; omega
    obtain ⟨k1, k2⟩ := h.2 i hix hi
    obtain ⟨a1, a2, a3, a4⟩ := hx i hix hix
    refine ⟨k1 ▸ a1, fun j hj e => ?_, k2 ▸ a3, k2 ▸ a4⟩
    have hjx : j < xs.length := by have := h.1; omega
    rw [← (h.2 j hjx hj).1, ← k1]
    exact a2 j hjx e
  exact ⟨key h, key ⟨h.1.symm, fun i hi hk => ⟨(h.2 i hk hi).1.symm, (h.2 i hk hi).2.symm⟩⟩⟩
theorem vlen_same {xs ys : List ObjD} (h : SameObjs xs ys) (hf : ∀ o ∈ xs, o.vers.length ≤ 1048576) : ∀ o ∈ ys, o.vers.length ≤ 1048576 := by
  intro o ho
  obtain ⟨i, hi, rfl⟩ := List.getElem_of_mem ho
  have hx : i < xs.length := by have := h.1; omega
  rw [← (h.2 i hx hi).2]
  exact hf _ (List.getElem_mem hx)
theorem pairs_same {xs ys : List ObjD} (h : SameObjs xs ys) : xs.map (fun o => (o.key, o.vers)) = ys.map (fun o => (o.key, o.vers)) := by
  apply List.ext_getElem
  · simp [h.1]
  · intro i h1 h2
    simp only [List.length_map] at h1 h2
    simp only [List.getElem_map]
    rw [(h.2 i h1 h2).1, (h.2 i h1 h2).2]
theorem atF_pairs (xs : List ObjD) (key : ByteArray) (id : Int) : atF xs key id = ((xs.map fun o => (o.key, o.vers)).find? fun p => p.1.toList == key.toList).bind fun p => seenF p.2 id := by
  rw [List.find?_map, atF, keyF]
  cases h : xs.find? (fun o => o.key.toList == key.toList) <;> simp [Function.comp_def, h]
theorem atF_same {xs ys : List ObjD} (h : SameObjs xs ys) (key : ByteArray) (id : Int) : atF xs key id = atF ys key id := by
  rw [atF_pairs, atF_pairs, pairs_same h]
theorem at_both {os xs ys : List ObjD} {key : ByteArray} {id : Int} {x y : Option VerD} (h : SameObjs os xs) (k : SameObjs os ys)
    (hx : MapOkTo xs xs.length → keyOkB key = true → x = atF xs key id) (nx : ¬ (MapOkTo xs xs.length ∧ keyOkB key = true) → x = none)
    (hy : MapOkTo ys ys.length → keyOkB key = true → y = atF ys key id) (ny : ¬ (MapOkTo ys ys.length ∧ keyOkB key = true) → y = none) : y = x := by
  by_cases hm : MapOkTo os os.length ∧ keyOkB key = true
  · rw [hx ((ok_same h).1 hm.1) hm.2, hy ((ok_same k).1 hm.1) hm.2, ← atF_same h, ← atF_same k]
  · rw [nx (fun q => hm ⟨(ok_same h).2 q.1, q.2⟩), ny (fun q => hm ⟨(ok_same k).2 q.1, q.2⟩)]
theorem same_symm_trans {os xs ys : List ObjD} (h : SameObjs os xs) (k : SameObjs os ys) : SameObjs xs ys := by
  refine ⟨h.1.symm.trans k.1, fun i hi hk => ?_⟩
  have ho : i < os.length := by have := h.1; omega
  exact ⟨(h.2 i ho hi).1.symm.trans (k.2 i ho hk).1, (h.2 i ho hi).2.symm.trans (k.2 i ho hk).2⟩
theorem len_of_size {os : List ObjD} (h : mapSize os ≤ 1048576) : os.length ≤ 1048576 ∧ ∀ o ∈ os, o.vers.length ≤ 1048576 := by
  have key : ∀ (xs : List ObjD) (o : ObjD), o ∈ xs → o.vers.length ≤ (xs.map fun o => o.key.size + versSize o.vers).sum := by
    intro xs o ho
    induction xs with
    | nil => cases ho
    | cons x xs ih =>
      simp only [List.map_cons, List.sum_cons]
      rcases List.mem_cons.1 ho with rfl | h
      · unfold versSize; omega
      · have := ih h; omega
  unfold mapSize objsTo at h
  rw [List.take_of_length_le (Nat.le_refl _)] at h
  refine ⟨by omega, fun o ho => ?_⟩
  have := key os o ho
  omega

theorem vmapOk_at {n : Nat} (a : Option Addr) (os : List ObjD) (cap : Nat) (w : World) (hn : os.length = n) (hv : ObjsIn w a os) (hf : ∀ o ∈ os, o.fits) (hlen : os.length ≤ maxLen) :
    Calls Try.prog 31 #[.agg #[.slice a n cap]] w (OkPost os w) := by subst hn; exact vmapOk_any a os cap w hv hf hlen
theorem specVmapOk_at {n : Nat} (a : Option Addr) (os : List ObjD) (cap : Nat) (w : World) (hn : os.length = n) (hv : ObjsIn w a os) (hf : ∀ o ∈ os, o.fits) (hlen : os.length ≤ maxLen) :
    Calls Try.prog 29 #[.agg #[.slice a n cap]] w (OkPost os w) := by subst hn; exact specVmapOk_any a os cap w hv hf hlen

set_option maxHeartbeats 2000000 in
theorem vmapOk_law (a : Option Addr) (os : List ObjD) (cap : Nat) (w : World) (hv : ObjsIn w a os) (hf : ∀ o ∈ os, o.fits) (hn : os.length ≤ maxLen) :
    Calls Try.prog 8 #[.agg #[.slice a os.length cap]] w fun e w' => e = .returned (.bool true) ∧ Below w.heap.size w w' := by
  have HV := Lib.hid hv
  have HF := Lib.hid hf
  have HN := Lib.hid hn
  clear hv hf hn
  go_enter Try.func8, Try.ntmps8
  go_wp2_with fail
  have hb0 : Below w.heap.size w (w.alloc (.cells #[.slice a os.length cap] 52)) := (Below.refl _ _).alloc (Nat.le_refl _) _
  refine (szVmap_any a os cap _ _ (HV.out.below hb0) HF.out HN.out (by omega) (by omega)).mono ?_
  rintro e w1 ⟨z, rfl, hz, hb1⟩
  have c1 := hb1.cell (p := ⟨w.heap.size, 0, none⟩) (by simp)
  simp [go_sem] at c1
  have s1 : w.heap.size < w1.heap.size := by have := hb1.size; simp at this; omega
  have B1 := Lib.hid (hb0.trans (hb1.mono (by simp)))
  clear hb0 hb1
  rcases hz with rfl | ⟨hz, hsum⟩
  · go_wp2_with fail
    go_ret
    exact ⟨rfl, B1.out⟩
  · obtain ⟨hL, hVl⟩ := len_of_size (os := os) (by omega)
    have HVl := Lib.hid hVl
    clear hVl hsum
    go_wp2_with fail
    refine (toVmap_any a os cap _ (HV.out.below B1.out) hL HVl.out).mono ?_
    rintro e w2 ⟨g2, cs2, hsame2, hl2, rfl, hin2, hb2⟩
    have c2 := (hb2.cell (p := ⟨w.heap.size, 0, none⟩) s1).trans c1
    have s2 : w.heap.size < w2.heap.size := Nat.lt_of_lt_of_le s1 hb2.size
    have B2 := Lib.hid (step B1.out hb2)
    have HS2 := Lib.hid hsame2
    have HI2 := Lib.hid hin2
    have E2 := Lib.hid hl2
    clear hsame2 hin2 hb2 hl2 c1
    go_wp2_with fail
    refine (specVmapOk_at _ cs2 _ _ E2.out HI2.out (fits_same HS2.out HF.out) (by rw [E2.out]; exact HN.out)).mono ?_
    rintro e w3 ⟨b3, rfl, hk3, hb3⟩
    have c3 := (hb3.cell (p := ⟨w.heap.size, 0, none⟩) s2).trans c2
    have s3 : w.heap.size < w3.heap.size := Nat.lt_of_lt_of_le s2 hb3.size
    have B3 := Lib.hid (step B2.out hb3)
    have K3 := Lib.hid hk3
    clear hb3 hk3 c2
    go_wp2_with fail
    refine (toVmap_any a os cap _ (HV.out.below B3.out) hL HVl.out).mono ?_
    rintro e w4 ⟨g4, cs4, hsame4, hl4, rfl, hin4, hb4⟩
    have c4 := (hb4.cell (p := ⟨w.heap.size, 0, none⟩) s3).trans c3
    have s4 : w.heap.size < w4.heap.size := Nat.lt_of_lt_of_le s3 hb4.size
    have B4 := Lib.hid (step B3.out hb4)
    have HS4 := Lib.hid hsame4
    have HI4 := Lib.hid hin4
    have E4 := Lib.hid hl4
    clear hsame4 hin4 hb4 hl4 c3
    go_wp2_with fail
    have hb5' : Below w4.heap.size w4 (w4.alloc (.cells #[.slice (some ⟨g4, 0, none⟩) os.length os.length] 57)) := (Below.refl _ _).alloc (Nat.le_refl _) _
    refine (vmapOk_at _ cs4 _ _ E4.out (HI4.out.below hb5') (fits_same HS4.out HF.out) (by rw [E4.out]; exact HN.out)).mono ?_
    rintro e w5 ⟨b5, rfl, hk5, hb5⟩
    obtain rfl : b5 = b3 := by
      have h1 := ok_same HS2.out
      have h2 := ok_same HS4.out
      rw [Bool.eq_iff_iff, hk5, K3.out, ← h1, ← h2]
    have c5 := ((hb5.cell (p := ⟨w.heap.size, 0, none⟩) (by simp; omega)).trans (hb5'.cell (p := ⟨w.heap.size, 0, none⟩) s4)).trans c4
    have d5 := hb5.cell (p := ⟨w4.heap.size, 0, none⟩) (by simp)
    simp [go_sem] at d5
    have s5 : w4.heap.size < w5.heap.size := by have := hb5.size; simp at this; omega
    have HI5 := Lib.hid ((HI4.out.below hb5').below hb5)
    have B5 := Lib.hid (step (step B4.out hb5') hb5)
    clear hb5 hb5' hk5 c4
    go_wp2_with fail
    go_region_with (first
      | (go_at_call 30; refine (toVmap_any a os cap _ (HV.out.below (B5.out.drew)) hL HVl.out).mono ?_; rintro e w6 ⟨g6, cs6, hsame6, hl6, rfl, hin6, hb6⟩; have d6 := (hb6.cell (p := ⟨w4.heap.size, 0, none⟩) s5).trans d5; have HS6 := Lib.hid hsame6; have HI6 := Lib.hid hin6; have HB6 := Lib.hid hb6; clear hsame6 hin6 hb6 hl6)
      | (go_at_call 32; refine (eqVmap_same _ _ cs4 cs6 _ _ os.length _ ((HI5.out.below ((Below.refl _ _).drew)).below HB6.out) HI6.out (same_symm_trans HS4.out HS6.out) E4.out (fits_same HS4.out HF.out) HN.out).mono ?_; rintro e w7 ⟨rfl, hb7⟩))
    all_goals
      go_wp2_with fail
      go_ret
      exact ⟨rfl, step (step (B5.out.drew) HB6.out) hb7⟩
end Go.Proofs.Ytchnmcpnpipfiaa
