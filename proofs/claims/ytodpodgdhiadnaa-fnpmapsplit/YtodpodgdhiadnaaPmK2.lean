/- Drawing a map of parts, a key and a node. -/
import Derived.Test.YtodpodgdhiadnaaDrawT
import Derived.Test.YtodpodgdhiadnaaCaPm
namespace Go.Proofs.Ytodpodgdhiadnaa
open Go.RowKit

theorem keepD_only {rb n : Nat} {x y : Value} {u v : World} (ho : Only rb u v) (hne : n ≠ rb) (h : u.cell? ⟨n, 0, none⟩ = some x ∧ u.cell? ⟨n, 1, none⟩ = some y ∧ n < u.heap.size) : v.cell? ⟨n, 0, none⟩ = some x ∧ v.cell? ⟨n, 1, none⟩ = some y ∧ n < v.heap.size := ⟨(ho.cell (p := ⟨n, 0, none⟩) h.2.2 hne).trans h.1, (ho.cell (p := ⟨n, 1, none⟩) h.2.2 hne).trans h.2.1, Nat.lt_of_lt_of_le h.2.2 ho.size⟩
theorem keepD_below {n : Nat} {x y : Value} {u v : World} (hb : Below u.heap.size u v) (h : u.cell? ⟨n, 0, none⟩ = some x ∧ u.cell? ⟨n, 1, none⟩ = some y ∧ n < u.heap.size) : v.cell? ⟨n, 0, none⟩ = some x ∧ v.cell? ⟨n, 1, none⟩ = some y ∧ n < v.heap.size := ⟨(hb.cell (p := ⟨n, 0, none⟩) h.2.2).trans h.1, (hb.cell (p := ⟨n, 1, none⟩) h.2.2).trans h.2.1, Nat.lt_of_lt_of_le h.2.2 hb.size⟩
theorem keepD_set2 {n g : Nat} {x y p q : Value} {u : World} (hg : n ≠ g) (h : u.cell? ⟨n, 0, none⟩ = some x ∧ u.cell? ⟨n, 1, none⟩ = some y ∧ n < u.heap.size) : ((u.setCell ⟨g, 0, none⟩ p).setCell ⟨g, 1, none⟩ q).cell? ⟨n, 0, none⟩ = some x ∧ ((u.setCell ⟨g, 0, none⟩ p).setCell ⟨g, 1, none⟩ q).cell? ⟨n, 1, none⟩ = some y ∧ n < ((u.setCell ⟨g, 0, none⟩ p).setCell ⟨g, 1, none⟩ q).heap.size :=
  ⟨(keep2Set hg ⟨h.1, h.2.1⟩).1, (keep2Set hg ⟨h.1, h.2.1⟩).2, by simpa using h.2.2⟩
def SomePmSp (w : World) (e : Ending) (w' : World) : Prop := ∃ (ep : Int) (vs : List RowD) (a : Option Addr) (c : Nat) (key : ByteArray) (node : Int), key.size ≤ maxLen ∧ Small node ∧ e = .returned (.tuple #[.agg #[.int .i64 ep, .slice a vs.length c], .string key, .int .i64 node]) ∧ PmDrawn w' a vs c ∧ Below w.heap.size w w'

set_option maxRecDepth 100000 in
set_option maxHeartbeats 2000000 in
theorem drawPmapSplit_any (a : Option Addr) (len cap : Nat) (w : World) (h : BytesIn w a len cap) :
    Calls Try.prog 66 #[.slice a len cap] w (SomePmSp w) := by
  have H := Lib.hid h
  clear h
  go_enter Try.func66, Try.ntmps66
  go_wp2_with fail
  with_reducible refine (l20Open_any a len cap (w.heap.size + 1) _ ?hg ?hb).mono ?_
  case hg => simp
  case hb => exact H.out.alloc _
  rintro e w1 ⟨rfl, hr, hb1⟩
  have hne : w.heap.size ≠ w.heap.size + 1 := by omega
  have ZA := (Zr.made _ _ _ w).below hb1
  have E1 := Lib.hid (((Below.refl w.heap.size w).alloc (Nat.le_refl _) _).trans (hb1.mono (by simp)))
  have zA := ZA.lt
  have HR := Lib.hid hr
  clear hr hb1 H
  go_wp2_with fail
  with_reducible refine (l20AnyPmap_any (w.heap.size + 1) 0 w1 HR.out (by omega)).mono ?_
  rintro e w2 ⟨ep, vs, a', c, q, hq, h0, h5, rfl, hin, hf, hc1, hc2, hlb, hr, ho⟩
  have hr1 := hr.lt
  have hne2 : w2.heap.size ≠ w.heap.size + 1 := by omega
  have ZB := ZA.only ho hne
  have E2 := Lib.hid (E1.out.trans (ho.below (B := w.heap.size) (by omega) (by omega)))
  have HR2 := Lib.hid hr
  have HI := Lib.hid hin
  have HF := Lib.hid hf
  have hab : ∀ b o, a' = some ⟨b, o, none⟩ → w.heap.size + 1 < b := fun b o e => by have := hlb b o e; have := HR.out.lt; omega
  have HAB := Lib.hid hab
  have zB := ZB.lt
  clear hr ho HR E1 ZA hin hf hlb hab
  go_upto_region 3 with fail
  obtain ⟨W3, hW3⟩ : ∃ W3, w2.alloc (.cells #[.int .i64 ep, .slice a' vs.length c] 80) = W3 := ⟨_, rfl⟩
  have b3 : Below w2.heap.size w2 W3 := by rw [← hW3]; exact (Below.refl _ _).alloc (Nat.le_refl _) _
  have s0 : W3.cell? ⟨w2.heap.size, 0, none⟩ = some (.int .i64 ep) := by rw [← hW3]; simp
  have s1 : W3.cell? ⟨w2.heap.size, 1, none⟩ = some (.slice a' vs.length c) := by rw [← hW3]; simp
  have s2 : w2.heap.size < W3.heap.size := by rw [← hW3]; simp
  have ZC := ZB.below b3
  have HR3 := Lib.hid (HR2.out.below b3)
  have HI3 := Lib.hid (HI.out.below b3)
  have E3 := Lib.hid (E2.out.trans (b3.mono E2.out.size))
  have zC := ZC.lt
  rw [hW3]
  clear hW3 b3 ZB HR2 HI
  have hsA : intsOk (#[.int .i64 0, .int .i64 1, .int .i64 2, .int .i64 3] : Array Value).toList = true := by rfl
  have HSA := Lib.hid hsA
  clear hsA
  have hne3 : w2.heap.size ≠ w.heap.size := by omega
  have hlt3 : w.heap.size + 1 < W3.heap.size := by omega
  have q2 : W3.cell? ⟨w2.heap.size, 0, none⟩ = some (.int .i64 ep) ∧ W3.cell? ⟨w2.heap.size, 1, none⟩ = some (.slice a' vs.length c) ∧ w2.heap.size < W3.heap.size := ⟨s0, s1, s2⟩
  have qq := q2
  go_region_held3 (fun u => u.cell? ⟨w2.heap.size, 0, none⟩ = some (.int .i64 ep) ∧ u.cell? ⟨w2.heap.size, 1, none⟩ = some (.slice a' vs.length c) ∧ w2.heap.size < u.heap.size)
    (first | with_reducible exact qq | with_reducible exact keepD_below ((Below.refl _ _).drew) qq | with_reducible exact keepD_below ((Below.refl _ _).alloc (Nat.le_refl _) _) qq | with_reducible exact keepD_below (((Below.refl _ _).alloc (Nat.le_refl _) _).drew) qq | with_reducible exact keepD_below (((Below.refl _ _).drew).alloc (Nat.le_refl _) _) qq | with_reducible exact keepD_set2 hne3 qq)
    (first
      | (go_at_call 139; refine (l20AnyKey_any (w.heap.size + 1) q _ (by first | with_reducible exact HR3.out.drew | with_reducible exact (HR3.out.alloc _).drew | with_reducible exact HR3.out.drew.alloc _) (by omega)).mono ?_; rintro e w4 ⟨key, q4, hq4, hkey, rfl, hr4, ho40⟩; have hom : Only (w.heap.size + 1) W3 w4 := (by first | with_reducible exact ((Only.refl _ W3).drew).trans ho40 | with_reducible exact (((Only.refl _ W3).alloc _).drew).trans ho40 | with_reducible exact (((Only.refl _ W3).drew).alloc _).trans ho40); have qq := keepD_only hom hne2 q2; have HR4 := Lib.hid hr4; clear hr4)
      | (go_at_call 153; (first | (with_reducible refine (oneNew_any (w.heap.size + 1) q4 4 w4 _ #[.int .i64 0, .int .i64 1, .int .i64 2, .int .i64 3] rfl HR4.out (by omega) HSA.out rfl (by omega) (by omega)).mono ?_) | (with_reducible refine (oneOld_any (w.heap.size + 1) q4 4 _ w4 _ #[.int .i64 0, .int .i64 1, .int .i64 2, .int .i64 3] rfl (((Only.refl _ _).drew).trans ho40) hlt3 HR4.out (by omega) HSA.out rfl (by omega) (by omega)).mono ?_) | (with_reducible refine (oneOld_any (w.heap.size + 1) q4 4 _ w4 _ #[.int .i64 0, .int .i64 1, .int .i64 2, .int .i64 3] rfl ho40 hlt3 HR4.out (by omega) HSA.out rfl (by omega) (by omega)).mono ?_)); rintro e w5 ⟨nd, hnd, rfl, hr5, ho50⟩; have ho5 := hom.trans ho50; have qq := keepD_only ho5 hne2 q2; have ZD := ZC.only ho5 hne; have a0 := ZD.c0; have a1 := ZD.c1; have a2 := ZD.f0; have a3 := ZD.f1; have a4 := ZD.lt))
  all_goals
    go_wp2_with fail
    refine bodyPost_ret (v := .tuple #[.agg #[.int .i64 ep, .slice a' vs.length c], .string key, .int .i64 nd]) (by simp [results, Try.results66, go_sem, a0, a1]) rfl ⟨ep, vs, a', c, key, nd, hkey, hnd, rfl, ⟨?_, HF.out, h0, h5, hc1, hc2⟩, ?_⟩
    · exact ((HI3.out.turned (S := fun k => k = w.heap.size + 1) (fun b o e k => by have := HAB.out b o e; omega) ho5.turned).setNew _ (fun b o e => by have := HAB.out b o e; show b ≠ w.heap.size; omega)).setNew _ (fun b o e => by have := HAB.out b o e; show b ≠ w.heap.size; omega)
    · exact ((E3.out.trans (ho5.below (B := w.heap.size) (by omega) (by omega))).setCell (p := ⟨w.heap.size, 0, none⟩) (Nat.le_refl _) _).setCell (p := ⟨w.heap.size, 1, none⟩) (Nat.le_refl _) _

end Go.Proofs.Ytodpodgdhiadnaa

/- Plain facts on a map of parts in which a row was parted: where keys are found. -/
namespace Go.Proofs.Ytodpodgdhiadnaa
open Go.RowKit

theorem split_lo_le {vs : List RowD} {key : ByteArray} {node : Int} {k i : Nat} (hk : k < vs.length) (hi : i ≤ k) : loOf (splitAt vs key node k) i = loOf vs i := by
  rw [loOf_lt (by rw [splitAt_len hk]; omega), loOf_lt (by omega)]
  simp only [splitAt]
  rw [List.getElem_append_left (by rw [List.length_take]; omega), List.getElem_take]
theorem split_at {vs : List RowD} {key : ByteArray} {node : Int} {k : Nat} (hk : k < vs.length) (h : k + 1 < (splitAt vs key node k).length) : (splitAt vs key node k)[k + 1] = ⟨key, node⟩ := by
  have ht : (vs.take (k + 1)).length = k + 1 := by rw [List.length_take]; omega
  simp only [splitAt]
  rw [List.getElem_append_right (by omega)]
  simp [ht]
theorem split_lo_at {vs : List RowD} {key : ByteArray} {node : Int} {k : Nat} (hk : k < vs.length) : loOf (splitAt vs key node k) (k + 1) = key := by
  have h : k + 1 < (splitAt vs key node k).length := by rw [splitAt_len hk]; omega
  rw [loOf_lt h, split_at hk h]
theorem split_lo_gt {vs : List RowD} {key : ByteArray} {node : Int} {k i : Nat} (hk : k < vs.length) (hi : k < i) (hl : i < vs.length) : loOf (splitAt vs key node k) (i + 1) = loOf vs i := by
  have ht : (vs.take (k + 1)).length = k + 1 := by rw [List.length_take]; omega
  rw [loOf_lt (by rw [splitAt_len hk]; omega), loOf_lt hl]
  simp only [splitAt]
  rw [List.getElem_append_right (by omega)]
  simp only [ht]
  rw [List.getElem_cons]
  rw [dif_neg (by omega)]
  simp only [List.getElem_drop]
  congr 2
  omega
theorem leB_refl (x : ByteArray) : leB x x = true := by rw [leB_iff]; exact List.lt_irrefl _
theorem split_find_self {vs : List RowD} {key : ByteArray} {node : Int} {k : Nat} (hF : FindAt vs key k) : FindAt (splitAt vs key node k) key (k + 1) := by
  have hk := hF.1.1
  refine ⟨⟨by rw [splitAt_len hk]; omega, fun i h1 h2 => ?_⟩, fun h => ?_⟩
  · by_cases e : i = k + 1
    · subst e; rw [split_lo_at hk]; exact leB_refl _
    · rw [split_lo_le hk (by omega)]; exact hF.1.2 i h1 (by omega)
  · rw [splitAt_len hk] at h
    rw [split_lo_gt hk (by omega) (by omega)]; exact hF.2 (by omega)
theorem split_find_other {vs : List RowD} {key other : ByteArray} {node : Int} {k j : Nat} (hF : FindAt vs key k) (hG : FindAt vs other j) : FindAt (splitAt vs key node k) other j ∨ FindAt (splitAt vs key node k) other (j + 1) := by
  have hk := hF.1.1
  have hj := hG.1.1
  have hl := splitAt_len (key := key) (node := node) hk
  rcases Nat.lt_trichotomy j k with h | rfl | h
  · refine .inl ⟨⟨by omega, fun i h1 h2 => ?_⟩, fun _ => ?_⟩
    · rw [split_lo_le hk (by omega)]; exact hG.1.2 i h1 h2
    · rw [split_lo_le hk (by omega)]; exact hG.2 (by omega)
  · cases hb : leB key other
    · refine .inl ⟨⟨by omega, fun i h1 h2 => ?_⟩, fun _ => ?_⟩
      · rw [split_lo_le hk (by omega)]; exact hG.1.2 i h1 h2
      · rw [split_lo_at hk]; exact hb
    · refine .inr ⟨⟨by omega, fun i h1 h2 => ?_⟩, fun h => ?_⟩
      · by_cases e : i = j + 1
        · subst e; rw [split_lo_at hk]; exact hb
        · rw [split_lo_le hk (by omega)]; exact hG.1.2 i h1 (by omega)
      · rw [split_lo_gt hk (by omega) (by omega)]; exact hG.2 (by omega)
  · refine .inr ⟨⟨by omega, fun i h1 h2 => ?_⟩, fun hq => ?_⟩
    · by_cases e : i ≤ k
      · rw [split_lo_le hk e]; exact hG.1.2 i h1 (by omega)
      · by_cases e2 : i = k + 1
        · subst e2
          rw [split_lo_at hk, leB_iff]
          intro hlt
          have h3 := hF.2 (by omega)
          rw [leB_no] at h3
          have h4 := hG.1.2 (k + 1) (by omega) (by omega)
          rw [leB_iff] at h4
          exact h4 (List.lt_trans hlt h3)
        · obtain ⟨i', rfl⟩ : ∃ i', i = i' + 1 := ⟨i - 1, by omega⟩
          rw [split_lo_gt hk (by omega) (by omega)]; exact hG.1.2 i' (by omega) (by omega)
    · rw [split_lo_gt hk (by omega) (by omega)]; exact hG.2 (by omega)
theorem split_found {vs : List RowD} {key other : ByteArray} {node : Int} {k : Nat} {ep ep2 r1 r2 : Int} (hp : PmapOkP ep vs) (hp2 : PmapOkP ep2 (splitAt vs key node k)) (hF : FindAt vs key k)
    (h1 : (PmapOkP ep vs ∧ keyOkB other = true → ∃ k : Nat, r1 = k ∧ FindAt vs other k) ∧ (¬ (PmapOkP ep vs ∧ keyOkB other = true) → r1 = -1))
    (h2 : (PmapOkP ep2 (splitAt vs key node k) ∧ keyOkB other = true → ∃ j : Nat, r2 = j ∧ FindAt (splitAt vs key node k) other j) ∧ (¬ (PmapOkP ep2 (splitAt vs key node k) ∧ keyOkB other = true) → r2 = -1)) :
    (decide (r1 < 0) || (r2 == r1) || (r2 == r1 + 1)) = true ∧ -1 ≤ r1 ∧ r1 ≤ vs.length := by
  by_cases hK : keyOkB other = true
  · obtain ⟨j, rfl, hj⟩ := h1.1 ⟨hp, hK⟩
    obtain ⟨i, rfl, hi⟩ := h2.1 ⟨hp2, hK⟩
    have := hj.1.1
    refine ⟨?_, by omega, by omega⟩
    rcases split_find_other (node := node) hF hj with h | h
    · rw [hi.unique h]; simp
    · rw [hi.unique h]; simp
  · rw [h1.2 (fun h => hK h.2)]
    exact ⟨rfl, by omega, by omega⟩
end Go.Proofs.Ytodpodgdhiadnaa
