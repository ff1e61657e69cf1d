/- What keeps a map of parts ok: two rows put together, a row put in. -/
import Derived.Test.YtodpodgdhiadnaaPmCpS
import Derived.Test.YtodpodgdhiadnaaPmapMergeS
namespace Go.Proofs.Ytodpodgdhiadnaa
open Go.RowKit

theorem pmapOk_mk {ep : Int} {vs : List RowD} (h1 : ∀ v ∈ vs, okB keyB 6 v.f0 = true ∧ inB v.f1 0 2 = true) (h2 : ∀ h : 0 < vs.length, vs[0].f0.toList = []) (h3 : (vs.map fun v => v.f0.toList).Pairwise (· < ·)) (h4 : inB (vs.length : Int) 1 5 = true) (h5 : inB ep 1 99 = true) : PmapOkP ep vs := by
  refine ⟨fun i hi _ => ⟨(h1 _ (List.getElem_mem hi)).1, fun e => by subst e; rw [h2 hi]; rfl, fun j hj e => ?_, (h1 _ (List.getElem_mem hi)).2⟩, h4, h5⟩
  subst e
  have := List.pairwise_iff_getElem.1 h3 j (j + 1) (by simpa using hj) (by simpa using hi) (by omega)
  simp only [List.getElem_map] at this
  exact (leB_no _ _).2 this
theorem pmapOk_rows {ep : Int} {vs : List RowD} (h : PmapOkP ep vs) : ∀ v ∈ vs, okB keyB 6 v.f0 = true ∧ inB v.f1 0 2 = true := fun v hv => by
  obtain ⟨i, hi, rfl⟩ := List.getElem_of_mem hv
  obtain ⟨q1, _, _, q4⟩ := h.1 i hi hi
  exact ⟨q1, q4⟩
theorem pmapOk_up {ep : Int} {vs : List RowD} (h : PmapOkP ep vs) : (vs.map fun v => v.f0.toList).Pairwise (· < ·) := by
  rw [List.pairwise_iff_getElem]
  intro i j hi hj hij
  simp only [List.getElem_map]
  exact pmap_mono h (by simpa using hi) (by simpa using hj) hij
theorem inB_iff (n a b : Int) : inB n a b = true ↔ a ≤ n ∧ n ≤ b := by simp [inB]
theorem pmapOk_merge {ep : Int} {vs : List RowD} {k : Nat} (h : PmapOkP ep vs) (hk : k + 1 < vs.length) (he : ep < 99) : PmapOkP (ep + 1) (vs.take (k + 1) ++ vs.drop (k + 2)) := by
  have hs : (vs.take (k + 1) ++ vs.drop (k + 2)).Sublist vs := by
    have e : vs = vs.take (k + 1) ++ vs.drop (k + 1) := (List.take_append_drop _ _).symm
    conv => rhs; rw [e]
    refine List.Sublist.append (List.Sublist.refl _) ?_
    rw [show k + 2 = 1 + (k + 1) by omega, Nat.add_comm 1, ← List.drop_drop]
    exact List.drop_sublist _ _
  have h4 := (inB_iff _ _ _).1 h.2.1
  have h5 := (inB_iff _ _ _).1 h.2.2
  refine pmapOk_mk (fun v hv => pmapOk_rows h v (hs.subset hv)) (fun h0 => ?_) (List.Pairwise.sublist (hs.map _) (pmapOk_up h)) ((inB_iff _ _ _).2 ?_) ((inB_iff _ _ _).2 (by omega))
  · rw [List.getElem_append_left (by rw [List.length_take]; omega), List.getElem_take]
    exact pmap_first h (by omega)
  · rw [List.length_append, List.length_take, List.length_drop]; omega
theorem lt_of_le_ne {x y : List UInt8} (h1 : ¬ y < x) (h2 : x ≠ y) : x < y := by
  by_cases q : x < y
  · exact q
  · exact absurd (List.le_antisymm (show x ≤ y from h1) (show y ≤ x from q)) h2
theorem pmapOk_split {ep : Int} {vs : List RowD} {key : ByteArray} {node : Int} {k : Nat} (h : PmapOkP ep vs) (hC : CanSplit ep vs key node) (hF : FindAt vs key k) : PmapOkP (ep + 1) (splitAt vs key node k) := by
  obtain ⟨c1, c2, c3, c4, c5⟩ := hC
  have hk := hF.1.1
  have h4 := (inB_iff _ _ _).1 h.2.1
  have h5 := (inB_iff _ _ _).1 h.2.2
  unfold keyOkB at c1
  rw [Bool.and_eq_true] at c1
  obtain ⟨n1, n2⟩ := c1
  have hup := pmapOk_up h
  have below : ∀ i (hi : i < vs.length), i ≤ k → vs[i].f0.toList < key.toList := by
    intro i hi hik
    have hkk : vs[k].f0.toList < key.toList := by
      refine lt_of_le_ne ?_ (fun e => c5 ⟨k, hk, e⟩)
      by_cases k0 : k = 0
      · subst k0
        rw [pmap_first h hk]; exact List.not_lt_nil _
      · have := hF.1.2 k (by omega) (Nat.le_refl _)
        rw [loOf, dif_pos hk] at this
        exact (leB_iff _ _).1 this
    by_cases e : i = k
    · subst e; exact hkk
    · exact List.lt_trans (pmap_mono h hi hk (by omega)) hkk
  have above : ∀ i (hi : i < vs.length), k < i → key.toList < vs[i].f0.toList := by
    intro i hi hik
    have h1 : k + 1 < vs.length := by omega
    have hn := hF.2 h1
    rw [loOf, dif_pos h1] at hn
    have hn := (leB_no _ _).1 hn
    by_cases e : i = k + 1
    · subst e; exact hn
    · exact List.lt_trans hn (pmap_mono h h1 hi (by omega))
  refine pmapOk_mk (fun v hv => ?_) (fun h0 => ?_) ?_ ((inB_iff _ _ _).2 (by rw [splitAt_len hk]; omega)) ((inB_iff _ _ _).2 (by omega))
  · rcases List.mem_append.1 hv with hv | hv
    · exact pmapOk_rows h v (List.mem_of_mem_take hv)
    · rcases List.mem_cons.1 hv with rfl | hv
      · exact ⟨n2, c2⟩
      · exact pmapOk_rows h v (List.mem_of_mem_drop hv)
  · simp only [splitAt]
    rw [List.getElem_append_left (by rw [List.length_take]; omega), List.getElem_take]
    exact pmap_first h (by omega)
  · unfold splitAt
    rw [List.map_append, List.map_cons, List.pairwise_append, List.map_take, List.map_drop]
    refine ⟨hup.sublist (List.take_sublist _ _), List.pairwise_cons.2 ⟨fun x hx => ?_, hup.sublist (List.drop_sublist _ _)⟩, fun x hx y hy => ?_⟩
    · rw [← List.map_drop] at hx
      obtain ⟨v, hv, rfl⟩ := List.mem_map.1 hx
      obtain ⟨i, hi, rfl⟩ := List.getElem_of_mem hv
      rw [List.length_drop] at hi
      rw [List.getElem_drop]
      exact above _ (by omega) (by omega)
    · rw [← List.map_take] at hx
      obtain ⟨v, hv, rfl⟩ := List.mem_map.1 hx
      obtain ⟨i, hi, rfl⟩ := List.getElem_of_mem hv
      rw [List.length_take] at hi
      rw [List.getElem_take]
      have hlt := below i (by omega) (by omega)
      rcases List.mem_cons.1 hy with rfl | hy
      · exact hlt
      · rw [← List.map_drop] at hy
        obtain ⟨v, hv, rfl⟩ := List.mem_map.1 hy
        obtain ⟨j, hj, rfl⟩ := List.getElem_of_mem hv
        rw [List.length_drop] at hj
        rw [List.getElem_drop]
        exact List.lt_trans hlt (above _ (by omega) (by omega))
end Go.Proofs.Ytodpodgdhiadnaa
