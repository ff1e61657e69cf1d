/- Plain facts on maps of parts that are ok: the spans of their rows. -/
import Derived.Test.YtodpodgdhiadnaaPmSp0
import Derived.Test.YtodpodgdhiadnaaJoin
import Derived.Test.YtodpodgdhiadnaaDrawP
namespace Go.Proofs.Ytodpodgdhiadnaa
open Go.RowKit

theorem okB_nil : okB keyB 6 ⟨#[]⟩ = true := by decide +kernel
theorem pm_lo_ok {ep : Int} {vs : List RowD} (h : PmapOkP ep vs) {j : Nat} (hj : j < vs.length) : okB keyB 6 (loOf vs j) = true := by
  rw [loOf_lt hj]; exact (pmapOk_rows h _ (List.getElem_mem hj)).1
theorem pm_hi_ok {ep : Int} {vs : List RowD} (h : PmapOkP ep vs) (j : Nat) : okB keyB 6 (hiOf vs j) = true := by
  by_cases hj : j + 1 < vs.length
  · rw [hiOf_lt hj]; exact (pmapOk_rows h _ (List.getElem_mem hj)).1
  · rw [hiOf_ge hj]; exact okB_nil
theorem pm_span_ok {ep : Int} {vs : List RowD} (h : PmapOkP ep vs) {j : Nat} (hj : j < vs.length) : spanOkB (loOf vs j) (hiOf vs j) = true := by
  unfold spanOkB
  rw [pm_lo_ok h hj, pm_hi_ok h j]
  by_cases h1 : j + 1 < vs.length
  · rw [hiOf_lt h1, loOf_lt hj, (less_iff _ _).2 (pmap_next h h1)]; simp
  · rw [hiOf_ge h1, nil_toList]; rfl
theorem pm_hi_ne {ep : Int} {vs : List RowD} (h : PmapOkP ep vs) {j : Nat} (hj : j + 1 < vs.length) : (hiOf vs j).toList.isEmpty = false := by
  rw [hiOf_lt hj]
  have h1 := pmap_next h hj
  cases he : vs[j + 1].f0.toList with
  | nil => rw [he] at h1; exact absurd h1 (List.not_lt_nil _)
  | cons a t => rfl
theorem pm_join {ep : Int} {vs : List RowD} (h : PmapOkP ep vs) {j : Nat} (hj : j + 1 < vs.length) : joinOkB (loOf vs j) (hiOf vs j) (loOf vs (j + 1)) (hiOf vs (j + 1)) = true := by
  unfold joinOkB
  rw [pm_span_ok h (by omega), pm_span_ok h hj, pm_hi_ne h hj, hiOf_lt hj, loOf_lt hj]; simp
theorem pm_first {ep : Int} {vs : List RowD} (h : PmapOkP ep vs) : (loOf vs 0).toList = [] := by
  rw [loOf_lt h.pos]; exact pmap_first h h.pos
theorem pm_has {ep : Int} {vs : List RowD} (h : PmapOkP ep vs) {key : ByteArray} {k i : Nat} (hF : FindAt vs key k) (hi : i < vs.length) : hasB (loOf vs i) (hiOf vs i) key = decide (i = k) := by
  have hk := hF.1.1
  have lo : ∀ n, n < vs.length → n ≤ k → Op.bytesLess key.toList (loOf vs n).toList = false := fun n hn hnk => by
    rcases Nat.eq_zero_or_pos n with rfl | hp
    · rw [pm_first h]; cases key.toList <;> rfl
    · have := hF.1.2 n hp hnk; rw [leB_not] at this; simpa using this
  rcases Nat.lt_trichotomy i k with hlt | rfl | hgt
  · rw [decide_eq_false (by omega)]
    unfold hasB
    have e := pm_hi_ne h (j := i) (by omega)
    have e2 := lo (i + 1) (by omega) (by omega)
    rw [loOf_lt (by omega)] at e2
    rw [e, hiOf_lt (by omega), e2]; simp
  · rw [decide_eq_true rfl]
    unfold hasB
    rw [lo i hk (Nat.le_refl _)]
    by_cases h1 : i + 1 < vs.length
    · have := hF.2 h1
      rw [loOf_lt h1, leB_not] at this
      rw [hiOf_lt h1]; simp at this; simp [this]
    · rw [hiOf_ge h1, nil_toList]; rfl
  · rw [decide_eq_false (by omega)]
    have h1 : k + 1 < vs.length := by omega
    have h2 := hF.2 h1
    rw [loOf_lt h1, leB_no] at h2
    have h3 : key.toList < vs[i].f0.toList := by
      by_cases e : i = k + 1
      · subst e; exact h2
      · exact List.lt_trans h2 (pmap_mono h (i := k + 1) (j := i) h1 hi (by omega))
    unfold hasB
    rw [loOf_lt hi, (less_iff _ _).2 h3]; rfl
theorem pm_spanHas {ep : Int} {vs : List RowD} (h : PmapOkP ep vs) {key : ByteArray} {k i : Nat} (hK : keyOkB key = true) (hF : FindAt vs key k) (hi : i < vs.length) : spanHasB (loOf vs i) (hiOf vs i) key = decide (i = k) := by
  unfold spanHasB; rw [pm_span_ok h hi, hK, pm_has h hF hi]; rfl
theorem pm_sizes {vs : List RowD} (hf : ∀ v ∈ vs, v.fits) (i : Nat) : (loOf vs i).size ≤ maxLen ∧ (hiOf vs i).size ≤ maxLen := by
  have h0 : (⟨#[]⟩ : ByteArray).size ≤ maxLen := by unfold maxLen; exact Nat.zero_le _
  constructor
  · by_cases h : i < vs.length
    · rw [loOf_lt h]; exact hf _ (List.getElem_mem h)
    · rw [show loOf vs i = ⟨#[]⟩ by simp [loOf, h]]; exact h0
  · by_cases h : i + 1 < vs.length
    · rw [hiOf_lt h]; exact hf _ (List.getElem_mem h)
    · rw [hiOf_ge h]; exact h0
theorem merge_len {vs : List RowD} {j : Nat} (hj : j + 1 < vs.length) : (vs.take (j + 1) ++ vs.drop (j + 2)).length + 1 = vs.length := by
  rw [List.length_append, List.length_take, List.length_drop]; omega
theorem merge_lo {vs : List RowD} {j : Nat} (hj : j + 1 < vs.length) : loOf (vs.take (j + 1) ++ vs.drop (j + 2)) j = loOf vs j := by
  rw [loOf_lt (by have := merge_len hj; omega), loOf_lt (by omega), List.getElem_append_left (by rw [List.length_take]; omega), List.getElem_take]
theorem merge_hi {vs : List RowD} {j : Nat} (hj : j + 1 < vs.length) : hiOf (vs.take (j + 1) ++ vs.drop (j + 2)) j = hiOf vs (j + 1) := by
  have hl := merge_len hj
  have ht : (vs.take (j + 1)).length = j + 1 := by rw [List.length_take]; omega
  by_cases h : j + 2 < vs.length
  · rw [hiOf_lt (by omega), hiOf_lt (by omega), List.getElem_append_right (by omega)]
    simp only [ht, List.getElem_drop]
    congr 2
    omega
  · rw [hiOf_ge (by omega), hiOf_ge (by omega)]
end Go.Proofs.Ytodpodgdhiadnaa
