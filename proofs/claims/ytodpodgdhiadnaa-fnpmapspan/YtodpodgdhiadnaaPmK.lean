/- Contracts of SpanJoin, the program's and the model's: each returns just what the plain conditions say, and turns nothing that was in memory. -/
import Derived.Test.YtodpodgdhiadnaaCut
import Derived.Test.YtodpodgdhiadnaaPmSp0
import Derived.Test.YtodpodgdhiadnaaDrawP
namespace Go.Proofs.Ytodpodgdhiadnaa
open Go.RowKit

def joinOkB (a1 a2 b1 b2 : ByteArray) : Bool := spanOkB a1 a2 && spanOkB b1 b2 && !(a2.toList.isEmpty) && (a2.toList == b1.toList)

set_option maxHeartbeats 1000000 in
theorem join_no (a1 a2 b1 b2 : ByteArray) (w : World) (ha1 : a1.size ≤ maxLen) (ha2 : a2.size ≤ maxLen) (hb1 : b1.size ≤ maxLen) (hb2 : b2.size ≤ maxLen) (hn : joinOkB a1 a2 b1 b2 = false) :
    Calls Try.prog 54 #[.agg #[.string a1, .string a2], .agg #[.string b1, .string b2]] w fun e w' => e = .returned (.tuple #[.agg #[.string ⟨#[]⟩, .string ⟨#[]⟩], .bool false]) ∧ Below w.heap.size w w' := by
  unfold joinOkB at hn
  cases h1 : spanOkB a1 a2
  · clear hn
    go_enter Try.func54, Try.ntmps54
    go_wp2_with (go_at_call 55; refine (spanOk_is h1 ha1 ha2 _).mono ?_; rintro e w1 ⟨rfl, hw1⟩; obtain ⟨hc1, hf1⟩ := bcell hw1)
    refine bodyPost_ret (v := .tuple #[.agg #[.string ⟨#[]⟩, .string ⟨#[]⟩], .bool false]) (by simp [results, Try.results54, go_sem, hc1]) rfl ⟨rfl, ?_⟩
    refine Below.setCell (Below.setCell ?_ (zle2 _) _) (zle2 _) _
    exact ((((Below.refl _ _).alloc (Nat.le_refl _) _).alloc (by simp) _).alloc (by simp; omega) _).trans (hw1.mono (by simp; omega))
  · rw [h1] at hn
    cases h2 : spanOkB b1 b2
    · clear hn
      go_enter Try.func54, Try.ntmps54
      go_wp2_with (go_at_call 55; (with_reducible refine (spanOk_is h1 ha1 ha2 _).mono ?_); rintro e w1 ⟨rfl, hw1⟩; obtain ⟨hc1, hf1⟩ := bcell hw1)
      have za : w.heap.size + 1 + 1 < w1.heap.size := by have := hw1.size; simp at this; omega
      have zb : w.heap.size + 1 < w1.heap.size := by omega
      refine (spanOk_is h2 hb1 hb2 _).mono ?_; rintro e w2 ⟨rfl, hw2⟩; obtain ⟨hc2, hf2⟩ := bcell hw2
      go_wp2_with fail
      refine bodyPost_ret (v := .tuple #[.agg #[.string ⟨#[]⟩, .string ⟨#[]⟩], .bool false]) (by simp [results, Try.results54, go_sem, hc1, hc2, za]) rfl ⟨rfl, ?_⟩
      refine Below.setCell (Below.setCell ?_ (zle2 _) _) (zle2 _) _
      exact (((((Below.refl _ _).alloc (Nat.le_refl _) _).alloc (by simp) _).alloc (by simp; omega) _).trans (hw1.mono (by simp; omega))).trans (hw2.mono (by omega))
    · rw [h2] at hn
      cases h3 : a2.toList.isEmpty
      · have h4 : (a2.toList == b1.toList) = false := by simpa [h3] using hn
        clear hn
        go_enter Try.func54, Try.ntmps54
        go_wp2_with (go_at_call 55; (with_reducible refine (spanOk_is h1 ha1 ha2 _).mono ?_); rintro e w1 ⟨rfl, hw1⟩; obtain ⟨hc1, hf1⟩ := bcell hw1)
        have za : w.heap.size + 1 + 1 < w1.heap.size := by have := hw1.size; simp at this; omega
        have zb : w.heap.size + 1 < w1.heap.size := by omega
        have zc : w.heap.size < w1.heap.size := by omega
        refine (spanOk_is h2 hb1 hb2 _).mono ?_; rintro e w2 ⟨rfl, hw2⟩; obtain ⟨hc2, hf2⟩ := bcell hw2
        go_wp2_with fail
        refine bodyPost_ret (v := .tuple #[.agg #[.string ⟨#[]⟩, .string ⟨#[]⟩], .bool false]) (by simp [results, Try.results54, go_sem, hc1, hc2, za]) rfl ⟨rfl, ?_⟩
        refine Below.setCell (Below.setCell ?_ (zle2 _) _) (zle2 _) _
        exact (((((Below.refl _ _).alloc (Nat.le_refl _) _).alloc (by simp) _).alloc (by simp; omega) _).trans (hw1.mono (by simp; omega))).trans (hw2.mono (by omega))
      · clear hn
        go_enter Try.func54, Try.ntmps54
        go_wp2_with (go_at_call 55; (with_reducible refine (spanOk_is h1 ha1 ha2 _).mono ?_); rintro e w1 ⟨rfl, hw1⟩; obtain ⟨hc1, hf1⟩ := bcell hw1)
        have za : w.heap.size + 1 + 1 < w1.heap.size := by have := hw1.size; simp at this; omega
        have zb : w.heap.size + 1 < w1.heap.size := by omega
        have zc : w.heap.size < w1.heap.size := by omega
        refine (spanOk_is h2 hb1 hb2 _).mono ?_; rintro e w2 ⟨rfl, hw2⟩; obtain ⟨hc2, hf2⟩ := bcell hw2
        go_wp2_with fail
        refine bodyPost_ret (v := .tuple #[.agg #[.string ⟨#[]⟩, .string ⟨#[]⟩], .bool false]) (by simp [results, Try.results54, go_sem, hc1, hc2, za]) rfl ⟨rfl, ?_⟩
        refine Below.setCell (Below.setCell ?_ (zle2 _) _) (zle2 _) _
        exact (((((Below.refl _ _).alloc (Nat.le_refl _) _).alloc (by simp) _).alloc (by simp; omega) _).trans (hw1.mono (by simp; omega))).trans (hw2.mono (by omega))

set_option maxHeartbeats 1000000 in
theorem join_yes (a1 a2 b1 b2 : ByteArray) (w : World) (ha1 : a1.size ≤ maxLen) (ha2 : a2.size ≤ maxLen) (hb1 : b1.size ≤ maxLen) (hb2 : b2.size ≤ maxLen) (hn : joinOkB a1 a2 b1 b2 = true) :
    Calls Try.prog 54 #[.agg #[.string a1, .string a2], .agg #[.string b1, .string b2]] w fun e w' => e = .returned (.tuple #[.agg #[.string a1, .string b2], .bool true]) ∧ Below w.heap.size w w' := by
  unfold joinOkB at hn
  simp only [Bool.and_eq_true, Bool.not_eq_true'] at hn
  obtain ⟨⟨⟨h1, h2⟩, h3⟩, h4⟩ := hn
  go_enter Try.func54, Try.ntmps54
  go_wp2_with (go_at_call 55; (with_reducible refine (spanOk_is h1 ha1 ha2 _).mono ?_); rintro e w1 ⟨rfl, hw1⟩; obtain ⟨hc1, hf1⟩ := bcell hw1)
  have za : w.heap.size + 1 + 1 < w1.heap.size := by have := hw1.size; simp at this; omega
  have zb : w.heap.size + 1 < w1.heap.size := by omega
  have zc : w.heap.size < w1.heap.size := by omega
  refine (spanOk_is h2 hb1 hb2 _).mono ?_; rintro e w2 ⟨rfl, hw2⟩; obtain ⟨hc2, hf2⟩ := bcell hw2
  go_wp2_with fail
  refine bodyPost_ret (v := .tuple #[.agg #[.string a1, .string b2], .bool true]) (by simp [results, Try.results54, go_sem, hc1, hc2, za]) rfl ⟨rfl, ?_⟩
  refine Below.setCell (Below.setCell ?_ (zle2 _) _) (zle2 _) _
  exact (((((Below.refl _ _).alloc (Nat.le_refl _) _).alloc (by simp) _).alloc (by simp; omega) _).trans (hw1.mono (by simp; omega))).trans (hw2.mono (by omega))
end Go.Proofs.Ytodpodgdhiadnaa

/- Plain facts on maps of parts that are ok: the spans of their rows. -/
namespace Go.Proofs.Ytodpodgdhiadnaa
open Go.RowKit

theorem okB_nil : okB keyB 6 ⟨#[]⟩ = true := by decide +kernel
theorem pm_lo_ok {ep : Int} {vs : List RowD} (h : PmapOkP ep vs) {j : Nat} (hj : j < vs.length) : okB keyB 6 (loOf vs j) = true := by
  rw [loOf_lt hj]; exact (pmapOk_rows h _ (List.getElem_mem hj)).1
theorem pm_hi_ok {ep : Int} {vs : List RowD} (h : PmapOkP ep vs) (j : Nat) : okB keyB 6 (hiOf vs j) = true := by
  by_cases hj : j + 1 < vs.length
  · rw [hiOf_lt hj]; exact (pmapOk_rows h _ (List.getElem_mem hj)).1
  · rw [hiOf_ge hj]; exact okB_nil
theorem pm_span_ok {ep : Int} {vs : List RowD} (h : PmapOkP ep vs) {j : Nat} (hj : j < vs.length) : spanOkB (loOf vs j) (hiOf vs j) = true := by
  unfold spanOkB
  rw [pm_lo_ok h hj, pm_hi_ok h j]
  by_cases h1 : j + 1 < vs.length
  · rw [hiOf_lt h1, loOf_lt hj, (less_iff _ _).2 (pmap_next h h1)]; simp
  · rw [hiOf_ge h1, nil_toList]; rfl
theorem pm_hi_ne {ep : Int} {vs : List RowD} (h : PmapOkP ep vs) {j : Nat} (hj : j + 1 < vs.length) : (hiOf vs j).toList.isEmpty = false := by
  rw [hiOf_lt hj]
  have h1 := pmap_next h hj
  cases he : vs[j + 1].f0.toList with
  | nil => rw [he] at h1; exact absurd h1 (List.not_lt_nil _)
  | cons a t => rfl
theorem pm_join {ep : Int} {vs : List RowD} (h : PmapOkP ep vs) {j : Nat} (hj : j + 1 < vs.length) : joinOkB (loOf vs j) (hiOf vs j) (loOf vs (j + 1)) (hiOf vs (j + 1)) = true := by
  unfold joinOkB
  rw [pm_span_ok h (by omega), pm_span_ok h hj, pm_hi_ne h hj, hiOf_lt hj, loOf_lt hj]; simp
theorem pm_first {ep : Int} {vs : List RowD} (h : PmapOkP ep vs) : (loOf vs 0).toList = [] := by
  rw [loOf_lt h.pos]; exact pmap_first h h.pos
theorem pm_has {ep : Int} {vs : List RowD} (h : PmapOkP ep vs) {key : ByteArray} {k i : Nat} (hF : FindAt vs key k) (hi : i < vs.length) : hasB (loOf vs i) (hiOf vs i) key = decide (i = k) := by
  have hk := hF.1.1
  have lo : ∀ n, n < vs.length → n ≤ k → Op.bytesLess key.toList (loOf vs n).toList = false := fun n hn hnk => by
    rcases Nat.eq_zero_or_pos n with rfl | hp
    · rw [pm_first h]; cases key.toList <;> rfl
    · have := hF.1.2 n hp hnk; rw [leB_not] at this; simpa using this
  rcases Nat.lt_trichotomy i k with hlt | rfl | hgt
  · rw [decide_eq_false (by omega)]
    unfold hasB
    have e := pm_hi_ne h (j := i) (by omega)
    have e2 := lo (i + 1) (by omega) (by omega)
    rw [loOf_lt (by omega)] at e2
    rw [e, hiOf_lt (by omega), e2]; simp
  · rw [decide_eq_true rfl]
    unfold hasB
    rw [lo i hk (Nat.le_refl _)]
    by_cases h1 : i + 1 < vs.length
    · have := hF.2 h1
      rw [loOf_lt h1, leB_not] at this
      rw [hiOf_lt h1]; simp at this; simp [this]
    · rw [hiOf_ge h1, nil_toList]; rfl
  · rw [decide_eq_false (by omega)]
    have h1 : k + 1 < vs.length := by omega
    have h2 := hF.2 h1
    rw [loOf_lt h1, leB_no] at h2
    have h3 : key.toList < vs[i].f0.toList := by
      by_cases e : i = k + 1
      · subst e; exact h2
      · exact List.lt_trans h2 (pmap_mono h (i := k + 1) (j := i) h1 hi (by omega))
    unfold hasB
    rw [loOf_lt hi, (less_iff _ _).2 h3]; rfl
theorem pm_spanHas {ep : Int} {vs : List RowD} (h : PmapOkP ep vs) {key : ByteArray} {k i : Nat} (hK : keyOkB key = true) (hF : FindAt vs key k) (hi : i < vs.length) : spanHasB (loOf vs i) (hiOf vs i) key = decide (i = k) := by
  unfold spanHasB; rw [pm_span_ok h hi, hK, pm_has h hF hi]; rfl
end Go.Proofs.Ytodpodgdhiadnaa
