/- An argument that holds a slice of Pair: what it holds, as the walks read it. -/
import Derived.Test.YthjikcfpoomioaaFlPair
namespace Go.Proofs.Ythjikcfpoomioaa
open Go.ChangeShapes Go.WideShapes Go.ChangeAt Go.RowKit Go.Joins Go.Deep

theorem cellsLPair : Try.prog.cellsOf 108 = 2 := by kernel_rfl

set_option maxRecDepth 100000 in
theorem openPair {H : Type} {enc : TypeId × Value → H} {W : World} {fuel : Nat} {cs : List Value} {x : DataW H × List MemPlace} (h : DataW.trod enc Try.prog W 0 (fun _ => true) true fuel 108 cs = some x) :
    ∃ v : PairD, cs = [.string v.f0, .string v.f1] ∧ v.fits := by
  obtain ⟨v0, v1, y0, y1, n, rfl, h0, h1⟩ := struct_cells2 Try.underlying108 (by kernel_rfl) cellsLPair h
  obtain ⟨b0, e0, rfl, w0⟩ := DataW.trod_string Try.underlying9 h0
  obtain ⟨b1, e1, rfl, w1⟩ := DataW.trod_string Try.underlying9 h1
  simp at e0 e1
  subst e0 e1
  exact ⟨⟨b0, b1⟩, rfl, w0, w1⟩

set_option maxRecDepth 100000 in
theorem openPairs {H : Type} {enc : TypeId × Value → H} {W : World} {fuel : Nat} {cs : List Value} {x : DataW H × List MemPlace} (h : DataW.trod enc Try.prog W 0 (fun _ => true) true fuel 22 cs = some x) :
    ∃ (a : Option Addr) (vs : List PairD) (cap : Nat), cs = [.slice a vs.length cap] ∧ PairsIn W a vs ∧ vs.length ≤ maxLen ∧ ∀ v ∈ vs, v.fits := by
  rcases open_slice Try.underlying22 h with ⟨rfl, _⟩ | ⟨a, len, cap, m, n, D, Pl, rfl, _, hl, hm, hmm, _, hi⟩
  · exact ⟨none, [], 0, rfl, .inl rfl, by simp, by simp⟩
  · simp at hmm
    subst hmm
    have hv : ∀ i : Fin len, ∃ v : PairD, v.fits ∧ W.cell? (a.add (i * 2)) = some (.string v.f0) ∧ W.cell? (a.add (i * 2 + 1)) = some (.string v.f1) := by
      intro i
      obtain ⟨cs', hc, ht⟩ := hi i.1 (by omega)
      rw [cellsLPair] at hc
      obtain ⟨v, rfl, hx⟩ := openPair ht
      obtain ⟨_, hat⟩ := at_cells hc
      exact ⟨v, hx, by simpa using hat 0 (by simp), by simpa using hat 1 (by simp)⟩
    obtain ⟨f, hf⟩ := Classical.axiomOfChoice hv
    have hvl : (List.ofFn f).length = len := by simp
    refine ⟨some a, List.ofFn f, _, by rw [hvl], ?_, by omega, fun v hv' => ?_⟩
    · by_cases h0 : len = 0
      · exact .inl (List.eq_nil_of_length_eq_zero (by omega))
      · have hp := (hf ⟨0, by omega⟩).2.1
        obtain ⟨b, off, rfl, hb⟩ := plain_at (by simpa using hp)
        refine .inr ⟨b, off, rfl, hb, fun i hi' => ?_⟩
        have hi2 : i < len := by omega
        have := hf ⟨i, hi2⟩
        simp only [add_plain, ← Nat.add_assoc] at this
        simp only [List.getElem_ofFn]
        exact this.2
    · obtain ⟨i, hi', rfl⟩ := List.getElem_of_mem hv'
      have hi2 : i < len := by omega
      simp only [List.getElem_ofFn]
      exact (hf ⟨i, hi2⟩).1

set_option maxRecDepth 100000 in
theorem open_pairs {H : Type} {enc : TypeId × Value → H} {W : World} {base : Nat} {v : Value} {d : DataW H} {p : List MemPlace}
    (hv : Value.okWide Try.prog W .any base 22 v) (h : DataW.Trod enc Try.prog W 0 (fun _ => true) true 22 v d p) :
    ∃ (a : Option Addr) (vs : List PairD) (cap : Nat), v = .slice a vs.length cap ∧ PairsIn W a vs ∧ vs.length ≤ maxLen ∧ ∀ v ∈ vs, v.fits := by
  obtain ⟨a0, l0, c0, rfl⟩ := okWide_slice Try.underlying22 hv
  obtain ⟨fuel, hf⟩ := h
  obtain ⟨a, vs, cap, e, hx, hl, ht⟩ := openPairs hf
  exact ⟨a, vs, cap, by simpa [Value.cells] using e, hx, hl, ht⟩
end Go.Proofs.Ythjikcfpoomioaa
