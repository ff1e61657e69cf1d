/- An argument that holds a slice of Known: what it holds, as the walks read it. -/
import Derived.Test.YthjikcfpoomioaaFlKnown
namespace Go.Proofs.Ythjikcfpoomioaa
open Go.ChangeShapes Go.WideShapes Go.ChangeAt Go.RowKit Go.Joins Go.Deep

theorem cellsLSpanK : Try.prog.cellsOf 68 = 2 := by kernel_rfl
theorem cellsLInt : Try.prog.cellsOf 3 = 1 := by kernel_rfl
theorem cellsLKnown : Try.prog.cellsOf 70 = 4 := by kernel_rfl

set_option maxRecDepth 100000 in
theorem openKnown {H : Type} {enc : TypeId × Value → H} {W : World} {fuel : Nat} {cs : List Value} {x : DataW H × List MemPlace} (h : DataW.trod enc Try.prog W 0 (fun _ => true) true fuel 70 cs = some x) :
    ∃ v : KnownD, cs = [.string v.f0, .string v.f1, .int .i64 v.f2, .int .i64 v.f3] ∧ v.fits := by
  obtain ⟨y0, y1, y2, n, _, hl, h0, h1, h2⟩ := trod_struct3 Try.underlying70 h
  rw [cellsLKnown] at hl
  simp only [cellsLInt, cellsLSpanK] at h0 h1 h2 hl
  match cs, hl with
  | [v0, v1, v2, v3], _ =>
    simp at h0 h1 h2
    obtain ⟨u0, u1, x0, x1, m, hcs, k0, k1⟩ := struct_cells2 Try.underlying68 (by kernel_rfl) cellsLSpanK h0
    simp at hcs
    obtain ⟨rfl, rfl⟩ := hcs
    obtain ⟨b0, e0, _, w0⟩ := DataW.trod_string Try.underlying9 k0
    obtain ⟨b1, e1, _, w1⟩ := DataW.trod_string Try.underlying9 k1
    obtain ⟨b2, e2, _, _⟩ := DataW.trod_int Try.underlying3 h1
    obtain ⟨b3, e3, _, _⟩ := DataW.trod_int Try.underlying3 h2
    simp at e0 e1 e2 e3
    subst e0 e1 e2 e3
    exact ⟨⟨b0, b1, b2, b3⟩, rfl, w0, w1⟩

set_option maxRecDepth 100000 in
theorem openKnowns {H : Type} {enc : TypeId × Value → H} {W : World} {fuel : Nat} {cs : List Value} {x : DataW H × List MemPlace} (h : DataW.trod enc Try.prog W 0 (fun _ => true) true fuel 38 cs = some x) :
    ∃ (a : Option Addr) (vs : List KnownD) (cap : Nat), cs = [.slice a vs.length cap] ∧ KnownsIn W a vs ∧ vs.length ≤ maxLen ∧ ∀ v ∈ vs, v.fits := by
  rcases open_slice Try.underlying38 h with ⟨rfl, _⟩ | ⟨a, len, cap, m, n, D, Pl, rfl, _, hl, hm, hmm, _, hi⟩
  · exact ⟨none, [], 0, rfl, .inl rfl, by simp, by simp⟩
  · simp at hmm
    subst hmm
    have hv : ∀ i : Fin len, ∃ v : KnownD, v.fits ∧ W.cell? (a.add (i * 4)) = some (.string v.f0) ∧ W.cell? (a.add (i * 4 + 1)) = some (.string v.f1) ∧ W.cell? (a.add (i * 4 + 2)) = some (.int .i64 v.f2) ∧ W.cell? (a.add (i * 4 + 3)) = some (.int .i64 v.f3) := by
      intro i
      obtain ⟨cs', hc, ht⟩ := hi i.1 (by omega)
      rw [cellsLKnown] at hc
      obtain ⟨v, rfl, hx⟩ := openKnown ht
      obtain ⟨_, hat⟩ := at_cells hc
      exact ⟨v, hx, by simpa using hat 0 (by simp), by simpa using hat 1 (by simp), by simpa using hat 2 (by simp), by simpa using hat 3 (by simp)⟩
    obtain ⟨f, hf⟩ := Classical.axiomOfChoice hv
    have hvl : (List.ofFn f).length = len := by simp
    refine ⟨some a, List.ofFn f, _, by rw [hvl], ?_, by omega, fun v hv' => ?_⟩
    · by_cases h0 : len = 0
      · exact .inl (List.eq_nil_of_length_eq_zero (by omega))
      · have hp := (hf ⟨0, by omega⟩).2.1
        obtain ⟨b, off, rfl, hb⟩ := plain_at (by simpa using hp)
        refine .inr ⟨b, off, rfl, hb, fun i hi' => ?_⟩
        have hi2 : i < len := by omega
        have := hf ⟨i, hi2⟩
        simp only [add_plain, ← Nat.add_assoc] at this
        simp only [List.getElem_ofFn]
        exact this.2
    · obtain ⟨i, hi', rfl⟩ := List.getElem_of_mem hv'
      have hi2 : i < len := by omega
      simp only [List.getElem_ofFn]
      exact (hf ⟨i, hi2⟩).1

set_option maxRecDepth 100000 in
theorem open_knowns {H : Type} {enc : TypeId × Value → H} {W : World} {base : Nat} {v : Value} {d : DataW H} {p : List MemPlace}
    (hv : Value.okWide Try.prog W .any base 38 v) (h : DataW.Trod enc Try.prog W 0 (fun _ => true) true 38 v d p) :
    ∃ (a : Option Addr) (vs : List KnownD) (cap : Nat), v = .slice a vs.length cap ∧ KnownsIn W a vs ∧ vs.length ≤ maxLen ∧ ∀ v ∈ vs, v.fits := by
  obtain ⟨a0, l0, c0, rfl⟩ := okWide_slice Try.underlying38 hv
  obtain ⟨fuel, hf⟩ := h
  obtain ⟨a, vs, cap, e, hx, hl, ht⟩ := openKnowns hf
  exact ⟨a, vs, cap, by simpa [Value.cells] using e, hx, hl, ht⟩
end Go.Proofs.Ythjikcfpoomioaa
