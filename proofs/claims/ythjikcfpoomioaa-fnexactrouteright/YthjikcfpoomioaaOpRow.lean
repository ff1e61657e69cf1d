/- An argument that holds a slice of Row: what it holds, as the walks read it. -/
import Derived.Test.YthjikcfpoomioaaFlRow
namespace Go.Proofs.Ythjikcfpoomioaa
open Go.ChangeShapes Go.WideShapes Go.ChangeAt Go.RowKit Go.Joins Go.Deep

theorem cellsLRow : Try.prog.cellsOf 200 = 2 := by kernel_rfl

set_option maxRecDepth 100000 in
theorem openRow {H : Type} {enc : TypeId × Value → H} {W : World} {fuel : Nat} {cs : List Value} {x : DataW H × List MemPlace} (h : DataW.trod enc Try.prog W 0 (fun _ => true) true fuel 200 cs = some x) :
    ∃ v : RowD, cs = [.string v.f0, .int .i64 v.f1] ∧ v.fits := by
  obtain ⟨v0, v1, y0, y1, n, rfl, h0, h1⟩ := struct_cells2 Try.underlying200 (by kernel_rfl) cellsLRow h
  obtain ⟨b0, e0, rfl, w0⟩ := DataW.trod_string Try.underlying9 h0
  obtain ⟨b1, e1, rfl, w1⟩ := DataW.trod_int Try.underlying3 h1
  simp at e0 e1
  subst e0 e1
  exact ⟨⟨b0, b1⟩, rfl, w0⟩

set_option maxRecDepth 100000 in
theorem openRows {H : Type} {enc : TypeId × Value → H} {W : World} {fuel : Nat} {cs : List Value} {x : DataW H × List MemPlace} (h : DataW.trod enc Try.prog W 0 (fun _ => true) true fuel 53 cs = some x) :
    ∃ (a : Option Addr) (vs : List RowD) (cap : Nat), cs = [.slice a vs.length cap] ∧ RowsIn W a vs ∧ vs.length ≤ maxLen ∧ ∀ v ∈ vs, v.fits := by
  rcases open_slice Try.underlying53 h with ⟨rfl, _⟩ | ⟨a, len, cap, m, n, D, Pl, rfl, _, hl, hm, hmm, _, hi⟩
  · exact ⟨none, [], 0, rfl, .inl rfl, by simp, by simp⟩
  · simp at hmm
    subst hmm
    have hv : ∀ i : Fin len, ∃ v : RowD, v.fits ∧ W.cell? (a.add (i * 2)) = some (.string v.f0) ∧ W.cell? (a.add (i * 2 + 1)) = some (.int .i64 v.f1) := by
      intro i
      obtain ⟨cs', hc, ht⟩ := hi i.1 (by omega)
      rw [cellsLRow] at hc
      obtain ⟨v, rfl, hx⟩ := openRow ht
      obtain ⟨_, hat⟩ := at_cells hc
      exact ⟨v, hx, by simpa using hat 0 (by simp), by simpa using hat 1 (by simp)⟩
    obtain ⟨f, hf⟩ := Classical.axiomOfChoice hv
    have hvl : (List.ofFn f).length = len := by simp
    refine ⟨some a, List.ofFn f, _, by rw [hvl], ?_, by omega, fun v hv' => ?_⟩
    · by_cases h0 : len = 0
      · exact .inl (List.eq_nil_of_length_eq_zero (by omega))
      · have hp := (hf ⟨0, by omega⟩).2.1
        obtain ⟨b, off, rfl, hb⟩ := plain_at (by simpa using hp)
        refine .inr ⟨b, off, rfl, hb, fun i hi' => ?_⟩
        have hi2 : i < len := by omega
        have := hf ⟨i, hi2⟩
        simp only [add_plain, ← Nat.add_assoc] at this
        simp only [List.getElem_ofFn]
        exact this.2
    · obtain ⟨i, hi', rfl⟩ := List.getElem_of_mem hv'
      have hi2 : i < len := by omega
      simp only [List.getElem_ofFn]
      exact (hf ⟨i, hi2⟩).1
end Go.Proofs.Ythjikcfpoomioaa
