/- An argument that holds a slice of Change: what it holds, as the walks read it. -/
import Derived.Test.YthjikcfpoomioaaFlChange
namespace Go.Proofs.Ythjikcfpoomioaa
open Go.ChangeShapes Go.WideShapes Go.ChangeAt Go.RowKit Go.Joins Go.Deep

theorem struct_cells5 {H : Type} {enc : TypeId × Value → H} {P : Program} {w : World} {base : Nat} {spare : Nat → Bool} {held : Bool} {fuel : Nat} {t : TypeId} {f0 f1 f2 f3 f4 : Field} {cs : List Value} {x : DataW H × List MemPlace} (hs : P.underlying t = some (.struct #[f0, f1, f2, f3, f4])) (hone : oneCellFields P #[f0, f1, f2, f3, f4] = true) (hC : P.cellsOf t = 5) (h : DataW.trod enc P w base spare held fuel t cs = some x) :
    ∃ v0 v1 v2 v3 v4 y0 y1 y2 y3 y4 n, cs = [v0, v1, v2, v3, v4] ∧ DataW.trod enc P w base spare held n f0.type [v0] = some y0 ∧ DataW.trod enc P w base spare held n f1.type [v1] = some y1 ∧ DataW.trod enc P w base spare held n f2.type [v2] = some y2 ∧ DataW.trod enc P w base spare held n f3.type [v3] = some y3 ∧ DataW.trod enc P w base spare held n f4.type [v4] = some y4 := by
  obtain ⟨xs, n, _, rfl, hl, hlen, hf⟩ := DataW.trod_struct hs h
  obtain ⟨o0, k0⟩ := hone_of hone 0 f0 rfl
  obtain ⟨o1, k1⟩ := hone_of hone 1 f1 rfl
  obtain ⟨o2, k2⟩ := hone_of hone 2 f2 rfl
  obtain ⟨o3, k3⟩ := hone_of hone 3 f3 rfl
  obtain ⟨o4, k4⟩ := hone_of hone 4 f4 rfl
  rw [hC] at hl
  match xs, hlen with
  | [y0, y1, y2, y3, y4], _ =>
    have g0 := hf 0 f0 rfl
    have g1 := hf 1 f1 rfl
    have g2 := hf 2 f2 rfl
    have g3 := hf 3 f3 rfl
    have g4 := hf 4 f4 rfl
    match cs, hl with
    | [v0, v1, v2, v3, v4], _ => exact ⟨v0, v1, v2, v3, v4, y0, y1, y2, y3, y4, n, rfl, by simpa [o0, k0] using g0, by simpa [o1, k1] using g1, by simpa [o2, k2] using g2, by simpa [o3, k3] using g3, by simpa [o4, k4] using g4⟩

theorem cellsLChange : Try.prog.cellsOf 114 = 5 := by kernel_rfl

set_option maxRecDepth 100000 in
theorem openChange {H : Type} {enc : TypeId × Value → H} {W : World} {fuel : Nat} {cs : List Value} {x : DataW H × List MemPlace} (h : DataW.trod enc Try.prog W 0 (fun _ => true) true fuel 114 cs = some x) :
    ∃ v : ChangeD, cs = [.string v.f0, .bool v.f1, .string v.f2, .bool v.f3, .string v.f4] ∧ v.fits := by
  obtain ⟨v0, v1, v2, v3, v4, y0, y1, y2, y3, y4, n, rfl, h0, h1, h2, h3, h4⟩ := struct_cells5 Try.underlying114 (by kernel_rfl) cellsLChange h
  obtain ⟨b0, e0, rfl, w0⟩ := DataW.trod_string Try.underlying9 h0
  obtain ⟨b1, e1, rfl⟩ := DataW.trod_bool Try.underlying4 h1
  obtain ⟨b2, e2, rfl, w2⟩ := DataW.trod_string Try.underlying9 h2
  obtain ⟨b3, e3, rfl⟩ := DataW.trod_bool Try.underlying4 h3
  obtain ⟨b4, e4, rfl, w4⟩ := DataW.trod_string Try.underlying9 h4
  simp at e0 e1 e2 e3 e4
  subst e0 e1 e2 e3 e4
  exact ⟨⟨b0, b1, b2, b3, b4⟩, rfl, w0, w2, w4⟩

set_option maxRecDepth 100000 in
theorem openChanges {H : Type} {enc : TypeId × Value → H} {W : World} {fuel : Nat} {cs : List Value} {x : DataW H × List MemPlace} (h : DataW.trod enc Try.prog W 0 (fun _ => true) true fuel 29 cs = some x) :
    ∃ (a : Option Addr) (vs : List ChangeD) (cap : Nat), cs = [.slice a vs.length cap] ∧ ChangesIn W a vs ∧ vs.length ≤ maxLen ∧ ∀ v ∈ vs, v.fits := by
  rcases open_slice Try.underlying29 h with ⟨rfl, _⟩ | ⟨a, len, cap, m, n, D, Pl, rfl, _, hl, hm, hmm, _, hi⟩
  · exact ⟨none, [], 0, rfl, .inl rfl, by simp, by simp⟩
  · simp at hmm
    subst hmm
    have hv : ∀ i : Fin len, ∃ v : ChangeD, v.fits ∧ W.cell? (a.add (i * 5)) = some (.string v.f0) ∧ W.cell? (a.add (i * 5 + 1)) = some (.bool v.f1) ∧ W.cell? (a.add (i * 5 + 2)) = some (.string v.f2) ∧ W.cell? (a.add (i * 5 + 3)) = some (.bool v.f3) ∧ W.cell? (a.add (i * 5 + 4)) = some (.string v.f4) := by
      intro i
      obtain ⟨cs', hc, ht⟩ := hi i.1 (by omega)
      rw [cellsLChange] at hc
      obtain ⟨v, rfl, hx⟩ := openChange ht
      obtain ⟨_, hat⟩ := at_cells hc
      exact ⟨v, hx, by simpa using hat 0 (by simp), by simpa using hat 1 (by simp), by simpa using hat 2 (by simp), by simpa using hat 3 (by simp), by simpa using hat 4 (by simp)⟩
    obtain ⟨f, hf⟩ := Classical.axiomOfChoice hv
    have hvl : (List.ofFn f).length = len := by simp
    refine ⟨some a, List.ofFn f, _, by rw [hvl], ?_, by omega, fun v hv' => ?_⟩
    · by_cases h0 : len = 0
      · exact .inl (List.eq_nil_of_length_eq_zero (by omega))
      · have hp := (hf ⟨0, by omega⟩).2.1
        obtain ⟨b, off, rfl, hb⟩ := plain_at (by simpa using hp)
        refine .inr ⟨b, off, rfl, hb, fun i hi' => ?_⟩
        have hi2 : i < len := by omega
        have := hf ⟨i, hi2⟩
        simp only [add_plain, ← Nat.add_assoc] at this
        simp only [List.getElem_ofFn]
        exact this.2
    · obtain ⟨i, hi', rfl⟩ := List.getElem_of_mem hv'
      have hi2 : i < len := by omega
      simp only [List.getElem_ofFn]
      exact (hf ⟨i, hi2⟩).1

set_option maxRecDepth 100000 in
theorem open_changes {H : Type} {enc : TypeId × Value → H} {W : World} {base : Nat} {v : Value} {d : DataW H} {p : List MemPlace}
    (hv : Value.okWide Try.prog W .any base 29 v) (h : DataW.Trod enc Try.prog W 0 (fun _ => true) true 29 v d p) :
    ∃ (a : Option Addr) (vs : List ChangeD) (cap : Nat), v = .slice a vs.length cap ∧ ChangesIn W a vs ∧ vs.length ≤ maxLen ∧ ∀ v ∈ vs, v.fits := by
  obtain ⟨a0, l0, c0, rfl⟩ := okWide_slice Try.underlying29 hv
  obtain ⟨fuel, hf⟩ := h
  obtain ⟨a, vs, cap, e, hx, hl, ht⟩ := openChanges hf
  exact ⟨a, vs, cap, by simpa [Value.cells] using e, hx, hl, ht⟩
end Go.Proofs.Ythjikcfpoomioaa
