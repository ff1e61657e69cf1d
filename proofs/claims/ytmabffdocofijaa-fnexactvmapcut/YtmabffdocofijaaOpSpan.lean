/- An argument that is a span: what it holds, as the walks read it. -/
import Derived.Test.YtmabffdocofijaaOpenMap
namespace Go.Proofs.Ytmabffdocofijaa
open Go.ChangeShapes Go.WideShapes Go.ChangeAt Go.RowKit Go.Joins Go.Deep

theorem cellsLSpan : Try.prog.cellsOf 26 = 2 := by kernel_rfl

set_option maxRecDepth 100000 in
theorem open_span {H : Type} {enc : TypeId × Value → H} {W : World} {base : Nat} {v : Value} {d : DataW H} {p : List MemPlace}
    (hv : Value.okWide Try.prog W .any base 26 v) (h : DataW.Trod enc Try.prog W 0 (fun _ => true) true 26 v d p) :
    ∃ lo hi : ByteArray, v = .agg #[.string lo, .string hi] ∧ lo.size ≤ maxLen ∧ hi.size ≤ maxLen := by
  obtain ⟨cs, rfl, hsz⟩ := okWide_struct Try.underlying26 hv
  obtain ⟨l⟩ := cs
  obtain ⟨fuel, hf⟩ := h
  obtain ⟨v0, v1, y0, y1, n, e, h0, h1⟩ := struct_cells2 Try.underlying26 (by kernel_rfl) cellsLSpan hf
  obtain ⟨b0, e0, rfl, w0⟩ := DataW.trod_string Try.underlying9 h0
  obtain ⟨b1, e1, rfl, w1⟩ := DataW.trod_string Try.underlying9 h1
  simp at e0 e1
  subst e0 e1
  have e' : l = [.string b0, .string b1] := by simpa [Value.cells] using e
  subst e'
  exact ⟨b0, b1, rfl, w0, w1⟩
end Go.Proofs.Ytmabffdocofijaa
