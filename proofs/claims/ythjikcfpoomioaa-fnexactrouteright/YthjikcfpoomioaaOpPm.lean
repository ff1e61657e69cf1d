/- An argument that is a map of parts: what it holds, as the walks read it. -/
import Derived.Test.YthjikcfpoomioaaOpRow
namespace Go.Proofs.Ythjikcfpoomioaa
open Go.ChangeShapes Go.WideShapes Go.ChangeAt Go.RowKit Go.Joins Go.Deep

theorem cellsLPmap : Try.prog.cellsOf 55 = 2 := by kernel_rfl

set_option maxRecDepth 100000 in
theorem open_pmap {H : Type} {enc : TypeId × Value → H} {W : World} {base : Nat} {v : Value} {d : DataW H} {p : List MemPlace}
    (hv : Value.okWide Try.prog W .any base 55 v) (h : DataW.Trod enc Try.prog W 0 (fun _ => true) true 55 v d p) :
    ∃ (ep : Int) (a : Option Addr) (vs : List RowD) (cap : Nat), v = .agg #[.int .i64 ep, .slice a vs.length cap] ∧ RowsIn W a vs ∧ vs.length ≤ maxLen ∧ ∀ v ∈ vs, v.fits := by
  obtain ⟨cs, rfl, hsz⟩ := okWide_struct Try.underlying55 hv
  obtain ⟨l⟩ := cs
  obtain ⟨fuel, hf⟩ := h
  obtain ⟨v0, v1, y0, y1, n, e, h0, h1⟩ := struct_cells2 Try.underlying55 (by kernel_rfl) cellsLPmap hf
  obtain ⟨z, e0, rfl, wz⟩ := DataW.trod_int Try.underlying3 h0
  obtain ⟨a, vs, cap, e1, hx, hl, ht⟩ := openRows h1
  simp at e0 e1
  subst e0 e1
  have e' : l = [.int .i64 z, .slice a vs.length cap] := by simpa [Value.cells] using e
  subst e'
  exact ⟨z, a, vs, cap, rfl, hx, hl, ht⟩
end Go.Proofs.Ythjikcfpoomioaa
