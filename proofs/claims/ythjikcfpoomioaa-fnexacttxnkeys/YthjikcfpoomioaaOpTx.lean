/- An argument that is a transaction: what it holds, as the walks read it. -/
import Derived.Test.YthjikcfpoomioaaOpWant
import Derived.Test.YthjikcfpoomioaaOpWrite
namespace Go.Proofs.Ythjikcfpoomioaa
open Go.ChangeShapes Go.WideShapes Go.ChangeAt Go.RowKit Go.Joins Go.Deep

theorem cellsLTxn : Try.prog.cellsOf 86 = 3 := by kernel_rfl

set_option maxRecDepth 100000 in
theorem open_txn {H : Type} {enc : TypeId × Value → H} {W : World} {base : Nat} {v : Value} {d : DataW H} {p : List MemPlace}
    (hv : Value.okWide Try.prog W .any base 86 v) (h : DataW.Trod enc Try.prog W 0 (fun _ => true) true 86 v d p) :
    ∃ (id : Int) (a1 a2 : Option Addr) (ws : List WantD) (us : List WriteD) (k1 k2 : Nat), v = .agg #[.int .i64 id, .slice a1 ws.length k1, .slice a2 us.length k2] ∧ WantsIn W a1 ws ∧ WritesIn W a2 us ∧ ws.length ≤ maxLen ∧ us.length ≤ maxLen ∧ (∀ v ∈ ws, v.fits) ∧ ∀ v ∈ us, v.fits := by
  obtain ⟨cs, rfl, hsz⟩ := okWide_struct Try.underlying86 hv
  obtain ⟨l⟩ := cs
  obtain ⟨fuel, hf⟩ := h
  obtain ⟨v0, v1, v2, y0, y1, y2, n, e, h0, h1, h2⟩ := struct_cells3 Try.underlying86 (by kernel_rfl) cellsLTxn hf
  obtain ⟨z, e0, rfl, wz⟩ := DataW.trod_int Try.underlying3 h0
  obtain ⟨a1, ws, k1, e1, hx1, hl1, ht1⟩ := openWants h1
  obtain ⟨a2, us, k2, e2, hx2, hl2, ht2⟩ := openWrites h2
  simp at e0 e1 e2
  subst e0 e1 e2
  have e' : l = [.int .i64 z, .slice a1 ws.length k1, .slice a2 us.length k2] := by simpa [Value.cells] using e
  subst e'
  exact ⟨z, a1, a2, ws, us, k1, k2, rfl, hx1, hx2, hl1, hl2, ht1, ht2⟩
end Go.Proofs.Ythjikcfpoomioaa
