/- An argument that is a note: what it holds, as the walks read it. -/
import Derived.Test.YtncipibjlpfkhaaOpTx
namespace Go.Proofs.Ytncipibjlpfkhaa
open Go.ChangeShapes Go.WideShapes Go.ChangeAt Go.RowKit Go.Joins Go.Deep

theorem cellsLNote : Try.prog.cellsOf 47 = 6 := by kernel_rfl
theorem cellsInt1 : Try.prog.cellsOf 3 = 1 := by kernel_rfl

theorem trod_txn {H : Type} {enc : TypeId × Value → H} {W : World} {fuel : Nat} {cs : List Value} {x : DataW H × List MemPlace} (h : DataW.trod enc Try.prog W 0 (fun _ => true) true fuel 45 cs = some x) :
    ∃ (id : Int) (a1 a2 : Option Addr) (ws : List WantD) (us : List WriteD) (k1 k2 : Nat), cs = [.int .i64 id, .slice a1 ws.length k1, .slice a2 us.length k2] ∧ WantsIn W a1 ws ∧ WritesIn W a2 us ∧ ws.length ≤ maxLen ∧ us.length ≤ maxLen ∧ (∀ v ∈ ws, v.fits) ∧ ∀ v ∈ us, v.fits := by
  obtain ⟨v0, v1, v2, y0, y1, y2, n, rfl, h0, h1, h2⟩ := struct_cells3 Try.underlying45 (by kernel_rfl) cellsLTxn h
  obtain ⟨z, e0, rfl, wz⟩ := DataW.trod_int Try.underlying3 h0
  obtain ⟨a1, ws, k1, e1, hx1, hl1, ht1⟩ := openWants h1
  obtain ⟨a2, us, k2, e2, hx2, hl2, ht2⟩ := openWrites h2
  simp at e0 e1 e2
  subst e0 e1 e2
  exact ⟨z, a1, a2, ws, us, k1, k2, rfl, hx1, hx2, hl1, hl2, ht1, ht2⟩

set_option maxRecDepth 100000 in
theorem open_note {H : Type} {enc : TypeId × Value → H} {W : World} {base : Nat} {v : Value} {d : DataW H} {p : List MemPlace}
    (hv : Value.okWide Try.prog W .any base 47 v) (h : DataW.Trod enc Try.prog W 0 (fun _ => true) true 47 v d p) :
    ∃ (kd id at_ ti : Int) (a1 a2 : Option Addr) (ws : List WantD) (us : List WriteD) (k1 k2 : Nat), v = .agg #[.int .i64 kd, .int .i64 id, .int .i64 at_, .int .i64 ti, .slice a1 ws.length k1, .slice a2 us.length k2] ∧ WantsIn W a1 ws ∧ WritesIn W a2 us ∧ ws.length ≤ maxLen ∧ us.length ≤ maxLen ∧ (∀ v ∈ ws, v.fits) ∧ ∀ v ∈ us, v.fits := by
  obtain ⟨cs, rfl, hsz⟩ := okWide_struct Try.underlying47 hv
  obtain ⟨l⟩ := cs
  obtain ⟨fuel, hf⟩ := h
  obtain ⟨y0, y1, y2, y3, n, _, hl, h0, h1, h2, h3⟩ := trod_struct4 Try.underlying47 hf
  rw [cellsLNote] at hl
  simp only [cellsInt1, cellsLTxn, Value.cells] at h0 h1 h2 h3 hl
  match l, hl with
  | [v0, v1, v2, v3, v4, v5], _ =>
    simp at h0 h1 h2 h3
    obtain ⟨z0, e0, _, _⟩ := DataW.trod_int Try.underlying3 h0
    obtain ⟨z1, e1, _, _⟩ := DataW.trod_int Try.underlying3 h1
    obtain ⟨z2, e2, _, _⟩ := DataW.trod_int Try.underlying3 h2
    obtain ⟨ti, a1, a2, ws, us, k1, k2, e3, hx1, hx2, hl1, hl2, ht1, ht2⟩ := trod_txn h3
    simp at e0 e1 e2 e3
    obtain ⟨rfl, rfl, rfl⟩ := e3
    subst e0 e1 e2
    exact ⟨z0, z1, z2, ti, a1, a2, ws, us, k1, k2, rfl, hx1, hx2, hl1, hl2, ht1, ht2⟩
end Go.Proofs.Ytncipibjlpfkhaa
