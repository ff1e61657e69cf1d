/- Boxes that a region lays wherever it likes: what is kept of a world in such a region; a transaction that is new. -/
import Derived.Test.YtncipibjlpfkhaaTxCutS
import Derived.Deep.Cut
import Derived.Deep.RegionHeld3
namespace Go.Proofs.Ytncipibjlpfkhaa
open Go.RowKit

/-- Two boxes are there, and nothing old has turned. -/
def Kp (W : World) (n1 n2 : Nat) (u : World) : Prop := n1 < u.heap.size ∧ n2 < u.heap.size ∧ Below W.heap.size W u
theorem Kp.below {W u v : World} {n1 n2 : Nat} (h : Kp W n1 n2 u) (hb : Below u.heap.size u v) : Kp W n1 n2 v := ⟨Nat.lt_of_lt_of_le h.1 hb.size, Nat.lt_of_lt_of_le h.2.1 hb.size, h.2.2.trans (hb.mono h.2.2.size)⟩
theorem Kp.size {W u : World} {n1 n2 : Nat} (h : Kp W n1 n2 u) : W.heap.size ≤ u.heap.size := h.2.2.size
theorem Kp.from_ {w W u : World} {n1 n2 : Nat} (h : Kp W n1 n2 u) (hB : Below w.heap.size w W) : Below w.heap.size w u := hB.trans (h.2.2.mono hB.size)

/-- Block g of u is a transaction that is all zero and may be written. -/
def Zr3 (g : Nat) (u : World) : Prop := u.cell? ⟨g, 0, none⟩ = some (.int .i64 0) ∧ u.cell? ⟨g, 1, none⟩ = some (.slice none 0 0) ∧ u.cell? ⟨g, 2, none⟩ = some (.slice none 0 0) ∧ u.frozen? ⟨g, 0, none⟩ = false ∧ u.frozen? ⟨g, 1, none⟩ = false ∧ u.frozen? ⟨g, 2, none⟩ = false ∧ g < u.heap.size
theorem Zr3.below {g : Nat} {u w' : World} (h : Zr3 g u) (hw : Below u.heap.size u w') : Zr3 g w' := by
  obtain ⟨h1, h2, h3, h4, h5, h6, h7⟩ := h
  exact ⟨(hw.cell (p := ⟨g, 0, none⟩) h7).trans h1, (hw.cell (p := ⟨g, 1, none⟩) h7).trans h2, (hw.cell (p := ⟨g, 2, none⟩) h7).trans h3, (hw.frozen (p := ⟨g, 0, none⟩) h7).trans h4, (hw.frozen (p := ⟨g, 1, none⟩) h7).trans h5, (hw.frozen (p := ⟨g, 2, none⟩) h7).trans h6, Nat.lt_of_lt_of_le h7 hw.size⟩
theorem zr3_new (v : World) (t : TypeId) : Zr3 v.heap.size (v.alloc (.cells #[.int .i64 0, .slice none 0 0, .slice none 0 0] t)) := ⟨by simp, by simp, by simp, by simp, by simp, by simp, by simp⟩
theorem of_new3 {C : Prop} {t : TypeId} {v w' : World} (hw : Below (v.alloc (.cells #[.int .i64 0, .slice none 0 0, .slice none 0 0] t)).heap.size (v.alloc (.cells #[.int .i64 0, .slice none 0 0, .slice none 0 0] t)) w') (k : Zr3 v.heap.size w' → C) : C := k ((zr3_new v t).below hw)
theorem of_new3D {C : Prop} {t : TypeId} {v w' : World} (hw : Below (v.alloc (.cells #[.int .i64 0, .slice none 0 0, .slice none 0 0] t)).drew.heap.size (v.alloc (.cells #[.int .i64 0, .slice none 0 0, .slice none 0 0] t)).drew w') (k : Zr3 v.heap.size w' → C) : C := k ((zr3_new v t).below (((Below.refl _ _).drew).trans hw))
theorem of_carry3 {C : Prop} {g : Nat} {u w' : World} (hw : Below u.heap.size u w') (h : Zr3 g u) (k : Zr3 g w' → C) : C := k (h.below hw)

/-- A box with a transaction in it, all new since W. -/
def NewTx (W : World) (id : Int) (ws : List WantD) (us : List WriteD) (p : Value) (u : World) : Prop :=
  ∃ g lo hi a1 a2 c1 c2, p = .pointer (some ⟨g, 0, none⟩) ∧ Below W.heap.size W u ∧ W.heap.size ≤ g ∧ g < u.heap.size ∧ W.heap.size ≤ lo ∧ (g < lo ∨ hi ≤ g) ∧ u.cell? ⟨g, 0, none⟩ = some (.int .i64 id) ∧ u.cell? ⟨g, 1, none⟩ = some (.slice a1 ws.length c1) ∧ u.cell? ⟨g, 2, none⟩ = some (.slice a2 us.length c2) ∧ TxAt u lo hi a1 a2 ws us
theorem newTx_A {W u : World} {id : Int} {ws : List WantD} {us : List WriteD} {a1 a2 : Option Addr} {c1 c2 lo : Nat} {t : TypeId} {n1 n2 : Nat} (hB : Kp W n1 n2 u) (h : TxAt u lo u.heap.size a1 a2 ws us) (hlo : W.heap.size ≤ lo) :
    NewTx W id ws us (.pointer (some ⟨u.heap.size, 0, none⟩)) (u.alloc (.cells #[.int .i64 id, .slice a1 ws.length c1, .slice a2 us.length c2] t)) :=
  ⟨u.heap.size, lo, u.heap.size, a1, a2, c1, c2, rfl, hB.2.2.alloc hB.2.2.size _, hB.2.2.size, by simp, hlo, .inr (Nat.le_refl _), by simp, by simp, by simp, h.below ((Below.refl _ _).alloc (Nat.le_refl _) _)⟩
theorem newTx_B {W u : World} {id : Int} {ws : List WantD} {us : List WriteD} {a1 a2 : Option Addr} {c1 c2 lo g : Nat} {n1 n2 : Nat} (hB : Kp W n1 n2 u) (h : TxAt u lo u.heap.size a1 a2 ws us) (z : Zr3 g u) (hg : W.heap.size ≤ g) (hs : g < lo) :
    NewTx W id ws us (.pointer (some ⟨g, 0, none⟩)) (((u.setCell ⟨g, 0, none⟩ (.int .i64 id)).setCell ⟨g, 1, none⟩ (.slice a1 ws.length c1)).setCell ⟨g, 2, none⟩ (.slice a2 us.length c2)) := by
  obtain ⟨h1, h2, h3, _, _, _, h7⟩ := z
  refine ⟨g, lo, u.heap.size, a1, a2, c1, c2, rfl, ((hB.2.2.setCell (p := ⟨g, 0, none⟩) hg _).setCell (p := ⟨g, 1, none⟩) hg _).setCell (p := ⟨g, 2, none⟩) hg _, hg, by simpa using h7, by omega, .inl hs, by simp [go_sem, h1, h7], by simp [go_sem, h2, h7], by simp [go_sem, h3, h7], ?_⟩
  have := ((h.setT (r := g) (o := 0) (x := .int .i64 id) hs).setT (r := g) (o := 1) (x := .slice a1 ws.length c1) hs).setT (r := g) (o := 2) (x := .slice a2 us.length c2) hs
  exact this

theorem keep32 {n1 n2 : Nat} {x0 x1 x2 y0 y1 : Value} {W u v : World} (hb : Below u.heap.size u v) (h : u.cell? ⟨n1, 0, none⟩ = some x0 ∧ u.cell? ⟨n1, 1, none⟩ = some x1 ∧ u.cell? ⟨n1, 2, none⟩ = some x2 ∧ u.cell? ⟨n2, 0, none⟩ = some y0 ∧ u.cell? ⟨n2, 1, none⟩ = some y1 ∧ Kp W n1 n2 u) : v.cell? ⟨n1, 0, none⟩ = some x0 ∧ v.cell? ⟨n1, 1, none⟩ = some x1 ∧ v.cell? ⟨n1, 2, none⟩ = some x2 ∧ v.cell? ⟨n2, 0, none⟩ = some y0 ∧ v.cell? ⟨n2, 1, none⟩ = some y1 ∧ Kp W n1 n2 v := by
  obtain ⟨h0, h1, h2, h3, h4, hK⟩ := h
  exact ⟨(hb.cell (p := ⟨n1, 0, none⟩) hK.1).trans h0, (hb.cell (p := ⟨n1, 1, none⟩) hK.1).trans h1, (hb.cell (p := ⟨n1, 2, none⟩) hK.1).trans h2, (hb.cell (p := ⟨n2, 0, none⟩) hK.2.1).trans h3, (hb.cell (p := ⟨n2, 1, none⟩) hK.2.1).trans h4, hK.below hb⟩
theorem keep32_set {n1 n2 g : Nat} {x0 x1 x2 y0 y1 a b c : Value} {W u : World} (h : u.cell? ⟨n1, 0, none⟩ = some x0 ∧ u.cell? ⟨n1, 1, none⟩ = some x1 ∧ u.cell? ⟨n1, 2, none⟩ = some x2 ∧ u.cell? ⟨n2, 0, none⟩ = some y0 ∧ u.cell? ⟨n2, 1, none⟩ = some y1 ∧ Kp W n1 n2 u) (hn1 : n1 < W.heap.size) (hn2 : n2 < W.heap.size) (hg : W.heap.size ≤ g) : (((u.setCell ⟨g, 0, none⟩ a).setCell ⟨g, 1, none⟩ b).setCell ⟨g, 2, none⟩ c).cell? ⟨n1, 0, none⟩ = some x0 ∧ (((u.setCell ⟨g, 0, none⟩ a).setCell ⟨g, 1, none⟩ b).setCell ⟨g, 2, none⟩ c).cell? ⟨n1, 1, none⟩ = some x1 ∧ (((u.setCell ⟨g, 0, none⟩ a).setCell ⟨g, 1, none⟩ b).setCell ⟨g, 2, none⟩ c).cell? ⟨n1, 2, none⟩ = some x2 ∧ (((u.setCell ⟨g, 0, none⟩ a).setCell ⟨g, 1, none⟩ b).setCell ⟨g, 2, none⟩ c).cell? ⟨n2, 0, none⟩ = some y0 ∧ (((u.setCell ⟨g, 0, none⟩ a).setCell ⟨g, 1, none⟩ b).setCell ⟨g, 2, none⟩ c).cell? ⟨n2, 1, none⟩ = some y1 ∧ Kp W n1 n2 (((u.setCell ⟨g, 0, none⟩ a).setCell ⟨g, 1, none⟩ b).setCell ⟨g, 2, none⟩ c) := by
  have hb : Below W.heap.size u (((u.setCell ⟨g, 0, none⟩ a).setCell ⟨g, 1, none⟩ b).setCell ⟨g, 2, none⟩ c) := (((Below.refl _ _).setCell (p := ⟨g, 0, none⟩) hg _).setCell (p := ⟨g, 1, none⟩) hg _).setCell (p := ⟨g, 2, none⟩) hg _
  obtain ⟨h0, h1, h2, h3, h4, hK⟩ := h
  have hs := hb.size
  exact ⟨(hb.cell (p := ⟨n1, 0, none⟩) hn1).trans h0, (hb.cell (p := ⟨n1, 1, none⟩) hn1).trans h1, (hb.cell (p := ⟨n1, 2, none⟩) hn1).trans h2, (hb.cell (p := ⟨n2, 0, none⟩) hn2).trans h3, (hb.cell (p := ⟨n2, 1, none⟩) hn2).trans h4, ⟨Nat.lt_of_lt_of_le hK.1 hs, Nat.lt_of_lt_of_le hK.2.1 hs, hK.2.2.trans hb⟩⟩
theorem keep32_kp {n1 n2 : Nat} {x0 x1 x2 y0 y1 : Value} {W u : World} (h : u.cell? ⟨n1, 0, none⟩ = some x0 ∧ u.cell? ⟨n1, 1, none⟩ = some x1 ∧ u.cell? ⟨n1, 2, none⟩ = some x2 ∧ u.cell? ⟨n2, 0, none⟩ = some y0 ∧ u.cell? ⟨n2, 1, none⟩ = some y1 ∧ Kp W n1 n2 u) : Kp W n1 n2 u := h.2.2.2.2.2

theorem keep33 {n1 n2 : Nat} {x0 x1 x2 y0 y1 y2 : Value} {W u v : World} (hb : Below u.heap.size u v) (h : u.cell? ⟨n1, 0, none⟩ = some x0 ∧ u.cell? ⟨n1, 1, none⟩ = some x1 ∧ u.cell? ⟨n1, 2, none⟩ = some x2 ∧ u.cell? ⟨n2, 0, none⟩ = some y0 ∧ u.cell? ⟨n2, 1, none⟩ = some y1 ∧ u.cell? ⟨n2, 2, none⟩ = some y2 ∧ Kp W n1 n2 u) : v.cell? ⟨n1, 0, none⟩ = some x0 ∧ v.cell? ⟨n1, 1, none⟩ = some x1 ∧ v.cell? ⟨n1, 2, none⟩ = some x2 ∧ v.cell? ⟨n2, 0, none⟩ = some y0 ∧ v.cell? ⟨n2, 1, none⟩ = some y1 ∧ v.cell? ⟨n2, 2, none⟩ = some y2 ∧ Kp W n1 n2 v := by
  obtain ⟨h0, h1, h2, h3, h4, h5, hK⟩ := h
  exact ⟨(hb.cell (p := ⟨n1, 0, none⟩) hK.1).trans h0, (hb.cell (p := ⟨n1, 1, none⟩) hK.1).trans h1, (hb.cell (p := ⟨n1, 2, none⟩) hK.1).trans h2, (hb.cell (p := ⟨n2, 0, none⟩) hK.2.1).trans h3, (hb.cell (p := ⟨n2, 1, none⟩) hK.2.1).trans h4, (hb.cell (p := ⟨n2, 2, none⟩) hK.2.1).trans h5, hK.below hb⟩
theorem keep33_set {n1 n2 g : Nat} {x0 x1 x2 y0 y1 y2 a b c : Value} {W u : World} (h : u.cell? ⟨n1, 0, none⟩ = some x0 ∧ u.cell? ⟨n1, 1, none⟩ = some x1 ∧ u.cell? ⟨n1, 2, none⟩ = some x2 ∧ u.cell? ⟨n2, 0, none⟩ = some y0 ∧ u.cell? ⟨n2, 1, none⟩ = some y1 ∧ u.cell? ⟨n2, 2, none⟩ = some y2 ∧ Kp W n1 n2 u) (hn1 : n1 < W.heap.size) (hn2 : n2 < W.heap.size) (hg : W.heap.size ≤ g) : (((u.setCell ⟨g, 0, none⟩ a).setCell ⟨g, 1, none⟩ b).setCell ⟨g, 2, none⟩ c).cell? ⟨n1, 0, none⟩ = some x0 ∧ (((u.setCell ⟨g, 0, none⟩ a).setCell ⟨g, 1, none⟩ b).setCell ⟨g, 2, none⟩ c).cell? ⟨n1, 1, none⟩ = some x1 ∧ (((u.setCell ⟨g, 0, none⟩ a).setCell ⟨g, 1, none⟩ b).setCell ⟨g, 2, none⟩ c).cell? ⟨n1, 2, none⟩ = some x2 ∧ (((u.setCell ⟨g, 0, none⟩ a).setCell ⟨g, 1, none⟩ b).setCell ⟨g, 2, none⟩ c).cell? ⟨n2, 0, none⟩ = some y0 ∧ (((u.setCell ⟨g, 0, none⟩ a).setCell ⟨g, 1, none⟩ b).setCell ⟨g, 2, none⟩ c).cell? ⟨n2, 1, none⟩ = some y1 ∧ (((u.setCell ⟨g, 0, none⟩ a).setCell ⟨g, 1, none⟩ b).setCell ⟨g, 2, none⟩ c).cell? ⟨n2, 2, none⟩ = some y2 ∧ Kp W n1 n2 (((u.setCell ⟨g, 0, none⟩ a).setCell ⟨g, 1, none⟩ b).setCell ⟨g, 2, none⟩ c) := by
  have hb : Below W.heap.size u (((u.setCell ⟨g, 0, none⟩ a).setCell ⟨g, 1, none⟩ b).setCell ⟨g, 2, none⟩ c) := (((Below.refl _ _).setCell (p := ⟨g, 0, none⟩) hg _).setCell (p := ⟨g, 1, none⟩) hg _).setCell (p := ⟨g, 2, none⟩) hg _
  obtain ⟨h0, h1, h2, h3, h4, h5, hK⟩ := h
  have hs := hb.size
  exact ⟨(hb.cell (p := ⟨n1, 0, none⟩) hn1).trans h0, (hb.cell (p := ⟨n1, 1, none⟩) hn1).trans h1, (hb.cell (p := ⟨n1, 2, none⟩) hn1).trans h2, (hb.cell (p := ⟨n2, 0, none⟩) hn2).trans h3, (hb.cell (p := ⟨n2, 1, none⟩) hn2).trans h4, (hb.cell (p := ⟨n2, 2, none⟩) hn2).trans h5, ⟨Nat.lt_of_lt_of_le hK.1 hs, Nat.lt_of_lt_of_le hK.2.1 hs, hK.2.2.trans hb⟩⟩
theorem keep33_kp {n1 n2 : Nat} {x0 x1 x2 y0 y1 y2 : Value} {W u : World} (h : u.cell? ⟨n1, 0, none⟩ = some x0 ∧ u.cell? ⟨n1, 1, none⟩ = some x1 ∧ u.cell? ⟨n1, 2, none⟩ = some x2 ∧ u.cell? ⟨n2, 0, none⟩ = some y0 ∧ u.cell? ⟨n2, 1, none⟩ = some y1 ∧ u.cell? ⟨n2, 2, none⟩ = some y2 ∧ Kp W n1 n2 u) : Kp W n1 n2 u := h.2.2.2.2.2.2
end Go.Proofs.Ytncipibjlpfkhaa
