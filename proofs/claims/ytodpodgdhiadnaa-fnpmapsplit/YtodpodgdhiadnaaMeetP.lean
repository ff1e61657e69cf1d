/- Pairs of boxes that a region keeps. -/
import Derived.Test.YtodpodgdhiadnaaSpanB
import Derived.Deep.DeepCutAuto
namespace Go.Proofs.Ytodpodgdhiadnaa
open Go.RowKit

theorem keepS {n : Nat} {a1 a2 b1 b2 : Value} {w u v : World} (hb : Below u.heap.size u v) (h : (u).cell? ⟨n, 0, none⟩ = some a1 ∧ (u).cell? ⟨n, 1, none⟩ = some a2 ∧ (u).cell? ⟨n + 1, 0, none⟩ = some b1 ∧ (u).cell? ⟨n + 1, 1, none⟩ = some b2 ∧ n < (u).heap.size ∧ n + 1 < (u).heap.size ∧ Below w.heap.size w (u)) :
    (v).cell? ⟨n, 0, none⟩ = some a1 ∧ (v).cell? ⟨n, 1, none⟩ = some a2 ∧ (v).cell? ⟨n + 1, 0, none⟩ = some b1 ∧ (v).cell? ⟨n + 1, 1, none⟩ = some b2 ∧ n < (v).heap.size ∧ n + 1 < (v).heap.size ∧ Below w.heap.size w (v) := by
  obtain ⟨h1, h2, h3, h4, h5, h6, h7⟩ := h
  obtain ⟨hc, _⟩ := bcell hb
  have := hb.size
  exact ⟨by rw [hc _ _ h5, h1], by rw [hc _ _ h5, h2], by rw [hc _ _ h6, h3], by rw [hc _ _ h6, h4], by omega, by omega, h7.trans (hb.mono h7.size)⟩

theorem keepSet {n g : Nat} {a1 a2 b1 b2 x y : Value} {w u : World} (h : (u).cell? ⟨n, 0, none⟩ = some a1 ∧ (u).cell? ⟨n, 1, none⟩ = some a2 ∧ (u).cell? ⟨n + 1, 0, none⟩ = some b1 ∧ (u).cell? ⟨n + 1, 1, none⟩ = some b2 ∧ n < (u).heap.size ∧ n + 1 < (u).heap.size ∧ Below w.heap.size w (u)) (hn : n + 1 < w.heap.size) (hg : w.heap.size ≤ g) :
    ((u.setCell ⟨g, 0, none⟩ x).setCell ⟨g, 1, none⟩ y).cell? ⟨n, 0, none⟩ = some a1 ∧ ((u.setCell ⟨g, 0, none⟩ x).setCell ⟨g, 1, none⟩ y).cell? ⟨n, 1, none⟩ = some a2 ∧ ((u.setCell ⟨g, 0, none⟩ x).setCell ⟨g, 1, none⟩ y).cell? ⟨n + 1, 0, none⟩ = some b1 ∧ ((u.setCell ⟨g, 0, none⟩ x).setCell ⟨g, 1, none⟩ y).cell? ⟨n + 1, 1, none⟩ = some b2 ∧ n < ((u.setCell ⟨g, 0, none⟩ x).setCell ⟨g, 1, none⟩ y).heap.size ∧ n + 1 < ((u.setCell ⟨g, 0, none⟩ x).setCell ⟨g, 1, none⟩ y).heap.size ∧ Below w.heap.size w ((u.setCell ⟨g, 0, none⟩ x).setCell ⟨g, 1, none⟩ y) := by
  have hb : Below (n + 2) u ((u.setCell ⟨g, 0, none⟩ x).setCell ⟨g, 1, none⟩ y) := ((Below.refl _ _).setCell (by show n + 2 ≤ g; omega) _).setCell (by show n + 2 ≤ g; omega) _
  obtain ⟨h1, h2, h3, h4, h5, h6, h7⟩ := h
  have hs := hb.size
  exact ⟨by rw [hb.cell (p := ⟨n, 0, none⟩) (by show n < n + 2; omega), h1], by rw [hb.cell (p := ⟨n, 1, none⟩) (by show n < n + 2; omega), h2], by rw [hb.cell (p := ⟨n + 1, 0, none⟩) (by show n + 1 < n + 2; omega), h3], by rw [hb.cell (p := ⟨n + 1, 1, none⟩) (by show n + 1 < n + 2; omega), h4], by omega, by omega, (h7.setCell (p := ⟨g, 0, none⟩) hg _).setCell (p := ⟨g, 1, none⟩) hg _⟩

/-- Block g of u is a pair of cells that may be written. -/
def Zr (z0 z1 : Value) (g : Nat) (u : World) : Prop := u.cell? ⟨g, 0, none⟩ = some z0 ∧ u.cell? ⟨g, 1, none⟩ = some z1 ∧ u.frozen? ⟨g, 0, none⟩ = false ∧ u.frozen? ⟨g, 1, none⟩ = false ∧ g < u.heap.size
theorem newZr {z0 z1 : Value} {t : TypeId} {v w' : World} (hw : Below (v.alloc (.cells #[z0, z1] t)).heap.size (v.alloc (.cells #[z0, z1] t)) w') : Zr z0 z1 v.heap.size w' := by
  have lt : v.heap.size < (v.alloc (.cells #[z0, z1] t)).heap.size := by simp
  have hs := hw.size
  refine ⟨?_, ?_, ?_, ?_, by omega⟩
  · rw [hw.cell (p := ⟨v.heap.size, 0, none⟩) lt]; simp
  · rw [hw.cell (p := ⟨v.heap.size, 1, none⟩) lt]; simp
  · rw [hw.frozen (p := ⟨v.heap.size, 0, none⟩) lt]; simp
  · rw [hw.frozen (p := ⟨v.heap.size, 1, none⟩) lt]; simp
theorem carryZr {z0 z1 : Value} {g : Nat} {u w' : World} (hw : Below u.heap.size u w') (h : Zr z0 z1 g u) : Zr z0 z1 g w' := by
  obtain ⟨h1, h2, h3, h4, h5⟩ := h
  have hs := hw.size
  exact ⟨by rw [hw.cell (p := ⟨g, 0, none⟩) h5, h1], by rw [hw.cell (p := ⟨g, 1, none⟩) h5, h2], by rw [hw.frozen (p := ⟨g, 0, none⟩) h5, h3], by rw [hw.frozen (p := ⟨g, 1, none⟩) h5, h4], by omega⟩
theorem of_new {C : Prop} {z0 z1 : Value} {t : TypeId} {v w' : World} (hw : Below (v.alloc (.cells #[z0, z1] t)).heap.size (v.alloc (.cells #[z0, z1] t)) w') (k : Zr z0 z1 v.heap.size w' → C) : C := k (newZr hw)
theorem of_newD {C : Prop} {z0 z1 : Value} {t : TypeId} {v w' : World} (hw : Below (v.alloc (.cells #[z0, z1] t)).drew.heap.size (v.alloc (.cells #[z0, z1] t)).drew w') (k : Zr z0 z1 v.heap.size w' → C) : C :=
  k (newZr (t := t) (((Below.refl _ _).drew).trans hw))
theorem of_carry (g : Nat) {C : Prop} {z0 z1 : Value} {u w' : World} (hw : Below u.heap.size u w') (h : Zr z0 z1 g u) (k : Zr z0 z1 g w' → C) : C := k (carryZr hw h)
theorem Zr.c0 {z0 z1 : Value} {g : Nat} {u : World} (h : Zr z0 z1 g u) : u.cell? ⟨g, 0, none⟩ = some z0 := h.1
theorem Zr.c1 {z0 z1 : Value} {g : Nat} {u : World} (h : Zr z0 z1 g u) : u.cell? ⟨g, 1, none⟩ = some z1 := h.2.1
theorem Zr.f0 {z0 z1 : Value} {g : Nat} {u : World} (h : Zr z0 z1 g u) : u.frozen? ⟨g, 0, none⟩ = false := h.2.2.1
theorem Zr.f1 {z0 z1 : Value} {g : Nat} {u : World} (h : Zr z0 z1 g u) : u.frozen? ⟨g, 1, none⟩ = false := h.2.2.2.1
theorem Zr.lt {z0 z1 : Value} {g : Nat} {u : World} (h : Zr z0 z1 g u) : g < u.heap.size := h.2.2.2.2

theorem szSpanZ_le (lo hi : ByteArray) (left : Int) (h : 0 ≤ left) : szSpanZ lo hi left ≤ left := by
  unfold szSpanZ; split <;> (try split) <;> omega

/-- What holds behind a pair of results that is stored: the two boxes as they were; the new one; nothing old turned. -/
def AfterPair (n : Nat) (w : World) (a1 a2 b1 b2 x1 x2 : Value) (b : Bool) (s6 s7 : Value) (u : World) : Prop :=
  ∃ g : Nat, s6 = .pointer (some ⟨g, 0, none⟩) ∧ s7 = .bool b ∧ u.cell? ⟨g, 0, none⟩ = some x1 ∧ u.cell? ⟨g, 1, none⟩ = some x2 ∧ g < u.heap.size ∧ w.heap.size ≤ g ∧ (u).cell? ⟨n, 0, none⟩ = some a1 ∧ (u).cell? ⟨n, 1, none⟩ = some a2 ∧ (u).cell? ⟨n + 1, 0, none⟩ = some b1 ∧ (u).cell? ⟨n + 1, 1, none⟩ = some b2 ∧ n < (u).heap.size ∧ n + 1 < (u).heap.size ∧ Below w.heap.size w (u)
theorem afterA {n : Nat} {w u : World} {a1 a2 b1 b2 : Value} {x1 x2 : ByteArray} {b : Bool} {t : TypeId} (h : (u).cell? ⟨n, 0, none⟩ = some a1 ∧ (u).cell? ⟨n, 1, none⟩ = some a2 ∧ (u).cell? ⟨n + 1, 0, none⟩ = some b1 ∧ (u).cell? ⟨n + 1, 1, none⟩ = some b2 ∧ n < (u).heap.size ∧ n + 1 < (u).heap.size ∧ Below w.heap.size w (u)) :
    AfterPair n w a1 a2 b1 b2 (.string x1) (.string x2) b (.pointer (some ⟨u.heap.size, 0, none⟩)) (.bool b) (u.alloc (.cells #[.string x1, .string x2] t)) := by
  have q := keepS ((Below.refl _ u).alloc (Nat.le_refl _) (.cells #[.string x1, .string x2] t)) h
  exact ⟨_, rfl, rfl, by simp, by simp, by simp, h.2.2.2.2.2.2.size, q⟩
theorem afterB {n g : Nat} {w u : World} {a1 a2 b1 b2 z0 z1 : Value} {x1 x2 : ByteArray} {b : Bool} (h : (u).cell? ⟨n, 0, none⟩ = some a1 ∧ (u).cell? ⟨n, 1, none⟩ = some a2 ∧ (u).cell? ⟨n + 1, 0, none⟩ = some b1 ∧ (u).cell? ⟨n + 1, 1, none⟩ = some b2 ∧ n < (u).heap.size ∧ n + 1 < (u).heap.size ∧ Below w.heap.size w (u)) (hn : n + 1 < w.heap.size) (hg : w.heap.size ≤ g) (z : Zr z0 z1 g u) :
    AfterPair n w a1 a2 b1 b2 (.string x1) (.string x2) b (.pointer (some ⟨g, 0, none⟩)) (.bool b) ((u.setCell ⟨g, 0, none⟩ (.string x1)).setCell ⟨g, 1, none⟩ (.string x2)) := by
  have q := keepSet (x := .string x1) (y := .string x2) h hn hg
  have c0 := z.c0
  have c1 := z.c1
  have hz := z.lt
  exact ⟨_, rfl, rfl, by simp [go_sem, c0], by simp [go_sem, c1], by simpa using hz, hg, q⟩
theorem zle2 (n : Nat) : n ≤ n + 1 + 1 := by omega
theorem less_trans {x y z : List UInt8} (h : Op.bytesLess x y = true) (k : Op.bytesLess y z = true) : Op.bytesLess x z = true := by
  rw [bytesLess_eq] at *
  simp only [decide_eq_true_eq] at *
  exact List.lt_trans h k

theorem less_irrefl (x : List UInt8) : Op.bytesLess x x = false := by rw [bytesLess_eq]; exact decide_eq_false (List.lt_irrefl _)
theorem bytes_eq {x y : ByteArray} (h : x.toList = y.toList) : x = y := by
  rw [ByteArray.toList_eq, ByteArray.toList_eq] at h
  cases x; cases y
  congr
  exact Array.toList_inj.1 h
end Go.Proofs.Ytodpodgdhiadnaa
