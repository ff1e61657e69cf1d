/- The walk of the two exact laws on pairs of spans (SpanJoin, SpanMeet): both functions answer one and the same, so the law returns true. -/
import Derived.Test.YtandapnogpocmaaJoin
import Derived.Deep.DeepCutAuto
namespace Go.Proofs.Ytandapnogpocmaa
open Go.RowKit

theorem keepS {n : Nat} {a1 a2 b1 b2 : Value} {w u v : World} (hb : Below u.heap.size u v) (h : (u).cell? ⟨n, 0, none⟩ = some a1 ∧ (u).cell? ⟨n, 1, none⟩ = some a2 ∧ (u).cell? ⟨n + 1, 0, none⟩ = some b1 ∧ (u).cell? ⟨n + 1, 1, none⟩ = some b2 ∧ n < (u).heap.size ∧ n + 1 < (u).heap.size ∧ Below w.heap.size w (u)) :
    (v).cell? ⟨n, 0, none⟩ = some a1 ∧ (v).cell? ⟨n, 1, none⟩ = some a2 ∧ (v).cell? ⟨n + 1, 0, none⟩ = some b1 ∧ (v).cell? ⟨n + 1, 1, none⟩ = some b2 ∧ n < (v).heap.size ∧ n + 1 < (v).heap.size ∧ Below w.heap.size w (v) := by
  obtain ⟨h1, h2, h3, h4, h5, h6, h7⟩ := h
  obtain ⟨hc, _⟩ := bcell hb
  have := hb.size
  exact ⟨by rw [hc _ _ h5, h1], by rw [hc _ _ h5, h2], by rw [hc _ _ h6, h3], by rw [hc _ _ h6, h4], by omega, by omega, h7.trans (hb.mono h7.size)⟩

theorem keepSet {n g : Nat} {a1 a2 b1 b2 x y : Value} {w u : World} (h : (u).cell? ⟨n, 0, none⟩ = some a1 ∧ (u).cell? ⟨n, 1, none⟩ = some a2 ∧ (u).cell? ⟨n + 1, 0, none⟩ = some b1 ∧ (u).cell? ⟨n + 1, 1, none⟩ = some b2 ∧ n < (u).heap.size ∧ n + 1 < (u).heap.size ∧ Below w.heap.size w (u)) (hn : n + 1 < w.heap.size) (hg : w.heap.size ≤ g) :
    ((u.setCell ⟨g, 0, none⟩ x).setCell ⟨g, 1, none⟩ y).cell? ⟨n, 0, none⟩ = some a1 ∧ ((u.setCell ⟨g, 0, none⟩ x).setCell ⟨g, 1, none⟩ y).cell? ⟨n, 1, none⟩ = some a2 ∧ ((u.setCell ⟨g, 0, none⟩ x).setCell ⟨g, 1, none⟩ y).cell? ⟨n + 1, 0, none⟩ = some b1 ∧ ((u.setCell ⟨g, 0, none⟩ x).setCell ⟨g, 1, none⟩ y).cell? ⟨n + 1, 1, none⟩ = some b2 ∧ n < ((u.setCell ⟨g, 0, none⟩ x).setCell ⟨g, 1, none⟩ y).heap.size ∧ n + 1 < ((u.setCell ⟨g, 0, none⟩ x).setCell ⟨g, 1, none⟩ y).heap.size ∧ Below w.heap.size w ((u.setCell ⟨g, 0, none⟩ x).setCell ⟨g, 1, none⟩ y) := by
  have hb : Below (n + 2) u ((u.setCell ⟨g, 0, none⟩ x).setCell ⟨g, 1, none⟩ y) := ((Below.refl _ _).setCell (by show n + 2 ≤ g; omega) _).setCell (by show n + 2 ≤ g; omega) _
  obtain ⟨h1, h2, h3, h4, h5, h6, h7⟩ := h
  have hs := hb.size
  exact ⟨by rw [hb.cell (p := ⟨n, 0, none⟩) (by show n < n + 2; omega), h1], by rw [hb.cell (p := ⟨n, 1, none⟩) (by show n < n + 2; omega), h2], by rw [hb.cell (p := ⟨n + 1, 0, none⟩) (by show n + 1 < n + 2; omega), h3], by rw [hb.cell (p := ⟨n + 1, 1, none⟩) (by show n + 1 < n + 2; omega), h4], by omega, by omega, (h7.setCell (p := ⟨g, 0, none⟩) hg _).setCell (p := ⟨g, 1, none⟩) hg _⟩

/-- Block g of u is a pair of cells that may be written. -/
def Zr (z0 z1 : Value) (g : Nat) (u : World) : Prop := u.cell? ⟨g, 0, none⟩ = some z0 ∧ u.cell? ⟨g, 1, none⟩ = some z1 ∧ u.frozen? ⟨g, 0, none⟩ = false ∧ u.frozen? ⟨g, 1, none⟩ = false ∧ g < u.heap.size
theorem newZr {z0 z1 : Value} {t : TypeId} {v w' : World} (hw : Below (v.alloc (.cells #[z0, z1] t)).heap.size (v.alloc (.cells #[z0, z1] t)) w') : Zr z0 z1 v.heap.size w' := by
  have lt : v.heap.size < (v.alloc (.cells #[z0, z1] t)).heap.size := by simp
  have hs := hw.size
  refine ⟨?_, ?_, ?_, ?_, by omega⟩
  · rw [hw.cell (p := ⟨v.heap.size, 0, none⟩) lt]; simp
  · rw [hw.cell (p := ⟨v.heap.size, 1, none⟩) lt]; simp
  · rw [hw.frozen (p := ⟨v.heap.size, 0, none⟩) lt]; simp
  · rw [hw.frozen (p := ⟨v.heap.size, 1, none⟩) lt]; simp
theorem carryZr {z0 z1 : Value} {g : Nat} {u w' : World} (hw : Below u.heap.size u w') (h : Zr z0 z1 g u) : Zr z0 z1 g w' := by
  obtain ⟨h1, h2, h3, h4, h5⟩ := h
  have hs := hw.size
  exact ⟨by rw [hw.cell (p := ⟨g, 0, none⟩) h5, h1], by rw [hw.cell (p := ⟨g, 1, none⟩) h5, h2], by rw [hw.frozen (p := ⟨g, 0, none⟩) h5, h3], by rw [hw.frozen (p := ⟨g, 1, none⟩) h5, h4], by omega⟩
theorem of_new {C : Prop} {z0 z1 : Value} {t : TypeId} {v w' : World} (hw : Below (v.alloc (.cells #[z0, z1] t)).heap.size (v.alloc (.cells #[z0, z1] t)) w') (k : Zr z0 z1 v.heap.size w' → C) : C := k (newZr hw)
theorem of_newD {C : Prop} {z0 z1 : Value} {t : TypeId} {v w' : World} (hw : Below (v.alloc (.cells #[z0, z1] t)).drew.heap.size (v.alloc (.cells #[z0, z1] t)).drew w') (k : Zr z0 z1 v.heap.size w' → C) : C :=
  k (newZr (t := t) (((Below.refl _ _).drew).trans hw))
theorem of_carry (g : Nat) {C : Prop} {z0 z1 : Value} {u w' : World} (hw : Below u.heap.size u w') (h : Zr z0 z1 g u) (k : Zr z0 z1 g w' → C) : C := k (carryZr hw h)
theorem Zr.c0 {z0 z1 : Value} {g : Nat} {u : World} (h : Zr z0 z1 g u) : u.cell? ⟨g, 0, none⟩ = some z0 := h.1
theorem Zr.c1 {z0 z1 : Value} {g : Nat} {u : World} (h : Zr z0 z1 g u) : u.cell? ⟨g, 1, none⟩ = some z1 := h.2.1
theorem Zr.f0 {z0 z1 : Value} {g : Nat} {u : World} (h : Zr z0 z1 g u) : u.frozen? ⟨g, 0, none⟩ = false := h.2.2.1
theorem Zr.f1 {z0 z1 : Value} {g : Nat} {u : World} (h : Zr z0 z1 g u) : u.frozen? ⟨g, 1, none⟩ = false := h.2.2.2.1
theorem Zr.lt {z0 z1 : Value} {g : Nat} {u : World} (h : Zr z0 z1 g u) : g < u.heap.size := h.2.2.2.2

theorem szSpanZ_le (lo hi : ByteArray) (left : Int) (h : 0 ≤ left) : szSpanZ lo hi left ≤ left := by
  unfold szSpanZ; split <;> (try split) <;> omega

/-- What holds behind a pair of results that is stored: the two boxes as they were; the new one; nothing old turned. -/
def AfterPair (n : Nat) (w : World) (a1 a2 b1 b2 x1 x2 : Value) (b : Bool) (s6 s7 : Value) (u : World) : Prop :=
  ∃ g : Nat, s6 = .pointer (some ⟨g, 0, none⟩) ∧ s7 = .bool b ∧ u.cell? ⟨g, 0, none⟩ = some x1 ∧ u.cell? ⟨g, 1, none⟩ = some x2 ∧ g < u.heap.size ∧ w.heap.size ≤ g ∧ (u).cell? ⟨n, 0, none⟩ = some a1 ∧ (u).cell? ⟨n, 1, none⟩ = some a2 ∧ (u).cell? ⟨n + 1, 0, none⟩ = some b1 ∧ (u).cell? ⟨n + 1, 1, none⟩ = some b2 ∧ n < (u).heap.size ∧ n + 1 < (u).heap.size ∧ Below w.heap.size w (u)
theorem afterA {n : Nat} {w u : World} {a1 a2 b1 b2 : Value} {x1 x2 : ByteArray} {b : Bool} {t : TypeId} (h : (u).cell? ⟨n, 0, none⟩ = some a1 ∧ (u).cell? ⟨n, 1, none⟩ = some a2 ∧ (u).cell? ⟨n + 1, 0, none⟩ = some b1 ∧ (u).cell? ⟨n + 1, 1, none⟩ = some b2 ∧ n < (u).heap.size ∧ n + 1 < (u).heap.size ∧ Below w.heap.size w (u)) :
    AfterPair n w a1 a2 b1 b2 (.string x1) (.string x2) b (.pointer (some ⟨u.heap.size, 0, none⟩)) (.bool b) (u.alloc (.cells #[.string x1, .string x2] t)) := by
  have q := keepS ((Below.refl _ u).alloc (Nat.le_refl _) (.cells #[.string x1, .string x2] t)) h
  exact ⟨_, rfl, rfl, by simp, by simp, by simp, h.2.2.2.2.2.2.size, q⟩
theorem afterB {n g : Nat} {w u : World} {a1 a2 b1 b2 z0 z1 : Value} {x1 x2 : ByteArray} {b : Bool} (h : (u).cell? ⟨n, 0, none⟩ = some a1 ∧ (u).cell? ⟨n, 1, none⟩ = some a2 ∧ (u).cell? ⟨n + 1, 0, none⟩ = some b1 ∧ (u).cell? ⟨n + 1, 1, none⟩ = some b2 ∧ n < (u).heap.size ∧ n + 1 < (u).heap.size ∧ Below w.heap.size w (u)) (hn : n + 1 < w.heap.size) (hg : w.heap.size ≤ g) (z : Zr z0 z1 g u) :
    AfterPair n w a1 a2 b1 b2 (.string x1) (.string x2) b (.pointer (some ⟨g, 0, none⟩)) (.bool b) ((u.setCell ⟨g, 0, none⟩ (.string x1)).setCell ⟨g, 1, none⟩ (.string x2)) := by
  have q := keepSet (x := .string x1) (y := .string x2) h hn hg
  have c0 := z.c0
  have c1 := z.c1
  have hz := z.lt
  exact ⟨_, rfl, rfl, by simp [go_sem, c0], by simp [go_sem, c1], by simpa using hz, hg, q⟩

set_option maxHeartbeats 2000000 in
theorem joinLaw_small (a1 a2 b1 b2 : ByteArray) (w : World) (ha1 : a1.size ≤ maxLen) (ha2 : a2.size ≤ maxLen) (hb1 : b1.size ≤ maxLen) (hb2 : b2.size ≤ maxLen)
    (hz : ¬ szSpanZ a1 a2 1048576 < 0) (hy : ¬ szSpanZ b1 b2 (szSpanZ a1 a2 1048576) < 0)
    (x1 x2 : ByteArray) (b : Bool) (cF : PairIs 24 a1 a2 b1 b2 x1 x2 b) (cG : PairIs 26 a1 a2 b1 b2 x1 x2 b) :
    Calls Try.prog 12 #[.agg #[.string a1, .string a2], .agg #[.string b1, .string b2]] w fun e w' => e = .returned (.bool true) ∧ Below w.heap.size w w' := by
  have hle := szSpanZ_le a1 a2 1048576 (by omega)
  go_enter Try.func12, Try.ntmps12
  go_wp2_with fail
  refine (szSpan_any _ _ _ _ ha1 ha2 (by omega) (by omega)).mono ?_; rintro e w1 ⟨rfl, hw1⟩; obtain ⟨hc1, hf1⟩ := bcell hw1
  go_wp2_with fail
  refine (szSpan_any _ _ _ _ hb1 hb2 (by omega) (by omega)).mono ?_; rintro e w2 ⟨rfl, hw2⟩; obtain ⟨hc2, hf2⟩ := bcell hw2
  have z1 : w.heap.size + 1 < w1.heap.size := by have := hw1.size; simp at this; omega
  have z1a : w.heap.size < w1.heap.size := by omega
  have z2 : w.heap.size + 1 < w2.heap.size := by have := hw2.size; omega
  have z2a : w.heap.size < w2.heap.size := by omega
  have p0 : w2.cell? ⟨w.heap.size, 0, none⟩ = some (.string a1) := by rw [hc2 _ _ z1a, hc1 _ _ (by simp; omega)]; simp
  have p1 : w2.cell? ⟨w.heap.size, 1, none⟩ = some (.string a2) := by rw [hc2 _ _ z1a, hc1 _ _ (by simp; omega)]; simp
  have p2 : w2.cell? ⟨w.heap.size + 1, 0, none⟩ = some (.string b1) := by rw [hc2 _ _ z1, hc1 _ _ (by simp)]; simp
  have p3 : w2.cell? ⟨w.heap.size + 1, 1, none⟩ = some (.string b2) := by rw [hc2 _ _ z1, hc1 _ _ (by simp)]; simp
  have e2 : Below w.heap.size w w2 := ((((Below.refl _ _).alloc (Nat.le_refl _) _).alloc (by simp) _).trans (hw1.mono (by simp; omega))).trans (hw2.mono (by have := hw1.size; simp at this; omega))
  clear hw1 hw2 hc1 hc2 hf1 hf2 z1 z1a
  go_upto_region 8 with fail
  go_cut [6, 7] (fun s6 s7 u => AfterPair w.heap.size w2 (.string a1) (.string a2) (.string b1) (.string b2) (.string x1) (.string x2) b s6 s7 u)
  case first =>
    have q2 : w2.cell? ⟨w.heap.size, 0, none⟩ = some (.string a1) ∧ w2.cell? ⟨w.heap.size, 1, none⟩ = some (.string a2) ∧ w2.cell? ⟨w.heap.size + 1, 0, none⟩ = some (.string b1) ∧ w2.cell? ⟨w.heap.size + 1, 1, none⟩ = some (.string b2) ∧ w.heap.size < w2.heap.size ∧ w.heap.size + 1 < w2.heap.size ∧ Below w2.heap.size w2 w2 := ⟨p0, p1, p2, p3, z2a, z2, Below.refl _ _⟩
    go_region_held3 (fun u => u.cell? ⟨w.heap.size, 0, none⟩ = some (.string a1) ∧ u.cell? ⟨w.heap.size, 1, none⟩ = some (.string a2) ∧ u.cell? ⟨w.heap.size + 1, 0, none⟩ = some (.string b1) ∧ u.cell? ⟨w.heap.size + 1, 1, none⟩ = some (.string b2) ∧ w.heap.size < u.heap.size ∧ w.heap.size + 1 < u.heap.size ∧ Below w2.heap.size w2 u)
      (first | exact q3 | exact q4 | exact q5 | exact keepS ((Below.refl _ w5).alloc (Nat.le_refl _) _) q5 | exact keepSet q5 z2 (Nat.le_refl _) | exact keepSet q5 z2 q3.2.2.2.2.2.2.size | exact keepSet q5 z2 q4.2.2.2.2.2.2.size | exact keepS ((Below.refl _ _).alloc (Nat.le_refl _) _) (by with_reducible assumption) | exact keepS ((Below.refl _ _).drew) q2 | exact keepS (((Below.refl _ _).alloc (Nat.le_refl _) _).drew) q2)
      (first
        | (go_at_call_of 33 (Value.agg #[Value.string a1, Value.string a2]); refine (toSpan_any _ _ _).mono ?_; rintro e w3 ⟨rfl, hw3⟩; have q3 := keepS (n := w.heap.size) (w := w2) (a1 := .string a1) (a2 := .string a2) (b1 := .string b1) (b2 := .string b2) hw3 (by with_reducible assumption); (try ((first | with_reducible refine of_new hw3 ?_ | with_reducible refine of_newD hw3 ?_); intro m; have m0 := m.c0; have m1 := m.c1; have m2 := m.f0; have m3 := m.f1; have m4 := m.lt)))
        | (go_at_call_of 33 (Value.agg #[Value.string b1, Value.string b2]); refine (toSpan_any _ _ _).mono ?_; rintro e w4 ⟨rfl, hw4⟩; have q4 := keepS (n := w.heap.size) (w := w2) (a1 := .string a1) (a2 := .string a2) (b1 := .string b1) (b2 := .string b2) hw4 (by with_reducible assumption); (try ((with_reducible refine of_new hw4 ?_); intro n; have n0 := n.c0; have n1 := n.c1; have n2 := n.f0; have n3 := n.f1; have n4 := n.lt)); (try ((with_reducible refine of_carry w2.heap.size (z0 := .string ⟨#[]⟩) (z1 := .string ⟨#[]⟩) hw4 ?_ ?_); assumption; intro k; have k0 := k.c0; have k1 := k.c1; have k2 := k.f0; have k3 := k.f1; have k4 := k.lt)))
        | (go_at_call 26; refine (cG _).mono ?_; rintro e w5 ⟨rfl, hw5⟩; have q5 := keepS (n := w.heap.size) (w := w2) (a1 := .string a1) (a2 := .string a2) (b1 := .string b1) (b2 := .string b2) hw5 (by with_reducible assumption); (try ((with_reducible refine of_new hw5 ?_); intro o; have o0 := o.c0; have o1 := o.c1; have o2 := o.f0; have o3 := o.f1; have o4 := o.lt)); (try ((with_reducible refine of_carry w2.heap.size (z0 := .string ⟨#[]⟩) (z1 := .string ⟨#[]⟩) hw5 ?_ ?_); assumption; intro l; have l0 := l.c0; have l1 := l.c1; have l2 := l.f0; have l3 := l.f1; have l4 := l.lt)); (try ((with_reducible refine of_carry w3.heap.size (z0 := .string ⟨#[]⟩) (z1 := .string ⟨#[]⟩) hw5 ?_ ?_); assumption; intro j; have j0 := j.c0; have j1 := j.c1; have j2 := j.f0; have j3 := j.f1; have j4 := j.lt))))
    all_goals (go_wp2_with fail; go_meet)
    all_goals first
      | exact afterA q5
      | exact afterB q5 z2 q4.2.2.2.2.2.2.size o
      | exact afterB q5 z2 q3.2.2.2.2.2.2.size j
      | exact afterB q5 z2 (Nat.le_refl _) l
  case rest =>
    clear p0 p1 p2 p3
    obtain ⟨g, rfl, rfl, y0, y1, yz, yn, p0, p1, p2, p3, y2a, y2, f2⟩ := hcut
    have e3 : Below w.heap.size w wc := e2.trans (f2.mono (by omega))
    clear e2 f2 z2 z2a yn
    obtain ⟨v, rfl⟩ : ∃ x, x = wc := ⟨_, rfl⟩
    have z2 := y2
    have z2a := y2a
    go_upto_region 9 with fail
    go_cut [8, 9] (fun s6 s7 u => AfterPair w.heap.size v (.string a1) (.string a2) (.string b1) (.string b2) (.string x1) (.string x2) b s6 s7 u)
    case first =>
      have q2 : v.cell? ⟨w.heap.size, 0, none⟩ = some (.string a1) ∧ v.cell? ⟨w.heap.size, 1, none⟩ = some (.string a2) ∧ v.cell? ⟨w.heap.size + 1, 0, none⟩ = some (.string b1) ∧ v.cell? ⟨w.heap.size + 1, 1, none⟩ = some (.string b2) ∧ w.heap.size < v.heap.size ∧ w.heap.size + 1 < v.heap.size ∧ Below v.heap.size v v := ⟨p0, p1, p2, p3, z2a, z2, Below.refl _ _⟩
      go_region_held3 (fun u => u.cell? ⟨w.heap.size, 0, none⟩ = some (.string a1) ∧ u.cell? ⟨w.heap.size, 1, none⟩ = some (.string a2) ∧ u.cell? ⟨w.heap.size + 1, 0, none⟩ = some (.string b1) ∧ u.cell? ⟨w.heap.size + 1, 1, none⟩ = some (.string b2) ∧ w.heap.size < u.heap.size ∧ w.heap.size + 1 < u.heap.size ∧ Below v.heap.size v u)
        (first | exact q3 | exact q4 | exact q5 | exact keepS ((Below.refl _ w5).alloc (Nat.le_refl _) _) q5 | exact keepSet q5 z2 (Nat.le_refl _) | exact keepSet q5 z2 q3.2.2.2.2.2.2.size | exact keepSet q5 z2 q4.2.2.2.2.2.2.size | exact keepS ((Below.refl _ _).alloc (Nat.le_refl _) _) (by with_reducible assumption) | exact keepS ((Below.refl _ _).drew) q2 | exact keepS (((Below.refl _ _).alloc (Nat.le_refl _) _).drew) q2)
        (first
          | (go_at_call_of 33 (Value.agg #[Value.string a1, Value.string a2]); refine (toSpan_any _ _ _).mono ?_; rintro e w3 ⟨rfl, hw3⟩; have q3 := keepS (n := w.heap.size) (w := v) (a1 := .string a1) (a2 := .string a2) (b1 := .string b1) (b2 := .string b2) hw3 (by with_reducible assumption); (try ((first | with_reducible refine of_new hw3 ?_ | with_reducible refine of_newD hw3 ?_); intro m; have m0 := m.c0; have m1 := m.c1; have m2 := m.f0; have m3 := m.f1; have m4 := m.lt)))
          | (go_at_call_of 33 (Value.agg #[Value.string b1, Value.string b2]); refine (toSpan_any _ _ _).mono ?_; rintro e w4 ⟨rfl, hw4⟩; have q4 := keepS (n := w.heap.size) (w := v) (a1 := .string a1) (a2 := .string a2) (b1 := .string b1) (b2 := .string b2) hw4 (by with_reducible assumption); (try ((with_reducible refine of_new hw4 ?_); intro n; have n0 := n.c0; have n1 := n.c1; have n2 := n.f0; have n3 := n.f1; have n4 := n.lt)); (try ((with_reducible refine of_carry v.heap.size (z0 := .string ⟨#[]⟩) (z1 := .string ⟨#[]⟩) hw4 ?_ ?_); assumption; intro k; have k0 := k.c0; have k1 := k.c1; have k2 := k.f0; have k3 := k.f1; have k4 := k.lt)))
          | (go_at_call 24; refine (cF _).mono ?_; rintro e w5 ⟨rfl, hw5⟩; have q5 := keepS (n := w.heap.size) (w := v) (a1 := .string a1) (a2 := .string a2) (b1 := .string b1) (b2 := .string b2) hw5 (by with_reducible assumption); (try ((with_reducible refine of_new hw5 ?_); intro o; have o0 := o.c0; have o1 := o.c1; have o2 := o.f0; have o3 := o.f1; have o4 := o.lt)); (try ((with_reducible refine of_carry v.heap.size (z0 := .string ⟨#[]⟩) (z1 := .string ⟨#[]⟩) hw5 ?_ ?_); assumption; intro l; have l0 := l.c0; have l1 := l.c1; have l2 := l.f0; have l3 := l.f1; have l4 := l.lt)); (try ((with_reducible refine of_carry w3.heap.size (z0 := .string ⟨#[]⟩) (z1 := .string ⟨#[]⟩) hw5 ?_ ?_); assumption; intro j; have j0 := j.c0; have j1 := j.c1; have j2 := j.f0; have j3 := j.f1; have j4 := j.lt))))
      all_goals (go_wp2_with fail; go_meet)
      all_goals first
        | exact afterA q5
        | exact afterB q5 z2 q4.2.2.2.2.2.2.size o
        | exact afterB q5 z2 q3.2.2.2.2.2.2.size j
        | exact afterB q5 z2 (Nat.le_refl _) l

    case rest =>
      obtain ⟨g2, rfl, rfl, x0, xx1, xz, xn, r0, r1, r2, r3, x2a, x2, f3⟩ := hcut
      have e4 : Below w.heap.size w wc := e3.trans (f3.mono (by omega))
      have y0' := (f3.cell (p := ⟨g, 0, none⟩) yz).trans y0
      have y1' := (f3.cell (p := ⟨g, 1, none⟩) yz).trans y1
      have x9 : w.heap.size ≤ wc.heap.size := by omega
      clear y0 y1 p0 p1 p2 p3 r0 r1 r2 r3 f3 e3 xn
      go_wp2_with fail
      refine (eqSpan_same _ _ _).mono ?_; rintro e w7 ⟨rfl, hw7⟩
      go_wp2_with fail
      go_ret
      exact ⟨rfl, e4.trans (hw7.mono x9)⟩
end Go.Proofs.Ytandapnogpocmaa
