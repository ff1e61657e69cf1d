/- The walk of the exact law of SpanMeet: both functions answer one and the same, so the law returns true. -/
import Derived.Test.YtandapnogpocmaaMeetC
namespace Go.Proofs.Ytandapnogpocmaa
open Go.RowKit

set_option maxHeartbeats 2000000 in
theorem meetLaw_small (a1 a2 b1 b2 : ByteArray) (w : World) (ha1 : a1.size ≤ maxLen) (ha2 : a2.size ≤ maxLen) (hb1 : b1.size ≤ maxLen) (hb2 : b2.size ≤ maxLen)
    (hz : ¬ szSpanZ a1 a2 1048576 < 0) (hy : ¬ szSpanZ b1 b2 (szSpanZ a1 a2 1048576) < 0)
    (x1 x2 : ByteArray) (b : Bool) (cF : PairIs 28 a1 a2 b1 b2 x1 x2 b) (cG : PairIs 29 a1 a2 b1 b2 x1 x2 b) :
    Calls Try.prog 13 #[.agg #[.string a1, .string a2], .agg #[.string b1, .string b2]] w fun e w' => e = .returned (.bool true) ∧ Below w.heap.size w w' := by
  have hle := szSpanZ_le a1 a2 1048576 (by omega)
  go_enter Try.func13, Try.ntmps13
  go_wp2_with fail
  refine (szSpan_any _ _ _ _ ha1 ha2 (by omega) (by omega)).mono ?_; rintro e w1 ⟨rfl, hw1⟩; obtain ⟨hc1, hf1⟩ := bcell hw1
  go_wp2_with fail
  refine (szSpan_any _ _ _ _ hb1 hb2 (by omega) (by omega)).mono ?_; rintro e w2 ⟨rfl, hw2⟩; obtain ⟨hc2, hf2⟩ := bcell hw2
  have z1 : w.heap.size + 1 < w1.heap.size := by have := hw1.size; simp at this; omega
  have z1a : w.heap.size < w1.heap.size := by omega
  have z2 : w.heap.size + 1 < w2.heap.size := by have := hw2.size; omega
  have z2a : w.heap.size < w2.heap.size := by omega
  have p0 : w2.cell? ⟨w.heap.size, 0, none⟩ = some (.string a1) := by rw [hc2 _ _ z1a, hc1 _ _ (by simp; omega)]; simp
  have p1 : w2.cell? ⟨w.heap.size, 1, none⟩ = some (.string a2) := by rw [hc2 _ _ z1a, hc1 _ _ (by simp; omega)]; simp
  have p2 : w2.cell? ⟨w.heap.size + 1, 0, none⟩ = some (.string b1) := by rw [hc2 _ _ z1, hc1 _ _ (by simp)]; simp
  have p3 : w2.cell? ⟨w.heap.size + 1, 1, none⟩ = some (.string b2) := by rw [hc2 _ _ z1, hc1 _ _ (by simp)]; simp
  have e2 : Below w.heap.size w w2 := ((((Below.refl _ _).alloc (Nat.le_refl _) _).alloc (by simp) _).trans (hw1.mono (by simp; omega))).trans (hw2.mono (by have := hw1.size; simp at this; omega))
  clear hw1 hw2 hc1 hc2 hf1 hf2 z1 z1a
  go_upto_region 8 with fail
  go_cut [6, 7] (fun s6 s7 u => AfterPair w.heap.size w2 (.string a1) (.string a2) (.string b1) (.string b2) (.string x1) (.string x2) b s6 s7 u)
  case first =>
    have q2 : w2.cell? ⟨w.heap.size, 0, none⟩ = some (.string a1) ∧ w2.cell? ⟨w.heap.size, 1, none⟩ = some (.string a2) ∧ w2.cell? ⟨w.heap.size + 1, 0, none⟩ = some (.string b1) ∧ w2.cell? ⟨w.heap.size + 1, 1, none⟩ = some (.string b2) ∧ w.heap.size < w2.heap.size ∧ w.heap.size + 1 < w2.heap.size ∧ Below w2.heap.size w2 w2 := ⟨p0, p1, p2, p3, z2a, z2, Below.refl _ _⟩
    go_region_held3 (fun u => u.cell? ⟨w.heap.size, 0, none⟩ = some (.string a1) ∧ u.cell? ⟨w.heap.size, 1, none⟩ = some (.string a2) ∧ u.cell? ⟨w.heap.size + 1, 0, none⟩ = some (.string b1) ∧ u.cell? ⟨w.heap.size + 1, 1, none⟩ = some (.string b2) ∧ w.heap.size < u.heap.size ∧ w.heap.size + 1 < u.heap.size ∧ Below w2.heap.size w2 u)
      (first | exact q3 | exact q4 | exact q5 | exact keepS ((Below.refl _ w5).alloc (Nat.le_refl _) _) q5 | exact keepSet q5 z2 (Nat.le_refl _) | exact keepSet q5 z2 q3.2.2.2.2.2.2.size | exact keepSet q5 z2 q4.2.2.2.2.2.2.size | exact keepS ((Below.refl _ _).alloc (Nat.le_refl _) _) (by with_reducible assumption) | exact keepS ((Below.refl _ _).drew) q2 | exact keepS (((Below.refl _ _).alloc (Nat.le_refl _) _).drew) q2)
      (first
        | (go_at_call_of 33 (Value.agg #[Value.string a1, Value.string a2]); refine (toSpan_any _ _ _).mono ?_; rintro e w3 ⟨rfl, hw3⟩; have q3 := keepS (n := w.heap.size) (w := w2) (a1 := .string a1) (a2 := .string a2) (b1 := .string b1) (b2 := .string b2) hw3 (by with_reducible assumption); (try ((first | with_reducible refine of_new hw3 ?_ | with_reducible refine of_newD hw3 ?_); intro m; have m0 := m.c0; have m1 := m.c1; have m2 := m.f0; have m3 := m.f1; have m4 := m.lt)))
        | (go_at_call_of 33 (Value.agg #[Value.string b1, Value.string b2]); refine (toSpan_any _ _ _).mono ?_; rintro e w4 ⟨rfl, hw4⟩; have q4 := keepS (n := w.heap.size) (w := w2) (a1 := .string a1) (a2 := .string a2) (b1 := .string b1) (b2 := .string b2) hw4 (by with_reducible assumption); (try ((with_reducible refine of_new hw4 ?_); intro n; have n0 := n.c0; have n1 := n.c1; have n2 := n.f0; have n3 := n.f1; have n4 := n.lt)); (try ((with_reducible refine of_carry w2.heap.size (z0 := .string ⟨#[]⟩) (z1 := .string ⟨#[]⟩) hw4 ?_ ?_); assumption; intro k; have k0 := k.c0; have k1 := k.c1; have k2 := k.f0; have k3 := k.f1; have k4 := k.lt)))
        | (go_at_call 29; refine (cG _).mono ?_; rintro e w5 ⟨rfl, hw5⟩; have q5 := keepS (n := w.heap.size) (w := w2) (a1 := .string a1) (a2 := .string a2) (b1 := .string b1) (b2 := .string b2) hw5 (by with_reducible assumption); (try ((with_reducible refine of_new hw5 ?_); intro o; have o0 := o.c0; have o1 := o.c1; have o2 := o.f0; have o3 := o.f1; have o4 := o.lt)); (try ((with_reducible refine of_carry w2.heap.size (z0 := .string ⟨#[]⟩) (z1 := .string ⟨#[]⟩) hw5 ?_ ?_); assumption; intro l; have l0 := l.c0; have l1 := l.c1; have l2 := l.f0; have l3 := l.f1; have l4 := l.lt)); (try ((with_reducible refine of_carry w3.heap.size (z0 := .string ⟨#[]⟩) (z1 := .string ⟨#[]⟩) hw5 ?_ ?_); assumption; intro j; have j0 := j.c0; have j1 := j.c1; have j2 := j.f0; have j3 := j.f1; have j4 := j.lt))))
    all_goals (go_wp2_with fail; go_meet)
    all_goals first
      | exact afterA q5
      | exact afterB q5 z2 q4.2.2.2.2.2.2.size o
      | exact afterB q5 z2 q3.2.2.2.2.2.2.size j
      | exact afterB q5 z2 (Nat.le_refl _) l
  case rest =>
    clear p0 p1 p2 p3
    obtain ⟨g, rfl, rfl, y0, y1, yz, yn, p0, p1, p2, p3, y2a, y2, f2⟩ := hcut
    have e3 : Below w.heap.size w wc := e2.trans (f2.mono (by omega))
    clear e2 f2 z2 z2a yn
    obtain ⟨v, rfl⟩ : ∃ x, x = wc := ⟨_, rfl⟩
    have z2 := y2
    have z2a := y2a
    go_upto_region 9 with fail
    go_cut [8, 9] (fun s6 s7 u => AfterPair w.heap.size v (.string a1) (.string a2) (.string b1) (.string b2) (.string x1) (.string x2) b s6 s7 u)
    case first =>
      have q2 : v.cell? ⟨w.heap.size, 0, none⟩ = some (.string a1) ∧ v.cell? ⟨w.heap.size, 1, none⟩ = some (.string a2) ∧ v.cell? ⟨w.heap.size + 1, 0, none⟩ = some (.string b1) ∧ v.cell? ⟨w.heap.size + 1, 1, none⟩ = some (.string b2) ∧ w.heap.size < v.heap.size ∧ w.heap.size + 1 < v.heap.size ∧ Below v.heap.size v v := ⟨p0, p1, p2, p3, z2a, z2, Below.refl _ _⟩
      go_region_held3 (fun u => u.cell? ⟨w.heap.size, 0, none⟩ = some (.string a1) ∧ u.cell? ⟨w.heap.size, 1, none⟩ = some (.string a2) ∧ u.cell? ⟨w.heap.size + 1, 0, none⟩ = some (.string b1) ∧ u.cell? ⟨w.heap.size + 1, 1, none⟩ = some (.string b2) ∧ w.heap.size < u.heap.size ∧ w.heap.size + 1 < u.heap.size ∧ Below v.heap.size v u)
        (first | exact q3 | exact q4 | exact q5 | exact keepS ((Below.refl _ w5).alloc (Nat.le_refl _) _) q5 | exact keepSet q5 z2 (Nat.le_refl _) | exact keepSet q5 z2 q3.2.2.2.2.2.2.size | exact keepSet q5 z2 q4.2.2.2.2.2.2.size | exact keepS ((Below.refl _ _).alloc (Nat.le_refl _) _) (by with_reducible assumption) | exact keepS ((Below.refl _ _).drew) q2 | exact keepS (((Below.refl _ _).alloc (Nat.le_refl _) _).drew) q2)
        (first
          | (go_at_call_of 33 (Value.agg #[Value.string a1, Value.string a2]); refine (toSpan_any _ _ _).mono ?_; rintro e w3 ⟨rfl, hw3⟩; have q3 := keepS (n := w.heap.size) (w := v) (a1 := .string a1) (a2 := .string a2) (b1 := .string b1) (b2 := .string b2) hw3 (by with_reducible assumption); (try ((first | with_reducible refine of_new hw3 ?_ | with_reducible refine of_newD hw3 ?_); intro m; have m0 := m.c0; have m1 := m.c1; have m2 := m.f0; have m3 := m.f1; have m4 := m.lt)))
          | (go_at_call_of 33 (Value.agg #[Value.string b1, Value.string b2]); refine (toSpan_any _ _ _).mono ?_; rintro e w4 ⟨rfl, hw4⟩; have q4 := keepS (n := w.heap.size) (w := v) (a1 := .string a1) (a2 := .string a2) (b1 := .string b1) (b2 := .string b2) hw4 (by with_reducible assumption); (try ((with_reducible refine of_new hw4 ?_); intro n; have n0 := n.c0; have n1 := n.c1; have n2 := n.f0; have n3 := n.f1; have n4 := n.lt)); (try ((with_reducible refine of_carry v.heap.size (z0 := .string ⟨#[]⟩) (z1 := .string ⟨#[]⟩) hw4 ?_ ?_); assumption; intro k; have k0 := k.c0; have k1 := k.c1; have k2 := k.f0; have k3 := k.f1; have k4 := k.lt)))
          | (go_at_call 28; refine (cF _).mono ?_; rintro e w5 ⟨rfl, hw5⟩; have q5 := keepS (n := w.heap.size) (w := v) (a1 := .string a1) (a2 := .string a2) (b1 := .string b1) (b2 := .string b2) hw5 (by with_reducible assumption); (try ((with_reducible refine of_new hw5 ?_); intro o; have o0 := o.c0; have o1 := o.c1; have o2 := o.f0; have o3 := o.f1; have o4 := o.lt)); (try ((with_reducible refine of_carry v.heap.size (z0 := .string ⟨#[]⟩) (z1 := .string ⟨#[]⟩) hw5 ?_ ?_); assumption; intro l; have l0 := l.c0; have l1 := l.c1; have l2 := l.f0; have l3 := l.f1; have l4 := l.lt)); (try ((with_reducible refine of_carry w3.heap.size (z0 := .string ⟨#[]⟩) (z1 := .string ⟨#[]⟩) hw5 ?_ ?_); assumption; intro j; have j0 := j.c0; have j1 := j.c1; have j2 := j.f0; have j3 := j.f1; have j4 := j.lt))))
      all_goals (go_wp2_with fail; go_meet)
      all_goals first
        | exact afterA q5
        | exact afterB q5 z2 q4.2.2.2.2.2.2.size o
        | exact afterB q5 z2 q3.2.2.2.2.2.2.size j
        | exact afterB q5 z2 (Nat.le_refl _) l

    case rest =>
      obtain ⟨g2, rfl, rfl, x0, xx1, xz, xn, r0, r1, r2, r3, x2a, x2, f3⟩ := hcut
      have e4 : Below w.heap.size w wc := e3.trans (f3.mono (by omega))
      have y0' := (f3.cell (p := ⟨g, 0, none⟩) yz).trans y0
      have y1' := (f3.cell (p := ⟨g, 1, none⟩) yz).trans y1
      have x9 : w.heap.size ≤ wc.heap.size := by omega
      clear y0 y1 p0 p1 p2 p3 r0 r1 r2 r3 f3 e3 xn
      go_wp2_with fail
      refine (eqSpan_same _ _ _).mono ?_; rintro e w7 ⟨rfl, hw7⟩
      go_wp2_with fail
      go_ret
      exact ⟨rfl, e4.trans (hw7.mono x9)⟩
end Go.Proofs.Ytandapnogpocmaa
