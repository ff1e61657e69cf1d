/- The contract of the draw of two spans that may be joined. -/
import Derived.Test.YtandapnogpocmaaDrawJ
namespace Go.Proofs.Ytandapnogpocmaa
open Go.RowKit

/-- Two new pairs behind one or two allocations, in a callee's world. -/
theorem of_new2 {C : Prop} {z0 z1 y0 y1 : Value} {t s : TypeId} {v w' : World} (hw : Below ((v.alloc (.cells #[z0, z1] t)).alloc (.cells #[y0, y1] s)).heap.size ((v.alloc (.cells #[z0, z1] t)).alloc (.cells #[y0, y1] s)) w')
    (k : Zr z0 z1 v.heap.size w' → Zr y0 y1 (v.heap.size + 1) w' → C) : C := k (((Zr.made _ _ _ v).alloc _).below hw) ((Zr.made2 _ _ _ _ v).below hw)
theorem of_one {C : Prop} {z0 z1 : Value} {t : TypeId} {v w' : World} (hw : Below (v.alloc (.cells #[z0, z1] t)).heap.size (v.alloc (.cells #[z0, z1] t)) w') (k : Zr z0 z1 v.heap.size w' → C) : C := k ((Zr.made _ _ _ v).below hw)
theorem of_new2O {rb : Nat} {C : Prop} {z0 z1 y0 y1 : Value} {t s : TypeId} {v w' : World} (hw : Only rb ((v.alloc (.cells #[z0, z1] t)).alloc (.cells #[y0, y1] s)).drew w') (h0 : v.heap.size ≠ rb) (h1 : v.heap.size + 1 ≠ rb)
    (k : Zr z0 z1 v.heap.size w' → Zr y0 y1 (v.heap.size + 1) w' → C) : C :=
  k (((Zr.made _ _ _ v).alloc _).only (((Only.refl _ _).drew).trans hw) h0) ((Zr.made2 _ _ _ _ v).only (((Only.refl _ _).drew).trans hw) h1)
theorem of_oneO {rb : Nat} {C : Prop} {z0 z1 : Value} {t : TypeId} {v w' : World} (hw : Only rb (v.alloc (.cells #[z0, z1] t)).drew w') (h0 : v.heap.size ≠ rb) (k : Zr z0 z1 v.heap.size w' → C) : C :=
  k ((Zr.made _ _ _ v).only (((Only.refl _ _).drew).trans hw) h0)
theorem of_keepB (g : Nat) {C : Prop} {z0 z1 : Value} {u w' : World} (hw : Below u.heap.size u w') (h : Zr z0 z1 g u) (k : Zr z0 z1 g w' → C) : C := k (h.below hw)

/-- What is known of the world of the draw of two spans, while it goes on. -/
def Base (n rb t5 q : Nat) (lo hi : ByteArray) (w u : World) : Prop :=
  Zr (.string ⟨#[]⟩) (.string ⟨#[]⟩) n u ∧ Zr (.string ⟨#[]⟩) (.string ⟨#[]⟩) (n + 1) u ∧ Zr (.string lo) (.string hi) t5 u ∧ RdAt rb q u ∧ Below n w u
theorem Base.below {n rb t5 q : Nat} {lo hi : ByteArray} {w u v : World} (h : Base n rb t5 q lo hi w u) (hb : Below u.heap.size u v) : Base n rb t5 q lo hi w v :=
  ⟨h.1.below hb, h.2.1.below hb, h.2.2.1.below hb, h.2.2.2.1.below hb, h.2.2.2.2.trans (hb.mono (Nat.le_of_lt h.1.lt))⟩
theorem Base.alloc {n rb t5 q : Nat} {lo hi : ByteArray} {w u : World} (h : Base n rb t5 q lo hi w u) (o : Obj) : Base n rb t5 q lo hi w (u.alloc o) := h.below ((Below.refl _ _).alloc (Nat.le_refl _) _)
theorem Base.drew {n rb t5 q : Nat} {lo hi : ByteArray} {w u : World} (h : Base n rb t5 q lo hi w u) : Base n rb t5 q lo hi w u.drew := h.below ((Below.refl _ _).drew)
theorem Base.only {n rb t5 q q' : Nat} {lo hi : ByteArray} {w u v : World} (h : Base n rb t5 q lo hi w u) (ho : Only rb u v) (hr : RdAt rb q' v) (h0 : n + 1 < rb) (h5 : t5 ≠ rb) : Base n rb t5 q' lo hi w v :=
  ⟨h.1.only ho (by omega), h.2.1.only ho (by omega), h.2.2.1.only ho h5, hr, h.2.2.2.2.trans (ho.below (by omega) (Nat.le_of_lt h.1.lt))⟩
theorem Zr.set {z0 z1 : Value} {m g i : Nat} {u : World} {x : Value} (h : Zr z0 z1 m u) (hn : m ≠ g) : Zr z0 z1 m (u.setCell ⟨g, i, none⟩ x) := by
  obtain ⟨h1, h2, h3, h4, h5⟩ := h
  have hf : ∀ j, (u.setCell ⟨g, i, none⟩ x).frozen? ⟨m, j, none⟩ = u.frozen? ⟨m, j, none⟩ := fun j => World.frozen?_of_block (w := u) (a := ⟨m, j, none⟩) (Below.heap_setCell u ⟨g, i, none⟩ x m hn)
  exact ⟨by rw [cell_far hn, h1], by rw [cell_far hn, h2], by rw [hf, h3], by rw [hf, h4], Nat.lt_of_lt_of_le h5 (by simp [World.setCell])⟩
theorem Base.set {n rb t5 q g i : Nat} {lo hi : ByteArray} {w u : World} {x : Value} (h : Base n rb t5 q lo hi w u) (h0 : n + 1 < rb) (hg : rb < g) (h5 : t5 ≠ g) : Base n rb t5 q lo hi w (u.setCell ⟨g, i, none⟩ x) :=
  ⟨h.1.set (by omega), h.2.1.set (by omega), h.2.2.1.set h5, h.2.2.2.1.setNew (a := ⟨g, i, none⟩) hg _, h.2.2.2.2.setCell (p := ⟨g, i, none⟩) (by show n ≤ g; omega) _⟩

theorem Base.zn {n rb t5 q : Nat} {lo hi : ByteArray} {w u : World} (h : Base n rb t5 q lo hi w u) : Zr (.string ⟨#[]⟩) (.string ⟨#[]⟩) n u := h.1
theorem Base.zm {n rb t5 q : Nat} {lo hi : ByteArray} {w u : World} (h : Base n rb t5 q lo hi w u) : Zr (.string ⟨#[]⟩) (.string ⟨#[]⟩) (n + 1) u := h.2.1
theorem Base.zt {n rb t5 q : Nat} {lo hi : ByteArray} {w u : World} (h : Base n rb t5 q lo hi w u) : Zr (.string lo) (.string hi) t5 u := h.2.2.1
theorem Base.rd {n rb t5 q : Nat} {lo hi : ByteArray} {w u : World} (h : Base n rb t5 q lo hi w u) : RdAt rb q u := h.2.2.2.1
theorem Base.bel {n rb t5 q : Nat} {lo hi : ByteArray} {w u : World} (h : Base n rb t5 q lo hi w u) : Below n w u := h.2.2.2.2

/-- Block m of u holds this pair. -/
def Pr (x y : Value) (m : Nat) (u : World) : Prop := u.cell? ⟨m, 0, none⟩ = some x ∧ u.cell? ⟨m, 1, none⟩ = some y ∧ m < u.heap.size
theorem Pr.set {x y : Value} {m g i : Nat} {u : World} {z : Value} (hn : m ≠ g) (h : Pr x y m u) : Pr x y m (u.setCell ⟨g, i, none⟩ z) :=
  ⟨by rw [cell_far hn, h.1], by rw [cell_far hn, h.2.1], Nat.lt_of_lt_of_le h.2.2 (by simp [World.setCell])⟩
theorem Pr.alloc {x y : Value} {m : Nat} {u : World} {o : Obj} (h : Pr x y m u) : Pr x y m (u.alloc o) := by
  have hb : Below u.heap.size u (u.alloc o) := (Below.refl _ _).alloc (Nat.le_refl _) _
  exact ⟨by rw [hb.cell (p := ⟨m, 0, none⟩) h.2.2, h.1], by rw [hb.cell (p := ⟨m, 1, none⟩) h.2.2, h.2.1], Nat.lt_of_lt_of_le h.2.2 hb.size⟩
theorem Pr.put {x y : ByteArray} {z0 z1 : Value} {g : Nat} {u : World} (z : Zr z0 z1 g u) : Pr (.string x) (.string y) g ((u.setCell ⟨g, 0, none⟩ (.string x)).setCell ⟨g, 1, none⟩ (.string y)) := by
  have c0 := z.c0
  have c1 := z.c1
  have hz := z.lt
  exact ⟨by simp [go_sem, c0], by simp [go_sem, c1], by simpa using hz⟩
theorem Pr.made {x y : Value} {t : TypeId} {u : World} : Pr x y u.heap.size (u.alloc (.cells #[x, y] t)) := ⟨by simp, by simp, by simp⟩
theorem Pr.madeAt {x y : Value} {t : TypeId} {u : World} {g : Nat} (h : u.heap.size = g) : Pr x y g (u.alloc (.cells #[x, y] t)) := by subst h; exact Pr.made
theorem Pr.made2 {x y : Value} {t : TypeId} {o : Obj} {u : World} : Pr x y (u.heap.size + 1) ((u.alloc o).alloc (.cells #[x, y] t)) := by
  have h := Zr.made2 x y t o u
  exact ⟨h.c0, h.c1, h.lt⟩
theorem Pr.two {x y : Value} {m : Nat} {u : World} (h : Pr x y m u) : u.cell? ⟨m, 0, none⟩ = some x ∧ u.cell? ⟨m, 1, none⟩ = some y := ⟨h.1, h.2.1⟩
theorem Zr.pr {x y : Value} {m : Nat} {u : World} (h : Zr x y m u) : Pr x y m u := ⟨h.c0, h.c1, h.lt⟩

def AfterJ (n rb t5 q : Nat) (lo hi : ByteArray) (w : World) (s6 s7 s8 : Value) (u : World) : Prop :=
  ∃ (x1 x2 y1 y2 : ByteArray) (b : Bool) (g6 g7 : Nat), (x1.size ≤ maxLen ∧ x2.size ≤ maxLen ∧ y1.size ≤ maxLen ∧ y2.size ≤ maxLen) ∧ s6 = .pointer (some ⟨g6, 0, none⟩) ∧ s7 = .pointer (some ⟨g7, 0, none⟩) ∧ s8 = .bool b ∧
    Pr (.string x1) (.string x2) g6 u ∧ Pr (.string y1) (.string y2) g7 u ∧ n + 1 < g6 ∧ n + 1 < g7 ∧ Base n rb t5 q lo hi w u

set_option maxHeartbeats 8000000 in
theorem drawSpanJoin_any (a : Option Addr) (len cap : Nat) (w : World) (h : BytesIn w a len cap) :
    Calls Try.prog 25 #[.slice a len cap] w (SomeTwo w) := by
  have H := Lib.hid h
  clear h
  go_enter Try.func25, Try.ntmps25
  go_wp2_with fail
  with_reducible refine (l20Open_any a len cap (w.heap.size + 1 + 1) _ ?hg ?hb).mono ?_
  case hg => simp
  case hb => exact (H.out.alloc _).alloc _
  rintro e w1 ⟨rfl, hr, hb1⟩
  have n0 : w.heap.size ≠ w.heap.size + 1 + 1 := by omega
  have n1 : w.heap.size + 1 ≠ w.heap.size + 1 + 1 := by omega
  have ZA := ((Zr.made _ _ _ w).alloc _).below hb1
  have ZB := (Zr.made2 _ _ _ _ w).below hb1
  have E1 := Lib.hid ((((Below.refl w.heap.size w).alloc (Nat.le_refl _) _).alloc (by simp) _).trans (hb1.mono (by simp; omega)))
  have HR := Lib.hid hr
  clear hr hb1 H
  go_wp2_with fail
  with_reducible refine (l20AnySpan_any (w.heap.size + 1 + 1) 0 w1 HR.out (by omega)).mono ?_
  rintro e w2 ⟨lo, hi, q, hq, hlo, hhi, rfl, hr, ho⟩
  have hr1 := hr.lt
  have n3 : w2.heap.size ≠ w.heap.size + 1 + 1 := by omega
  have zz := E1.out.size
  have B2 : Base w.heap.size (w.heap.size + 1 + 1) w2.heap.size q lo hi w (w2.alloc (.cells #[.string lo, .string hi] 24)) :=
    ⟨(ZA.only ho n0).alloc _, (ZB.only ho n1).alloc _, Zr.made _ _ _ w2, hr.alloc _, (E1.out.trans (ho.below (B := w.heap.size) (by omega) zz)).alloc (by omega) _⟩
  have HB2 := Lib.hid B2
  clear hr ho HR E1 ZA ZB B2
  go_wp2_with fail
  with_reducible refine (pick_any (w.heap.size + 1 + 1) q 3 _ HB2.out.rd (by omega) (by omega) (by omega)).mono ?_
  rintro e w3 ⟨n, hn0, hn1, rfl, hr, ho⟩
  have HB3 := Lib.hid (HB2.out.only ho hr (by omega) n3)
  have z3 : w2.heap.size < w3.heap.size := HB3.out.zt.lt
  clear hr ho HB2
  by_cases hp : 0 < n
  · have s0 := HB3.out.zt.c0
    have s1 := HB3.out.zt.c1
    go_upto_region 4 with fail
    have n6 : w3.heap.size ≠ w.heap.size + 1 + 1 := by omega
    have n7 : w3.heap.size + 1 ≠ w.heap.size + 1 + 1 := by omega
    go_cut [6, 7, 8] (fun s6 s7 s8 u => AfterJ w.heap.size (w.heap.size + 1 + 1) w2.heap.size (q + 1 + 1) lo hi w s6 s7 s8 u)
    case first =>
      go_region_held3 (fun u => u.cell? ⟨w2.heap.size, 0, none⟩ = some (.string lo) ∧ u.cell? ⟨w2.heap.size, 1, none⟩ = some (.string hi))
        (first | with_reducible exact ⟨s0, s1⟩ | with_reducible exact ⟨t0, t1⟩ | with_reducible exact ⟨v0, v1⟩ | (refine Pr.two ?_; (repeat (first | (with_reducible refine Pr.alloc ?_) | (with_reducible refine Pr.set (by omega) ?_))); first | with_reducible exact HB5.out.zt.pr | with_reducible exact HB4.out.zt.pr | with_reducible exact HB3.out.zt.pr) | (go_keep; done))
        (first
          | (go_at_call 45; (with_reducible refine (l20Key_any (w.heap.size + 1 + 1) (q + 1) w3.drew HB3.out.drew.rd (by omega)).mono ?_); rintro e w4 ⟨key, hkey, rfl, hr4, ho4⟩; have B4 := HB3.out.drew.only ho4 hr4 (by omega) n3; have t0 := B4.zt.c0; have t1 := B4.zt.c1; have t4 := B4.zt.lt; have HB4 := Lib.hid B4; obtain ⟨x1, x2, y1, y2, b, hxs, c23⟩ := cut_some lo hi key hlo hhi hkey; clear hr4 ho4 B4)
          | (go_at_call 45; (with_reducible refine (l20Key_any (w.heap.size + 1 + 1) (q + 1) (w3.alloc (.cells #[.string ⟨#[]⟩, .string ⟨#[]⟩] 24)).drew (HB3.out.alloc _).drew.rd (by omega)).mono ?_); rintro e w4 ⟨key, hkey, rfl, hr4, ho4⟩; have B4 := (HB3.out.alloc _).drew.only ho4 hr4 (by omega) n3; have t0 := B4.zt.c0; have t1 := B4.zt.c1; have t4 := B4.zt.lt; have m0 := (Zr.made _ _ _ w3).only (((Only.refl _ _).drew).trans ho4) n6; have m0c := m0.c0; have m0d := m0.c1; have m0e := m0.f0; have m0f := m0.f1; have m0g := m0.lt; have HB4 := Lib.hid B4; obtain ⟨x1, x2, y1, y2, b, hxs, c23⟩ := cut_some lo hi key hlo hhi hkey; clear hr4 ho4 B4)
          | (go_at_call 45; (with_reducible refine (l20Key_any (w.heap.size + 1 + 1) (q + 1) ((w3.alloc (.cells #[.string ⟨#[]⟩, .string ⟨#[]⟩] 24)).alloc (.cells #[.string ⟨#[]⟩, .string ⟨#[]⟩] 24)).drew ((HB3.out.alloc _).alloc _).drew.rd (by omega)).mono ?_); rintro e w4 ⟨key, hkey, rfl, hr4, ho4⟩; have B4 := ((HB3.out.alloc _).alloc _).drew.only ho4 hr4 (by omega) n3; have t0 := B4.zt.c0; have t1 := B4.zt.c1; have t4 := B4.zt.lt; have m0 := ((Zr.made _ _ _ w3).alloc _).only (((Only.refl _ _).drew).trans ho4) n6; have m0c := m0.c0; have m0d := m0.c1; have m0e := m0.f0; have m0f := m0.f1; have m0g := m0.lt; have m1 := (Zr.made2 _ _ _ _ w3).only (((Only.refl _ _).drew).trans ho4) n7; have m1c := m1.c0; have m1d := m1.c1; have m1e := m1.f0; have m1f := m1.f1; have m1g := m1.lt; have HB4 := Lib.hid B4; obtain ⟨x1, x2, y1, y2, b, hxs, c23⟩ := cut_some lo hi key hlo hhi hkey; clear hr4 ho4 B4)
          | (go_at_call 23; (with_reducible refine (c23.call w4).mono ?_); rintro e w5 ⟨rfl, hw5⟩; have B5 := HB4.out.below hw5; have v0 := B5.zt.c0; have v1 := B5.zt.c1; have v4 := B5.zt.lt; (try ((with_reducible refine of_keepB w3.heap.size (z0 := .string ⟨#[]⟩) (z1 := .string ⟨#[]⟩) hw5 ?_ ?_); (first | with_reducible exact m0 | with_reducible exact m0.alloc _ | with_reducible exact (m0.alloc _).alloc _); intro k0; have k0c := k0.c0; have k0d := k0.c1; have k0e := k0.f0; have k0f := k0.f1; have k0g := k0.lt)); (try ((with_reducible refine of_keepB (w3.heap.size + 1) (z0 := .string ⟨#[]⟩) (z1 := .string ⟨#[]⟩) hw5 ?_ ?_); (first | with_reducible exact m1 | with_reducible exact m1.alloc _ | with_reducible exact (m1.alloc _).alloc _); intro k1; have k1c := k1.c0; have k1d := k1.c1; have k1e := k1.f0; have k1f := k1.f1; have k1g := k1.lt)); have HB5 := Lib.hid B5; clear hw5 B5)
          | (go_at_call 23; (with_reducible refine (c23.call (w4.alloc (.cells #[.string ⟨#[]⟩, .string ⟨#[]⟩] 24))).mono ?_); rintro e w5 ⟨rfl, hw5⟩; have B5 := (HB4.out.alloc _).below hw5; have v0 := B5.zt.c0; have v1 := B5.zt.c1; have v4 := B5.zt.lt; (try ((with_reducible refine of_keepB w3.heap.size (z0 := .string ⟨#[]⟩) (z1 := .string ⟨#[]⟩) hw5 ?_ ?_); (first | with_reducible exact m0 | with_reducible exact m0.alloc _ | with_reducible exact (m0.alloc _).alloc _); intro k0; have k0c := k0.c0; have k0d := k0.c1; have k0e := k0.f0; have k0f := k0.f1; have k0g := k0.lt)); (try ((with_reducible refine of_keepB (w3.heap.size + 1) (z0 := .string ⟨#[]⟩) (z1 := .string ⟨#[]⟩) hw5 ?_ ?_); (first | with_reducible exact m1 | with_reducible exact m1.alloc _ | with_reducible exact (m1.alloc _).alloc _); intro k1; have k1c := k1.c0; have k1d := k1.c1; have k1e := k1.f0; have k1f := k1.f1; have k1g := k1.lt)); have p0 := (Zr.made _ _ _ w4).below hw5; have p0c := p0.c0; have p0d := p0.c1; have p0e := p0.f0; have p0f := p0.f1; have p0g := p0.lt; have HB5 := Lib.hid B5; clear hw5 B5)
          | (go_at_call 23; (with_reducible refine (c23.call ((w4.alloc (.cells #[.string ⟨#[]⟩, .string ⟨#[]⟩] 24)).alloc (.cells #[.string ⟨#[]⟩, .string ⟨#[]⟩] 24))).mono ?_); rintro e w5 ⟨rfl, hw5⟩; have B5 := ((HB4.out.alloc _).alloc _).below hw5; have v0 := B5.zt.c0; have v1 := B5.zt.c1; have v4 := B5.zt.lt; (try ((with_reducible refine of_keepB w3.heap.size (z0 := .string ⟨#[]⟩) (z1 := .string ⟨#[]⟩) hw5 ?_ ?_); (first | with_reducible exact m0 | with_reducible exact m0.alloc _ | with_reducible exact (m0.alloc _).alloc _); intro k0; have k0c := k0.c0; have k0d := k0.c1; have k0e := k0.f0; have k0f := k0.f1; have k0g := k0.lt)); (try ((with_reducible refine of_keepB (w3.heap.size + 1) (z0 := .string ⟨#[]⟩) (z1 := .string ⟨#[]⟩) hw5 ?_ ?_); (first | with_reducible exact m1 | with_reducible exact m1.alloc _ | with_reducible exact (m1.alloc _).alloc _); intro k1; have k1c := k1.c0; have k1d := k1.c1; have k1e := k1.f0; have k1f := k1.f1; have k1g := k1.lt)); have p0 := ((Zr.made _ _ _ w4).alloc _).below hw5; have p0c := p0.c0; have p0d := p0.c1; have p0e := p0.f0; have p0f := p0.f1; have p0g := p0.lt; have p1 := (Zr.made2 _ _ _ _ w4).below hw5; have p1c := p1.c0; have p1d := p1.c1; have p1e := p1.f0; have p1f := p1.f1; have p1g := p1.lt; have HB5 := Lib.hid B5; clear hw5 B5))
      all_goals (go_wp2_with fail; go_meet)
      all_goals
        refine ⟨x1, x2, y1, y2, b, _, _, hxs, rfl, rfl, rfl, ?_, ?_, by omega, by omega, ?_⟩
        · (repeat (first
            | with_reducible exact Pr.made
            | with_reducible exact Pr.made2
            | ((with_reducible refine Pr.madeAt ?_); (simp; done))
            | ((with_reducible refine Pr.put (z0 := .string ⟨#[]⟩) (z1 := .string ⟨#[]⟩) ?_); (repeat (with_reducible refine Zr.set ?_ (by omega))); first | with_reducible exact k0 | with_reducible exact k1 | with_reducible exact p0 | with_reducible exact p1)
            | with_reducible refine Pr.alloc ?_
            | with_reducible refine Pr.set (by omega) ?_))
        · (repeat (first
            | with_reducible exact Pr.made
            | with_reducible exact Pr.made2
            | ((with_reducible refine Pr.madeAt ?_); (simp; done))
            | ((with_reducible refine Pr.put (z0 := .string ⟨#[]⟩) (z1 := .string ⟨#[]⟩) ?_); (repeat (with_reducible refine Zr.set ?_ (by omega))); first | with_reducible exact k0 | with_reducible exact k1 | with_reducible exact p0 | with_reducible exact p1)
            | with_reducible refine Pr.alloc ?_
            | with_reducible refine Pr.set (by omega) ?_))
        · (repeat (first | with_reducible refine Base.alloc ?_ _ | with_reducible refine Base.set ?_ (by omega) (by omega) (by omega))); exact HB5.out
    case rest =>
      obtain ⟨x1, x2, y1, y2, b, g6, g7, ⟨hx1, hx2, hy1, hy2⟩, rfl, rfl, rfl, P6, P7, l6, l7, hB⟩ := hcut
      have HB := Lib.hid hB
      have e0 := P6.1; have e1 := P6.2.1; have e2 := P7.1; have e3 := P7.2.1
      have a0 := hB.zn.c0; have a1 := hB.zn.c1; have a2 := hB.zn.f0; have a3 := hB.zn.f1
      have b0 := hB.zm.c0; have b1 := hB.zm.c1; have b2 := hB.zm.f0; have b3 := hB.zm.f1
      have f6 : g6 ≠ w.heap.size := by omega
      have f7 : g7 ≠ w.heap.size := by omega
      have f8 : g6 ≠ w.heap.size + 1 := by omega
      have f9 : g7 ≠ w.heap.size + 1 := by omega
      clear hB s0 s1 HB3
      cases b
      · clear e0 e1 e2 e3 a0 a1 a2 a3 b0 b1 b2 b3
        have n4 : w2.heap.size ≠ w.heap.size := by omega
        have n5 : w2.heap.size ≠ w.heap.size + 1 := by omega
        go_upto_region 7 with fail
        have u0 := HB.out.zt.c0
        have u1 := HB.out.zt.c1
        go_region_held3 (fun u => u.cell? ⟨w2.heap.size, 0, none⟩ = some (.string lo) ∧ u.cell? ⟨w2.heap.size, 1, none⟩ = some (.string hi))
          (first | with_reducible exact ⟨u0, u1⟩ | with_reducible exact ⟨t0, t1⟩ | with_reducible exact keep2Set n4 ⟨t0, t1⟩ | with_reducible exact keep2Set n5 (keep2Set n4 ⟨t0, t1⟩) | with_reducible exact keep2Set n5 ⟨t0, t1⟩ | with_reducible exact keep2Set n4 (keep2Set n5 ⟨t0, t1⟩) | go_keep)
          (first
            | (go_at_call 36; (with_reducible refine (l20AnySpan_any (w.heap.size + 1 + 1) (q + 1 + 1) _ HB.out.drew.rd (by omega)).mono ?_); rintro e w9 ⟨lo2, hi2, q2, hq2, hlo2, hhi2, rfl, hr9, ho9⟩; have B9 := HB.out.drew.only ho9 hr9 (by omega) n3; have t0 := B9.zt.c0; have t1 := B9.zt.c1; have r0 := B9.zn.c0; have r1 := B9.zn.c1; have r2 := B9.zn.f0; have r3 := B9.zn.f1; have o0 := B9.zm.c0; have o1 := B9.zm.c1; have o2 := B9.zm.f0; have o3 := B9.zm.f1; have HB9 := Lib.hid B9; clear B9 hr9 ho9))
        all_goals
          go_wp2_with fail
          refine bodyPost_ret (v := .tuple #[.agg #[.string lo, .string hi], .agg #[.string lo2, .string hi2]]) (by simp [results, Try.results25, go_sem, r0, r1, o0, o1]) rfl ⟨lo, hi, lo2, hi2, hlo, hhi, hlo2, hhi2, rfl, ?_⟩
          exact (((HB9.out.bel.setCell (p := ⟨w.heap.size, 0, none⟩) (Nat.le_refl _) _).setCell (p := ⟨w.heap.size, 1, none⟩) (Nat.le_refl _) _).setCell (p := ⟨w.heap.size + 1, 0, none⟩) (zle1 _) _).setCell (p := ⟨w.heap.size + 1, 1, none⟩) (zle1 _) _
      · go_upto_region 6 with fail
        go_region
        all_goals
          go_wp2_with fail
          refine bodyPost_ret (v := .tuple #[.agg #[.string x1, .string x2], .agg #[.string y1, .string y2]]) (by simp [results, Try.results25, go_sem, a0, a1, b0, b1]) rfl ⟨x1, x2, y1, y2, hx1, hx2, hy1, hy2, rfl, ?_⟩
          exact ((((HB.out.bel.drew).setCell (p := ⟨w.heap.size, 0, none⟩) (Nat.le_refl _) _).setCell (p := ⟨w.heap.size, 1, none⟩) (Nat.le_refl _) _).setCell (p := ⟨w.heap.size + 1, 0, none⟩) (zle1 _) _).setCell (p := ⟨w.heap.size + 1, 1, none⟩) (zle1 _) _
  · have hp0 : n ≤ 0 := by omega
    have n4 : w2.heap.size ≠ w.heap.size := by omega
    have n5 : w2.heap.size ≠ w.heap.size + 1 := by omega
    go_upto_region 7 with fail
    have u0 := HB3.out.zt.c0
    have u1 := HB3.out.zt.c1
    go_region_held3 (fun u => u.cell? ⟨w2.heap.size, 0, none⟩ = some (.string lo) ∧ u.cell? ⟨w2.heap.size, 1, none⟩ = some (.string hi))
      (first | with_reducible exact ⟨u0, u1⟩ | with_reducible exact ⟨t0, t1⟩ | with_reducible exact keep2Set n4 ⟨t0, t1⟩ | with_reducible exact keep2Set n5 (keep2Set n4 ⟨t0, t1⟩) | with_reducible exact keep2Set n5 ⟨t0, t1⟩ | with_reducible exact keep2Set n4 (keep2Set n5 ⟨t0, t1⟩) | go_keep)
      (first
        | (go_at_call 36; (with_reducible refine (l20AnySpan_any (w.heap.size + 1 + 1) (q + 1) _ HB3.out.drew.rd (by omega)).mono ?_); rintro e w9 ⟨lo2, hi2, q2, hq2, hlo2, hhi2, rfl, hr9, ho9⟩; have B9 := HB3.out.drew.only ho9 hr9 (by omega) n3; have t0 := B9.zt.c0; have t1 := B9.zt.c1; have r0 := B9.zn.c0; have r1 := B9.zn.c1; have r2 := B9.zn.f0; have r3 := B9.zn.f1; have o0 := B9.zm.c0; have o1 := B9.zm.c1; have o2 := B9.zm.f0; have o3 := B9.zm.f1; have HB9 := Lib.hid B9; clear B9 hr9 ho9))
    all_goals
      go_wp2_with fail
      refine bodyPost_ret (v := .tuple #[.agg #[.string lo, .string hi], .agg #[.string lo2, .string hi2]]) (by simp [results, Try.results25, go_sem, r0, r1, o0, o1]) rfl ⟨lo, hi, lo2, hi2, hlo, hhi, hlo2, hhi2, rfl, ?_⟩
      exact (((HB9.out.bel.setCell (p := ⟨w.heap.size, 0, none⟩) (Nat.le_refl _) _).setCell (p := ⟨w.heap.size, 1, none⟩) (Nat.le_refl _) _).setCell (p := ⟨w.heap.size + 1, 0, none⟩) (zle1 _) _).setCell (p := ⟨w.heap.size + 1, 1, none⟩) (zle1 _) _
end Go.Proofs.Ytandapnogpocmaa
