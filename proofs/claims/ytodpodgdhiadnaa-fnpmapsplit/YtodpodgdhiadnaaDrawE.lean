/- Drawing a span, and a span beside a key. -/
import Derived.Test.YtodpodgdhiadnaaDrawD
import Derived.Test.YtodpodgdhiadnaaMeetP
namespace Go.Proofs.Ytodpodgdhiadnaa
open Go.RowKit

theorem Zr.only {rb : Nat} {z0 z1 : Value} {g : Nat} {u w' : World} (h : Zr z0 z1 g u) (hw : Only rb u w') (hn : g ≠ rb) : Zr z0 z1 g w' := by
  obtain ⟨h1, h2, h3, h4, h5⟩ := h
  have hs := hw.size
  exact ⟨by rw [hw.cell (p := ⟨g, 0, none⟩) h5 hn, h1], by rw [hw.cell (p := ⟨g, 1, none⟩) h5 hn, h2], by rw [hw.frozen (p := ⟨g, 0, none⟩) h5 hn, h3], by rw [hw.frozen (p := ⟨g, 1, none⟩) h5 hn, h4], by omega⟩
theorem Zr.made (z0 z1 : Value) (t : TypeId) (v : World) : Zr z0 z1 v.heap.size (v.alloc (.cells #[z0, z1] t)) := newZr (t := t) (Below.refl _ _)
theorem Zr.below {z0 z1 : Value} {g : Nat} {u w' : World} (h : Zr z0 z1 g u) (hw : Below u.heap.size u w') : Zr z0 z1 g w' := carryZr hw h

set_option maxHeartbeats 2000000 in
theorem l20AnySpan_any (rb p : Nat) (w : World) (h : RdAt rb p w) (hp : p < 10000) :
    Calls Try.prog 168 #[.pointer (some ⟨rb, 0, none⟩)] w (SomeSpan rb (p + 4) w) := by
  have hlt := h.lt
  have H := Lib.hid h
  clear h
  go_enter Try.func168, Try.ntmps168
  go_wp2_with fail
  with_reducible refine (l20Span_any rb p _ ?hr (by omega)).mono ?_
  case hr => exact H.out.alloc _
  rintro e w1 ⟨lo, hi, q, hq, hlo, hhi, rfl, hr, ho⟩
  have hne : w.heap.size ≠ rb := Nat.ne_of_gt hlt
  have ZA := (Zr.made _ _ _ w).only ho hne
  have zA := ZA.lt
  have HR := Lib.hid hr
  have HO := Lib.hid (((Only.refl rb w).alloc _).trans ho)
  clear hr ho H
  go_wp2_with fail
  with_reducible refine (pick_any rb q 10 _ ?hr2 (by omega) (by omega) (by omega)).mono ?_
  case hr2 => exact HR.out.alloc _
  rintro e w2 ⟨n, hn0, hn1, rfl, hr, ho⟩
  have hne1 : w1.heap.size ≠ rb := by omega
  have hlt1 : rb < w1.heap.size := by omega
  have ZB := (ZA.below ((Below.refl _ _).alloc (Nat.le_refl _) _)).only ho hne
  have ZC := (Zr.made _ _ _ w1).only ho hne1
  have a0 := ZB.c0; have a1 := ZB.c1; have a2 := ZB.f0; have a3 := ZB.f1; have a4 := ZB.lt
  have b0 := ZC.c0; have b1 := ZC.c1; have b2 := ZC.f0; have b3 := ZC.f1; have b4 := ZC.lt
  have HR2 := Lib.hid hr
  have HO2 := Lib.hid ((HO.out.alloc _).trans ho)
  clear hr ho HR HO
  by_cases hz : n = 0
  · subst hz
    go_wp2_with fail
    with_reducible refine (ofNew_any rb (q + 1) 2 w2 _ _ rfl HR2.out (by omega) ?hs3 ?hL3 (by omega) (by omega)).mono ?_
    case hs3 => rfl
    case hL3 => rfl
    rintro e w3 ⟨s, hs, rfl, hr, ho⟩
    have ZD := ZB.only ho hne
    have ZE := ZC.only ho hne1
    clear a0 a1 a2 a3 a4 b0 b1 b2 b3 b4
    have a0 := ZD.c0; have a1 := ZD.c1; have a2 := ZD.f0; have a3 := ZD.f1; have a4 := ZD.lt
    have b0 := ZE.c0; have b1 := ZE.c1; have b2 := ZE.f0; have b3 := ZE.f1; have b4 := ZE.lt
    have HR3 := Lib.hid hr
    have HO3 := Lib.hid (HO2.out.trans ho)
    clear hr ho HR2 HO2
    go_wp2_with fail
    refine bodyPost_ret (v := .agg #[.string s, .string hi]) (by simp [results, Try.results168, go_sem, a0, a1]) rfl ⟨s, hi, q + 1 + 1, by omega, hs, hhi, rfl, ?_, ?_⟩
    · exact ((HR3.out.setNew (a := ⟨w1.heap.size, 0, none⟩) hlt1 _).setNew (a := ⟨w.heap.size, 0, none⟩) hlt _).setNew (a := ⟨w.heap.size, 1, none⟩) hlt _
    · exact ((HO3.out.setNew (p := ⟨w1.heap.size, 0, none⟩) (Nat.le_of_lt zA) _).setNew (p := ⟨w.heap.size, 0, none⟩) (Nat.le_refl _) _).setNew (p := ⟨w.heap.size, 1, none⟩) (Nat.le_refl _) _
  · have hb : (n == 0) = false := by simpa using hz
    by_cases hz1 : n = 1
    · subst hz1
      go_wp2_with fail
      refine bodyPost_ret (v := .agg #[.string lo, .string lo]) (by simp [results, Try.results168, go_sem, a0, a1]) rfl ⟨lo, lo, q + 1, by omega, hlo, hlo, rfl, ?_, ?_⟩
      · exact ((HR2.out.setNew (a := ⟨w1.heap.size, 1, none⟩) hlt1 _).setNew (a := ⟨w.heap.size, 0, none⟩) hlt _).setNew (a := ⟨w.heap.size, 1, none⟩) hlt _
      · exact ((HO2.out.setNew (p := ⟨w1.heap.size, 1, none⟩) (Nat.le_of_lt zA) _).setNew (p := ⟨w.heap.size, 0, none⟩) (Nat.le_refl _) _).setNew (p := ⟨w.heap.size, 1, none⟩) (Nat.le_refl _) _
    · have hb1 : (n == 1) = false := by simpa using hz1
      go_wp2_with fail
      refine bodyPost_ret (v := .agg #[.string lo, .string hi]) (by simp [results, Try.results168, go_sem, a0, a1]) rfl ⟨lo, hi, q + 1, by omega, hlo, hhi, rfl, ?_, ?_⟩
      · exact (HR2.out.setNew (a := ⟨w.heap.size, 0, none⟩) hlt _).setNew (a := ⟨w.heap.size, 1, none⟩) hlt _
      · exact (HO2.out.setNew (p := ⟨w.heap.size, 0, none⟩) (Nat.le_refl _) _).setNew (p := ⟨w.heap.size, 1, none⟩) (Nat.le_refl _) _

theorem cell_far {u : World} {m g i j : Nat} {x : Value} (hn : m ≠ g) : (u.setCell ⟨g, j, none⟩ x).cell? ⟨m, i, none⟩ = u.cell? ⟨m, i, none⟩ :=
  World.cell?_of_block (w := u) (a := ⟨m, i, none⟩) (Below.heap_setCell u ⟨g, j, none⟩ x m hn)
theorem keep2Set {u : World} {m g : Nat} {x y p q : Value} (hn : m ≠ g) (h : u.cell? ⟨m, 0, none⟩ = some x ∧ u.cell? ⟨m, 1, none⟩ = some y) :
    ((u.setCell ⟨g, 0, none⟩ p).setCell ⟨g, 1, none⟩ q).cell? ⟨m, 0, none⟩ = some x ∧ ((u.setCell ⟨g, 0, none⟩ p).setCell ⟨g, 1, none⟩ q).cell? ⟨m, 1, none⟩ = some y :=
  ⟨by rw [cell_far hn, cell_far hn, h.1], by rw [cell_far hn, cell_far hn, h.2]⟩

def SomeSpanKey (w : World) (e : Ending) (w' : World) : Prop := ∃ lo hi key : ByteArray, lo.size ≤ maxLen ∧ hi.size ≤ maxLen ∧ key.size ≤ maxLen ∧ e = .returned (.tuple #[.agg #[.string lo, .string hi], .string key]) ∧ Below w.heap.size w w'

set_option maxHeartbeats 2000000 in
theorem drawSpanHas_any (a : Option Addr) (len cap : Nat) (w : World) (h : BytesIn w a len cap) :
    Calls Try.prog 79 #[.slice a len cap] w (SomeSpanKey w) := by
  have H := Lib.hid h
  clear h
  go_enter Try.func79, Try.ntmps79
  go_wp2_with fail
  with_reducible refine (l20Open_any a len cap (w.heap.size + 1) _ ?hg ?hb).mono ?_
  case hg => simp
  case hb => exact H.out.alloc _
  rintro e w1 ⟨rfl, hr, hb1⟩
  have hne : w.heap.size ≠ w.heap.size + 1 := by omega
  have ZA := (Zr.made _ _ _ w).below hb1
  have E1 := Lib.hid (((Below.refl w.heap.size w).alloc (Nat.le_refl _) _).trans (hb1.mono (by simp)))
  have zA := ZA.lt
  have HR := Lib.hid hr
  clear hr hb1 H
  go_wp2_with fail
  with_reducible refine (l20AnySpan_any (w.heap.size + 1) 0 w1 HR.out (by omega)).mono ?_
  rintro e w2 ⟨lo, hi, q, hq, hlo, hhi, rfl, hr, ho⟩
  have hr1 := hr.lt
  have hne2 : w2.heap.size ≠ w.heap.size + 1 := by omega
  have hne3 : w2.heap.size ≠ w.heap.size := by omega
  have ZB := ZA.only ho hne
  have E2 := Lib.hid (E1.out.trans (ho.below (B := w.heap.size) (by omega) (by omega)))
  have HR2 := Lib.hid hr
  have zB := ZB.lt
  clear hr ho HR E1 ZA
  go_upto_region 3 with fail
  have s0 : (w2.alloc (.cells #[.string lo, .string hi] 84)).cell? ⟨w2.heap.size, 0, none⟩ = some (.string lo) := by simp
  have s1 : (w2.alloc (.cells #[.string lo, .string hi] 84)).cell? ⟨w2.heap.size, 1, none⟩ = some (.string hi) := by simp
  have ZC := ZB.below ((Below.refl _ w2).alloc (Nat.le_refl _) (.cells #[.string lo, .string hi] 84))
  go_region_held3 (fun u => u.cell? ⟨w2.heap.size, 0, none⟩ = some (.string lo) ∧ u.cell? ⟨w2.heap.size, 1, none⟩ = some (.string hi))
    (first | with_reducible exact ⟨s0, s1⟩ | with_reducible exact ⟨t0, t1⟩ | with_reducible exact keep2Set hne3 ⟨t0, t1⟩ | go_keep)
    (first
      | (go_at_call 139; (with_reducible refine (l20AnyKey_any (w.heap.size + 1) q _ ?hr3 (by omega)).mono ?_); (case hr3 => exact (HR2.out.alloc _).drew); rintro e w3 ⟨key, q2, hq2, hkey, rfl, hr3, ho30⟩; have ho3 := ((Only.refl (w.heap.size + 1) (w2.alloc (.cells #[.string lo, .string hi] 84))).drew).trans ho30; have t0 := (ho3.cell (p := ⟨w2.heap.size, 0, none⟩) (by simp) hne2).trans s0; have t1 := (ho3.cell (p := ⟨w2.heap.size, 1, none⟩) (by simp) hne2).trans s1; have ZD := ZC.only ho3 hne; have a0 := ZD.c0; have a1 := ZD.c1; have a2 := ZD.f0; have a3 := ZD.f1))
  all_goals
    go_wp2_with fail
    refine bodyPost_ret (v := .tuple #[.agg #[.string lo, .string hi], .string key]) (by simp [results, Try.results79, go_sem, a0, a1]) rfl ⟨lo, hi, key, hlo, hhi, hkey, rfl, ?_⟩
    exact (((E2.out.alloc (by omega) _).trans (ho3.below (B := w.heap.size) (by omega) (by simp; omega))).setCell (p := ⟨w.heap.size, 0, none⟩) (Nat.le_refl _) _).setCell (p := ⟨w.heap.size, 1, none⟩) (Nat.le_refl _) _

end Go.Proofs.Ytodpodgdhiadnaa
