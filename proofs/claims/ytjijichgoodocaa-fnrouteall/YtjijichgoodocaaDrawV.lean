/- Drawing any map of parts. -/
import Derived.Test.YtjijichgoodocaaDrawQ
import Derived.Test.YtjijichgoodocaaVm
import Derived.Test.YtjijichgoodocaaMeetP
import Derived.Test.YtjijichgoodocaaPutW
import Derived.Test.YtjijichgoodocaaCpV
namespace Go.Proofs.Ytjijichgoodocaa
open Go.RowKit

def Small (s : Int) : Prop := -10000 ≤ s ∧ s ≤ 10000
def intsOk (l : List Value) : Bool := l.all fun v => match v with | .int .i64 s => decide (-10000 ≤ s) && decide (s ≤ 10000) | _ => false
theorem ints_in {l : List Value} (h : intsOk l = true) (i : Nat) (hi : i < l.length) : ∃ s : Int, l[i]? = some (.int .i64 s) ∧ Small s := by
  unfold intsOk at h
  rw [List.all_eq_true] at h
  have hm := h l[i] (List.getElem_mem hi)
  have e : l[i]? = some l[i] := List.getElem?_eq_getElem hi
  split at hm
  · rename_i s hs
    refine ⟨s, by rw [e, hs], ?_⟩
    simp at hm; exact hm
  · simp at hm
theorem oneNew_any (rb p L : Nat) (w : World) (g : Nat) (arr : Array Value) (hg : w.heap.size = g) (h : RdAt rb p w) (hp : p < 1000000) (hs : intsOk arr.toList = true) (hL : arr.size = L) (h1 : 1 ≤ L) (h2 : L ≤ 1000) :
    Calls Try.prog 73 #[.pointer (some ⟨rb, 0, none⟩), .slice (some ⟨g, 0, none⟩) L L] (w.alloc (.cells arr 3)) (SomeInt Small rb (p + 1) w) := by
  subst hg
  have hb : Below w.heap.size w (w.alloc (.cells arr 3)) := (Below.refl _ _).alloc (Nat.le_refl _) _
  refine (one_any Small rb p w.heap.size L _ (h.below hb) hp (by have := h.lt; omega) (by simp) h1 h2 fun i hi => ?_).mono ?_
  · obtain ⟨s, e, hz⟩ := ints_in hs i (by simpa [hL] using hi)
    refine ⟨s, ?_, hz⟩
    rw [World.cell?_alloc_new]
    simpa using e
  · rintro e w1 ⟨s, hz, rfl, hr, ho⟩
    exact ⟨s, hz, rfl, hr, (Only.of_below hb).trans ho⟩
/-- The list was laid ahead of another draw. -/
theorem oneOld_any (rb p L : Nat) (v w : World) (g : Nat) (arr : Array Value) (hg : v.heap.size = g) (ho : Only rb (v.alloc (.cells arr 3)) w) (hrb : rb < v.heap.size) (h : RdAt rb p w) (hp : p < 1000000) (hs : intsOk arr.toList = true) (hL : arr.size = L) (h1 : 1 ≤ L) (h2 : L ≤ 1000) :
    Calls Try.prog 73 #[.pointer (some ⟨rb, 0, none⟩), .slice (some ⟨g, 0, none⟩) L L] w (SomeInt Small rb (p + 1) w) := by
  subst hg
  refine one_any Small rb p v.heap.size L _ h hp (by omega) (by have := ho.size; simp at this; omega) h1 h2 fun i hi => ?_
  obtain ⟨s, e, hz⟩ := ints_in hs i (by simpa [hL] using hi)
  refine ⟨s, ?_, hz⟩
  rw [ho.cell (p := ⟨v.heap.size, i, none⟩) (by simp) (by show v.heap.size ≠ rb; omega), World.cell?_alloc_new]
  simpa using e
theorem ofOld_any (rb p L : Nat) (v w : World) (g : Nat) (arr : Array Value) (hg : v.heap.size = g) (ho : Only rb (v.alloc (.cells arr 9)) w) (hrb : rb < v.heap.size) (h : RdAt rb p w) (hp : p < 1000000) (hs : strsOk arr.toList = true) (hL : arr.size = L) (h1 : 1 ≤ L) (h2 : L ≤ 1000) :
    Calls Try.prog 132 #[.pointer (some ⟨rb, 0, none⟩), .slice (some ⟨g, 0, none⟩) L L] w (SomeStr rb (p + 1) w) := by
  subst hg
  refine of_any rb p v.heap.size L _ h hp (by omega) (by have := ho.size; simp at this; omega) h1 h2 fun i hi => ?_
  obtain ⟨s, e, hz⟩ := strs_at hs i (by simpa [hL] using hi)
  refine ⟨s, ?_, hz⟩
  rw [ho.cell (p := ⟨v.heap.size, i, none⟩) (by simp) (by show v.heap.size ≠ rb; omega), World.cell?_alloc_new]
  simpa using e

/-- Rows that lie in a block of their own, where they may be written. -/
structure Dm (rb : Nat) (w : World) (b off : Nat) (vs : List RowD) : Prop where
  cells : ∀ i (h : i < vs.length), w.cell? ⟨b, off + i * 2, none⟩ = some (.string vs[i].f0) ∧ w.cell? ⟨b, off + i * 2 + 1, none⟩ = some (.int .i64 vs[i].f1)
  free : ∀ i, i < vs.length → w.frozen? ⟨b, off + i * 2, none⟩ = false ∧ w.frozen? ⟨b, off + i * 2 + 1, none⟩ = false
  lt : b < w.heap.size
  ne : b ≠ rb
theorem Dm.go {rb b off : Nat} {w u : World} {vs : List RowD} (h : Dm rb w b off vs) (ho : Only rb w u) : Dm rb u b off vs :=
  ⟨fun i hi => ⟨(ho.cell (p := ⟨b, off + i * 2, none⟩) h.lt h.ne).trans (h.cells i hi).1, (ho.cell (p := ⟨b, off + i * 2 + 1, none⟩) h.lt h.ne).trans (h.cells i hi).2⟩,
    fun i hi => ⟨(ho.frozen (p := ⟨b, off + i * 2, none⟩) h.lt h.ne).trans (h.free i hi).1, (ho.frozen (p := ⟨b, off + i * 2 + 1, none⟩) h.lt h.ne).trans (h.free i hi).2⟩, Nat.lt_of_lt_of_le h.lt ho.size, h.ne⟩
theorem Dm.rows {rb b off : Nat} {w : World} {vs : List RowD} (h : Dm rb w b off vs) : RowsIn w (some ⟨b, off, none⟩) vs := .inr ⟨b, off, rfl, h.lt, h.cells⟩
theorem Dm.mk_ {rb : Nat} {w : World} {a : Option Addr} {vs : List RowD} (hi : RowsIn w a vs) (hf : Free w a (vs.length * 2)) (hn : 0 < vs.length) (hl : ∀ b o, a = some ⟨b, o, none⟩ → b ≠ rb) : ∃ b off, a = some ⟨b, off, none⟩ ∧ Dm rb w b off vs := by
  rcases hi with rfl | ⟨b, off, rfl, hb, hc⟩
  · simp at hn
  · refine ⟨b, off, rfl, hc, fun i h => ?_, hb, hl b off rfl⟩
    rcases hf with h0 | ⟨b', off', e, _, hq⟩
    · omega
    · cases e
      exact ⟨(hq (i * 2) (by omega)).2, by have := (hq (i * 2 + 1) (by omega)).2; rwa [← Nat.add_assoc] at this⟩
theorem cell_offR {u : World} {g o o' : Nat} {x : Value} (h : o ≠ o') : (u.setCell ⟨g, o, none⟩ x).cell? ⟨g, o', none⟩ = u.cell? ⟨g, o', none⟩ :=
  World.cell?_setCell_other _ _ _ _ (fun e => h (congrArg Addr.off e))
theorem Dm.set1 {rb b off k : Nat} {w : World} {vs : List RowD} (h : Dm rb w b off vs) (hk : k < vs.length) (x : Int) : RowsIn (w.setCell ⟨b, off + k * 2 + 1, none⟩ (.int .i64 x)) (some ⟨b, off, none⟩) (vs.set k ⟨vs[k].f0, x⟩) := by
  refine .inr ⟨b, off, rfl, by simpa using h.lt, fun i hi => ?_⟩
  rw [List.length_set] at hi
  obtain ⟨c0, c1⟩ := h.cells i hi
  rw [List.getElem_set]
  refine ⟨?_, ?_⟩
  · rw [cell_offR (by omega), c0]; split
    · rename_i e; subst e; rfl
    · rfl
  · split
    · rename_i e; subst e; exact World.cell?_setCell_same _ _ _ c1
    · rw [cell_offR (by omega), c1]
theorem Dm.set0 {rb b off k : Nat} {w : World} {vs : List RowD} (h : Dm rb w b off vs) (hk : k < vs.length) (s : ByteArray) : RowsIn (w.setCell ⟨b, off + k * 2, none⟩ (.string s)) (some ⟨b, off, none⟩) (vs.set k ⟨s, vs[k].f1⟩) := by
  refine .inr ⟨b, off, rfl, by simpa using h.lt, fun i hi => ?_⟩
  rw [List.length_set] at hi
  obtain ⟨c0, c1⟩ := h.cells i hi
  rw [List.getElem_set]
  refine ⟨?_, ?_⟩
  · split
    · rename_i e; subst e; exact World.cell?_setCell_same _ _ _ c0
    · rw [cell_offR (by omega), c0]
  · rw [cell_offR (by omega), c1]; split
    · rename_i e; subst e; rfl
    · rfl
theorem RowsIn.setNew {w : World} {a : Option Addr} {vs : List RowD} (h : RowsIn w a vs) {p : Addr} (x : Value) (hp : ∀ b o, a = some ⟨b, o, none⟩ → b ≠ p.block) : RowsIn (w.setCell p x) a vs :=
  h.turned (S := fun k => k = p.block) (fun b o e k => hp b o e k) ((Turned.refl (fun k => k = p.block) w).setCell (p := p) rfl x)
theorem fits_set {vs : List RowD} {k : Nat} {v : RowD} (h : ∀ v ∈ vs, v.fits) (hv : v.f0.size ≤ maxLen) : ∀ x ∈ vs.set k v, x.fits := fun x hx => by
  rcases List.mem_or_eq_of_mem_set hx with h1 | rfl
  · exact h x h1
  · exact hv

theorem keepC_only {rb n : Nat} {x : Value} {u v : World} (ho : Only rb u v) (hne : n ≠ rb) (h : u.cell? ⟨n, 1, none⟩ = some x ∧ n < u.heap.size) : v.cell? ⟨n, 1, none⟩ = some x ∧ n < v.heap.size := ⟨(ho.cell (p := ⟨n, 1, none⟩) h.2 hne).trans h.1, Nat.lt_of_lt_of_le h.2 ho.size⟩
theorem keepC_alloc {n : Nat} {x : Value} {u : World} {o : Obj} (h : u.cell? ⟨n, 1, none⟩ = some x ∧ n < u.heap.size) : (u.alloc o).cell? ⟨n, 1, none⟩ = some x ∧ n < (u.alloc o).heap.size :=
  have hb : Below u.heap.size u (u.alloc o) := (Below.refl _ _).alloc (Nat.le_refl _) _
  ⟨(hb.cell (p := ⟨n, 1, none⟩) h.2).trans h.1, Nat.lt_of_lt_of_le h.2 hb.size⟩
theorem keepC_set {n b o : Nat} {x y : Value} {u : World} (hb : b ≠ n) (h : u.cell? ⟨n, 1, none⟩ = some x ∧ n < u.heap.size) : (u.setCell ⟨b, o, none⟩ y).cell? ⟨n, 1, none⟩ = some x ∧ n < (u.setCell ⟨b, o, none⟩ y).heap.size :=
  ⟨(World.cell?_of_block (w := u) (a := ⟨n, 1, none⟩) (Below.heap_setCell u ⟨b, o, none⟩ y n (fun e => hb e.symm))).trans h.1, by simpa using h.2⟩
theorem keepC_drew {n : Nat} {x : Value} {u : World} (h : u.cell? ⟨n, 1, none⟩ = some x ∧ n < u.heap.size) : u.drew.cell? ⟨n, 1, none⟩ = some x ∧ n < u.drew.heap.size := h

def SomePmA (rb p : Nat) (w : World) (e : Ending) (w' : World) : Prop := ∃ (ep : Int) (vs : List RowD) (a : Option Addr) (c q : Nat), q ≤ p ∧ 0 < vs.length ∧ vs.length ≤ 5 ∧ e = .returned (.agg #[.int .i64 ep, .slice a vs.length c]) ∧ RowsIn w' a vs ∧ (∀ v ∈ vs, v.fits) ∧ vs.length ≤ c ∧ c ≤ maxLen ∧ (∀ b o, a = some ⟨b, o, none⟩ → w.heap.size ≤ b) ∧ RdAt rb q w' ∧ Only rb w w'
theorem SomePmA.mk_ {rb p q b off c : Nat} {w w' : World} {ep : Int} {vs : List RowD} (hq : q ≤ p) (h0 : 0 < vs.length) (h5 : vs.length ≤ 5) (hi : RowsIn w' (some ⟨b, off, none⟩) vs) (hf : ∀ v ∈ vs, v.fits) (h1 : vs.length ≤ c) (h2 : c ≤ maxLen) (hb : w.heap.size ≤ b) (hr : RdAt rb q w') (ho : Only rb w w') {n : Nat} (hn : vs.length = n) : SomePmA rb p w (.returned (.agg #[.int .i64 ep, .slice (some ⟨b, off, none⟩) n c])) w' :=
  ⟨ep, vs, _, c, q, hq, h0, h5, by rw [hn], hi, hf, h1, h2, fun b' o e => by cases e; exact hb, hr, ho⟩
end Go.Proofs.Ytjijichgoodocaa

/- Drawing a span, and a span beside a key. -/
namespace Go.Proofs.Ytjijichgoodocaa
open Go.RowKit

theorem Zr.only {rb : Nat} {z0 z1 : Value} {g : Nat} {u w' : World} (h : Zr z0 z1 g u) (hw : Only rb u w') (hn : g ≠ rb) : Zr z0 z1 g w' := by
  obtain ⟨h1, h2, h3, h4, h5⟩ := h
  have hs := hw.size
  exact ⟨by rw [hw.cell (p := ⟨g, 0, none⟩) h5 hn, h1], by rw [hw.cell (p := ⟨g, 1, none⟩) h5 hn, h2], by rw [hw.frozen (p := ⟨g, 0, none⟩) h5 hn, h3], by rw [hw.frozen (p := ⟨g, 1, none⟩) h5 hn, h4], by omega⟩
theorem Zr.made (z0 z1 : Value) (t : TypeId) (v : World) : Zr z0 z1 v.heap.size (v.alloc (.cells #[z0, z1] t)) := newZr (t := t) (Below.refl _ _)
theorem Zr.below {z0 z1 : Value} {g : Nat} {u w' : World} (h : Zr z0 z1 g u) (hw : Below u.heap.size u w') : Zr z0 z1 g w' := carryZr hw h

set_option maxHeartbeats 2000000 in
theorem l20AnySpan_any (rb p : Nat) (w : World) (h : RdAt rb p w) (hp : p < 10000) :
    Calls Try.prog 92 #[.pointer (some ⟨rb, 0, none⟩)] w (SomeSpan rb (p + 4) w) := by
  have hlt := h.lt
  have H := Lib.hid h
  clear h
  go_enter Try.func92, Try.ntmps92
  go_wp2_with fail
  with_reducible refine (l20Span_any rb p _ ?hr (by omega)).mono ?_
  case hr => exact H.out.alloc _
  rintro e w1 ⟨lo, hi, q, hq, hlo, hhi, rfl, hr, ho⟩
  have hne : w.heap.size ≠ rb := Nat.ne_of_gt hlt
  have ZA := (Zr.made _ _ _ w).only ho hne
  have zA := ZA.lt
  have HR := Lib.hid hr
  have HO := Lib.hid (((Only.refl rb w).alloc _).trans ho)
  clear hr ho H
  go_wp2_with fail
  with_reducible refine (pick_any rb q 10 _ ?hr2 (by omega) (by omega) (by omega)).mono ?_
  case hr2 => exact HR.out.alloc _
  rintro e w2 ⟨n, hn0, hn1, rfl, hr, ho⟩
  have hne1 : w1.heap.size ≠ rb := by omega
  have hlt1 : rb < w1.heap.size := by omega
  have ZB := (ZA.below ((Below.refl _ _).alloc (Nat.le_refl _) _)).only ho hne
  have ZC := (Zr.made _ _ _ w1).only ho hne1
  have a0 := ZB.c0; have a1 := ZB.c1; have a2 := ZB.f0; have a3 := ZB.f1; have a4 := ZB.lt
  have b0 := ZC.c0; have b1 := ZC.c1; have b2 := ZC.f0; have b3 := ZC.f1; have b4 := ZC.lt
  have HR2 := Lib.hid hr
  have HO2 := Lib.hid ((HO.out.alloc _).trans ho)
  clear hr ho HR HO
  by_cases hz : n = 0
  · subst hz
    go_wp2_with fail
    with_reducible refine (ofNew_any rb (q + 1) 2 w2 _ _ rfl HR2.out (by omega) ?hs3 ?hL3 (by omega) (by omega)).mono ?_
    case hs3 => rfl
    case hL3 => rfl
    rintro e w3 ⟨s, hs, rfl, hr, ho⟩
    have ZD := ZB.only ho hne
    have ZE := ZC.only ho hne1
    clear a0 a1 a2 a3 a4 b0 b1 b2 b3 b4
    have a0 := ZD.c0; have a1 := ZD.c1; have a2 := ZD.f0; have a3 := ZD.f1; have a4 := ZD.lt
    have b0 := ZE.c0; have b1 := ZE.c1; have b2 := ZE.f0; have b3 := ZE.f1; have b4 := ZE.lt
    have HR3 := Lib.hid hr
    have HO3 := Lib.hid (HO2.out.trans ho)
    clear hr ho HR2 HO2
    go_wp2_with fail
    refine bodyPost_ret (v := .agg #[.string s, .string hi]) (by simp [results, Try.results92, go_sem, a0, a1]) rfl ⟨s, hi, q + 1 + 1, by omega, hs, hhi, rfl, ?_, ?_⟩
    · exact ((HR3.out.setNew (a := ⟨w1.heap.size, 0, none⟩) hlt1 _).setNew (a := ⟨w.heap.size, 0, none⟩) hlt _).setNew (a := ⟨w.heap.size, 1, none⟩) hlt _
    · exact ((HO3.out.setNew (p := ⟨w1.heap.size, 0, none⟩) (Nat.le_of_lt zA) _).setNew (p := ⟨w.heap.size, 0, none⟩) (Nat.le_refl _) _).setNew (p := ⟨w.heap.size, 1, none⟩) (Nat.le_refl _) _
  · have hb : (n == 0) = false := by simpa using hz
    by_cases hz1 : n = 1
    · subst hz1
      go_wp2_with fail
      refine bodyPost_ret (v := .agg #[.string lo, .string lo]) (by simp [results, Try.results92, go_sem, a0, a1]) rfl ⟨lo, lo, q + 1, by omega, hlo, hlo, rfl, ?_, ?_⟩
      · exact ((HR2.out.setNew (a := ⟨w1.heap.size, 1, none⟩) hlt1 _).setNew (a := ⟨w.heap.size, 0, none⟩) hlt _).setNew (a := ⟨w.heap.size, 1, none⟩) hlt _
      · exact ((HO2.out.setNew (p := ⟨w1.heap.size, 1, none⟩) (Nat.le_of_lt zA) _).setNew (p := ⟨w.heap.size, 0, none⟩) (Nat.le_refl _) _).setNew (p := ⟨w.heap.size, 1, none⟩) (Nat.le_refl _) _
    · have hb1 : (n == 1) = false := by simpa using hz1
      go_wp2_with fail
      refine bodyPost_ret (v := .agg #[.string lo, .string hi]) (by simp [results, Try.results92, go_sem, a0, a1]) rfl ⟨lo, hi, q + 1, by omega, hlo, hhi, rfl, ?_, ?_⟩
      · exact (HR2.out.setNew (a := ⟨w.heap.size, 0, none⟩) hlt _).setNew (a := ⟨w.heap.size, 1, none⟩) hlt _
      · exact (HO2.out.setNew (p := ⟨w.heap.size, 0, none⟩) (Nat.le_refl _) _).setNew (p := ⟨w.heap.size, 1, none⟩) (Nat.le_refl _) _

theorem cell_far {u : World} {m g i j : Nat} {x : Value} (hn : m ≠ g) : (u.setCell ⟨g, j, none⟩ x).cell? ⟨m, i, none⟩ = u.cell? ⟨m, i, none⟩ :=
  World.cell?_of_block (w := u) (a := ⟨m, i, none⟩) (Below.heap_setCell u ⟨g, j, none⟩ x m hn)
theorem keep2Set {u : World} {m g : Nat} {x y p q : Value} (hn : m ≠ g) (h : u.cell? ⟨m, 0, none⟩ = some x ∧ u.cell? ⟨m, 1, none⟩ = some y) :
    ((u.setCell ⟨g, 0, none⟩ p).setCell ⟨g, 1, none⟩ q).cell? ⟨m, 0, none⟩ = some x ∧ ((u.setCell ⟨g, 0, none⟩ p).setCell ⟨g, 1, none⟩ q).cell? ⟨m, 1, none⟩ = some y :=
  ⟨by rw [cell_far hn, cell_far hn, h.1], by rw [cell_far hn, cell_far hn, h.2]⟩

def SomeSpanKey (w : World) (e : Ending) (w' : World) : Prop := ∃ lo hi key : ByteArray, lo.size ≤ maxLen ∧ hi.size ≤ maxLen ∧ key.size ≤ maxLen ∧ e = .returned (.tuple #[.agg #[.string lo, .string hi], .string key]) ∧ Below w.heap.size w w'

set_option maxHeartbeats 2000000 in
theorem drawSpanHas_any (a : Option Addr) (len cap : Nat) (w : World) (h : BytesIn w a len cap) :
    Calls Try.prog 32 #[.slice a len cap] w (SomeSpanKey w) := by
  have H := Lib.hid h
  clear h
  go_enter Try.func32, Try.ntmps32
  go_wp2_with fail
  with_reducible refine (l20Open_any a len cap (w.heap.size + 1) _ ?hg ?hb).mono ?_
  case hg => simp
  case hb => exact H.out.alloc _
  rintro e w1 ⟨rfl, hr, hb1⟩
  have hne : w.heap.size ≠ w.heap.size + 1 := by omega
  have ZA := (Zr.made _ _ _ w).below hb1
  have E1 := Lib.hid (((Below.refl w.heap.size w).alloc (Nat.le_refl _) _).trans (hb1.mono (by simp)))
  have zA := ZA.lt
  have HR := Lib.hid hr
  clear hr hb1 H
  go_wp2_with fail
  with_reducible refine (l20AnySpan_any (w.heap.size + 1) 0 w1 HR.out (by omega)).mono ?_
  rintro e w2 ⟨lo, hi, q, hq, hlo, hhi, rfl, hr, ho⟩
  have hr1 := hr.lt
  have hne2 : w2.heap.size ≠ w.heap.size + 1 := by omega
  have hne3 : w2.heap.size ≠ w.heap.size := by omega
  have ZB := ZA.only ho hne
  have E2 := Lib.hid (E1.out.trans (ho.below (B := w.heap.size) (by omega) (by omega)))
  have HR2 := Lib.hid hr
  have zB := ZB.lt
  clear hr ho HR E1 ZA
  go_upto_region 3 with fail
  have s0 : (w2.alloc (.cells #[.string lo, .string hi] 47)).cell? ⟨w2.heap.size, 0, none⟩ = some (.string lo) := by simp
  have s1 : (w2.alloc (.cells #[.string lo, .string hi] 47)).cell? ⟨w2.heap.size, 1, none⟩ = some (.string hi) := by simp
  have ZC := ZB.below ((Below.refl _ w2).alloc (Nat.le_refl _) (.cells #[.string lo, .string hi] 47))
  go_region_held3 (fun u => u.cell? ⟨w2.heap.size, 0, none⟩ = some (.string lo) ∧ u.cell? ⟨w2.heap.size, 1, none⟩ = some (.string hi))
    (first | with_reducible exact ⟨s0, s1⟩ | with_reducible exact ⟨t0, t1⟩ | with_reducible exact keep2Set hne3 ⟨t0, t1⟩ | go_keep)
    (first
      | (go_at_call 72; (with_reducible refine (l20AnyKey_any (w.heap.size + 1) q _ ?hr3 (by omega)).mono ?_); (case hr3 => exact (HR2.out.alloc _).drew); rintro e w3 ⟨key, q2, hq2, hkey, rfl, hr3, ho30⟩; have ho3 := ((Only.refl (w.heap.size + 1) (w2.alloc (.cells #[.string lo, .string hi] 47))).drew).trans ho30; have t0 := (ho3.cell (p := ⟨w2.heap.size, 0, none⟩) (by simp) hne2).trans s0; have t1 := (ho3.cell (p := ⟨w2.heap.size, 1, none⟩) (by simp) hne2).trans s1; have ZD := ZC.only ho3 hne; have a0 := ZD.c0; have a1 := ZD.c1; have a2 := ZD.f0; have a3 := ZD.f1))
  all_goals
    go_wp2_with fail
    refine bodyPost_ret (v := .tuple #[.agg #[.string lo, .string hi], .string key]) (by simp [results, Try.results32, go_sem, a0, a1]) rfl ⟨lo, hi, key, hlo, hhi, hkey, rfl, ?_⟩
    exact (((E2.out.alloc (by omega) _).trans (ho3.below (B := w.heap.size) (by omega) (by simp; omega))).setCell (p := ⟨w.heap.size, 0, none⟩) (Nat.le_refl _) _).setCell (p := ⟨w.heap.size, 1, none⟩) (Nat.le_refl _) _

end Go.Proofs.Ytjijichgoodocaa

/- Drawing a map: what is kept of it while it is drawn. -/
namespace Go.Proofs.Ytjijichgoodocaa
open Go.RowKit

set_option maxHeartbeats 1000000 in
theorem l20Text_any (rb p : Nat) (w : World) (h : RdAt rb p w) (hp : p < 1000000) :
    Calls Try.prog 74 #[.pointer (some ⟨rb, 0, none⟩)] w (SomeStr rb (p + 1) w) := by
  have H := Lib.hid h
  clear h
  go_enter Try.func74, Try.ntmps74
  go_wp2_with fail
  with_reducible refine (ofNew_any rb p 6 w _ _ rfl H.out hp ?hs ?hL (by omega) (by omega)).mono ?_
  case hs => rfl
  case hL => rfl
  rintro e w1 ⟨s, hsz, rfl, hr, ho⟩
  have HR := Lib.hid hr
  have HO := Lib.hid ho
  clear hr ho
  go_wp2_with fail
  go_ret
  exact ⟨s, hsz, rfl, HR.out, HO.out⟩

def intsB (p : Int → Bool) (l : List Value) : Bool := l.all fun v => match v with | .int .i64 s => p s | _ => false
theorem intsB_in {p : Int → Bool} {l : List Value} (h : intsB p l = true) (i : Nat) (hi : i < l.length) : ∃ s : Int, l[i]? = some (.int .i64 s) ∧ p s = true := by
  unfold intsB at h
  rw [List.all_eq_true] at h
  have hm := h l[i] (List.getElem_mem hi)
  have e : l[i]? = some l[i] := List.getElem?_eq_getElem hi
  split at hm
  · rename_i s hs
    exact ⟨s, by rw [e, hs], hm⟩
  · simp at hm
theorem oneB_any (pr : Int → Bool) (rb p L : Nat) (w : World) (g : Nat) (arr : Array Value) (hg : w.heap.size = g) (h : RdAt rb p w) (hp : p < 1000000) (hs : intsB pr arr.toList = true) (hL : arr.size = L) (h1 : 1 ≤ L) (h2 : L ≤ 1000) :
    Calls Try.prog 73 #[.pointer (some ⟨rb, 0, none⟩), .slice (some ⟨g, 0, none⟩) L L] (w.alloc (.cells arr 3)) (SomeInt (fun s => pr s = true) rb (p + 1) w) := by
  subst hg
  have hb : Below w.heap.size w (w.alloc (.cells arr 3)) := (Below.refl _ _).alloc (Nat.le_refl _) _
  refine (one_any (fun s => pr s = true) rb p w.heap.size L _ (h.below hb) hp (by have := h.lt; omega) (by simp) h1 h2 fun i hi => ?_).mono ?_
  · obtain ⟨s, e, hz⟩ := intsB_in hs i (by simpa [hL] using hi)
    refine ⟨s, ?_, hz⟩
    rw [World.cell?_alloc_new]
    simpa using e
  · rintro e w1 ⟨s, hz, rfl, hr, ho⟩
    exact ⟨s, hz, rfl, hr, (Only.of_below hb).trans ho⟩

/-- A map that lies in blocks from lo on, and how great it may be. -/
structure Ml (lo L : Nat) (w : World) (os : List ObjD) (a : Option Addr) (c : Nat) : Prop where
  inn : ObjsIn w a os
  pa : PlainO a os c
  la : Lies lo w.heap.size a
  lo2 : ∀ o ∈ os, Lies lo w.heap.size o.at_
  pl : ∀ o ∈ os, o.plain
  sz : ∀ o ∈ os, 0 < o.vers.length ∧ o.vers.length ≤ L
  fit : ∀ o ∈ os, o.fits
  len : os.length ≤ L
theorem Ml.turned {S : Nat → Prop} {lo L : Nat} {w u : World} {os : List ObjD} {a : Option Addr} {c : Nat} (h : Ml lo L w os a c) (ht : Turned S w u) (hS : ∀ b, S b → b < lo) : Ml lo L u os a c :=
  ⟨h.inn.turned (fun b o e q => by have := (h.la b o e).1; have := hS b q; omega) (fun x hx b o e q => by have := (h.lo2 x hx b o e).1; have := hS b q; omega) ht, h.pa, h.la.mono (Nat.le_refl _) ht.size, fun o ho => (h.lo2 o ho).mono (Nat.le_refl _) ht.size, h.pl, h.sz, h.fit, h.len⟩
theorem Ml.go {rb lo L : Nat} {w u : World} {os : List ObjD} {a : Option Addr} {c : Nat} (h : Ml lo L w os a c) (ho : Only rb w u) (hrb : rb < lo) : Ml lo L u os a c := h.turned ⟨ho.os, ho.tape, ho.output, ho.size, fun k hk hn => ho.block k hk hn⟩ (S := fun b => b = rb) (fun b e => by omega)
theorem Ml.below {lo L : Nat} {w u : World} {os : List ObjD} {a : Option Addr} {c : Nat} (h : Ml lo L w os a c) (hb : Below w.heap.size w u) : Ml lo L u os a c := h.turned (S := fun _ => False) ((Turned.of_below hb).mono (fun _ _ q => q)) (fun b e => e.elim)
theorem Ml.set {lo L : Nat} {w : World} {os : List ObjD} {a : Option Addr} {c : Nat} (h : Ml lo L w os a c) {p : Addr} (hp : p.block < lo) (x : Value) : Ml lo L (w.setCell p x) os a c := h.turned (S := fun b => b = p.block) ((Turned.refl (fun b => b = p.block) w).setCell (p := p) rfl x) (fun b e => by omega)
theorem Ml.more {lo L L' : Nat} {w : World} {os : List ObjD} {a : Option Addr} {c : Nat} (h : Ml lo L w os a c) (hL : L ≤ L') : Ml lo L' w os a c := ⟨h.inn, h.pa, h.la, h.lo2, h.pl, fun o ho => ⟨(h.sz o ho).1, Nat.le_trans (h.sz o ho).2 hL⟩, h.fit, Nat.le_trans h.len hL⟩
theorem Ml.nil (lo : Nat) (w : World) : Ml lo 0 w [] none 0 := ⟨.inl rfl, ⟨.inr ⟨rfl, rfl, rfl⟩, Nat.le_refl _, Nat.zero_le _⟩, (fun b o e => by cases e), (fun o ho => by cases ho), (fun o ho => by cases ho), (fun o ho => by cases ho), (fun o ho => by cases ho), Nat.le_refl _⟩
theorem putObjs_mem {os : List ObjD} {k : Nat} {b : Bool} {x o : ObjD} (h : o ∈ putObjs os k b x) : o ∈ os ∨ o = x := by
  rcases List.mem_append.1 h with h | h
  · exact .inl (List.mem_of_mem_take h)
  · rcases List.mem_cons.1 h with h | h
    · exact .inr h
    · exact .inl (List.mem_of_mem_drop h)
/-- One version put behind all of a key. -/
theorem Ml.put {lo L : Nat} {w w' : World} {os : List ObjD} {a : Option Addr} {c : Nat} {key : ByteArray} {v : VerD} {e : Ending} (h : Ml lo L w os a c) (hlo : lo ≤ w.heap.size) (hk : key.size ≤ maxLen) (hv : v.text.size ≤ maxLen) (hL : L ≤ 1000000) (hp : PutPost os key v w e w') :
    ∃ cs a' c', e = .returned (.agg #[.slice a' cs.length c']) ∧ Ml lo (L + 1) w' cs a' c' ∧ Below w.heap.size w w' := by
  obtain ⟨k, b, x, r, hA, h1, h2, hxk, hxv, rfl, hown, hvi, hf, hl, hty, hpl, hb⟩ := hp
  have h' := h.below hb
  have hlen : (putObjs os k b x).length ≤ os.length + 1 := by
    rw [putObjs_len hA.1, List.length_drop]
    cases b
    · simp; have := hA.1; omega
    · have : k < os.length := by
        by_cases q : k < os.length
        · exact q
        · have := h2 (by omega); cases this
      simp; omega
  have h0 : 0 < (putObjs os k b x).length := by rw [putObjs_len hA.1]; omega
  have hva : ∀ y ∈ versAt os k b, ∃ o ∈ os, y ∈ o.vers := fun y hy => by
    unfold versAt at hy
    cases b
    · simp at hy
    · simp only [if_true] at hy
      split at hy
      · rename_i o ho
        exact ⟨o, List.mem_of_getElem? ho, hy⟩
      · cases hy
  have hvl : (versAt os k b).length ≤ L := by
    unfold versAt
    cases b
    · simp
    · simp only [if_true]
      split
      · rename_i o ho
        exact (h.sz o (List.mem_of_getElem? ho)).2
      · simp
  have hcap := hown.2
  rcases Joins.ownsRow_forms hown with ⟨rfl, h9⟩ | ⟨g, cap, rfl⟩
  · omega
  have hg := hown.lt g rfl
  have hm : ∀ {P : ObjD → Prop}, (∀ o ∈ os, P o) → P x → ∀ o ∈ putObjs os k b x, P o := fun p q o ho => by
    rcases putObjs_mem ho with h | rfl
    · exact p o h
    · exact q
  have hvers : ∀ o ∈ putObjs os k b x, VersIn w' o.at_ o.vers := hm (fun o ho => h'.inn.mem ho) hvi
  refine ⟨putObjs os k b x, some ⟨g, 0, none⟩, cap, rfl, ⟨.inr ⟨g, 0, rfl, hg.2, fun i hi => ?_⟩, ⟨.inl ⟨_, _, rfl⟩, ?_⟩, (fun b' o e => by cases e; exact ⟨by omega, hg.2⟩), hm h'.lo2 (hl.mono hlo (Nat.le_refl _)), hm h'.pl hpl, hm (fun o ho => ⟨(h.sz o ho).1, by have := (h.sz o ho).2; omega⟩) ?_, hm h'.fit ?_, by have := h.len; omega⟩, hb⟩
  · have e0 := hown.cellAt (i * 2) (by omega)
    have e1 := hown.cellAt (i * 2 + 1) (by omega)
    have f0 := flat_at objCells 2 (fun _ => rfl) (putObjs os k b x) i 0 hi (by omega)
    have f1 := flat_at objCells 2 (fun _ => rfl) (putObjs os k b x) i 1 hi (by omega)
    rw [Nat.add_zero] at f0
    simp only [Nat.zero_add]
    exact ⟨e0.trans f0, e1.trans f1, hvers _ (List.getElem_mem hi)⟩
  · rcases hcap with ⟨e, _⟩ | ⟨g', c', cur, e, _, _, q1, q2, _⟩
    · cases e
    · cases e; exact ⟨q1, q2⟩
  · rw [hxv, List.length_append, List.length_singleton]; omega
  · refine ⟨by rw [hxk]; exact hk, by rw [hxv, List.length_append, List.length_singleton]; unfold maxLen; omega, fun y hy => ?_⟩
    rw [hxv] at hy
    rcases List.mem_append.1 hy with hy | hy
    · obtain ⟨o, ho, hyo⟩ := hva y hy
      exact (h.fit o ho).2.2 y hyo
    · rw [List.mem_singleton] at hy; subst hy; exact hv
end Go.Proofs.Ytjijichgoodocaa
