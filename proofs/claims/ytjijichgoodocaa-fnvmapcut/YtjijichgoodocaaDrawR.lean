/- Drawing any map of parts. -/
import Derived.Test.YtjijichgoodocaaDrawQ
namespace Go.Proofs.Ytjijichgoodocaa
open Go.RowKit

def Small (s : Int) : Prop := -10000 ≤ s ∧ s ≤ 10000
def intsOk (l : List Value) : Bool := l.all fun v => match v with | .int .i64 s => decide (-10000 ≤ s) && decide (s ≤ 10000) | _ => false
theorem ints_in {l : List Value} (h : intsOk l = true) (i : Nat) (hi : i < l.length) : ∃ s : Int, l[i]? = some (.int .i64 s) ∧ Small s := by
  unfold intsOk at h
  rw [List.all_eq_true] at h
  have hm := h l[i] (List.getElem_mem hi)
  have e : l[i]? = some l[i] := List.getElem?_eq_getElem hi
  split at hm
  · rename_i s hs
    refine ⟨s, by rw [e, hs], ?_⟩
    simp at hm; exact hm
  · simp at hm
theorem oneNew_any (rb p L : Nat) (w : World) (g : Nat) (arr : Array Value) (hg : w.heap.size = g) (h : RdAt rb p w) (hp : p < 1000000) (hs : intsOk arr.toList = true) (hL : arr.size = L) (h1 : 1 ≤ L) (h2 : L ≤ 1000) :
    Calls Try.prog 73 #[.pointer (some ⟨rb, 0, none⟩), .slice (some ⟨g, 0, none⟩) L L] (w.alloc (.cells arr 3)) (SomeInt Small rb (p + 1) w) := by
  subst hg
  have hb : Below w.heap.size w (w.alloc (.cells arr 3)) := (Below.refl _ _).alloc (Nat.le_refl _) _
  refine (one_any Small rb p w.heap.size L _ (h.below hb) hp (by have := h.lt; omega) (by simp) h1 h2 fun i hi => ?_).mono ?_
  · obtain ⟨s, e, hz⟩ := ints_in hs i (by simpa [hL] using hi)
    refine ⟨s, ?_, hz⟩
    rw [World.cell?_alloc_new]
    simpa using e
  · rintro e w1 ⟨s, hz, rfl, hr, ho⟩
    exact ⟨s, hz, rfl, hr, (Only.of_below hb).trans ho⟩
/-- The list was laid ahead of another draw. -/
theorem oneOld_any (rb p L : Nat) (v w : World) (g : Nat) (arr : Array Value) (hg : v.heap.size = g) (ho : Only rb (v.alloc (.cells arr 3)) w) (hrb : rb < v.heap.size) (h : RdAt rb p w) (hp : p < 1000000) (hs : intsOk arr.toList = true) (hL : arr.size = L) (h1 : 1 ≤ L) (h2 : L ≤ 1000) :
    Calls Try.prog 73 #[.pointer (some ⟨rb, 0, none⟩), .slice (some ⟨g, 0, none⟩) L L] w (SomeInt Small rb (p + 1) w) := by
  subst hg
  refine one_any Small rb p v.heap.size L _ h hp (by omega) (by have := ho.size; simp at this; omega) h1 h2 fun i hi => ?_
  obtain ⟨s, e, hz⟩ := ints_in hs i (by simpa [hL] using hi)
  refine ⟨s, ?_, hz⟩
  rw [ho.cell (p := ⟨v.heap.size, i, none⟩) (by simp) (by show v.heap.size ≠ rb; omega), World.cell?_alloc_new]
  simpa using e
theorem ofOld_any (rb p L : Nat) (v w : World) (g : Nat) (arr : Array Value) (hg : v.heap.size = g) (ho : Only rb (v.alloc (.cells arr 9)) w) (hrb : rb < v.heap.size) (h : RdAt rb p w) (hp : p < 1000000) (hs : strsOk arr.toList = true) (hL : arr.size = L) (h1 : 1 ≤ L) (h2 : L ≤ 1000) :
    Calls Try.prog 132 #[.pointer (some ⟨rb, 0, none⟩), .slice (some ⟨g, 0, none⟩) L L] w (SomeStr rb (p + 1) w) := by
  subst hg
  refine of_any rb p v.heap.size L _ h hp (by omega) (by have := ho.size; simp at this; omega) h1 h2 fun i hi => ?_
  obtain ⟨s, e, hz⟩ := strs_at hs i (by simpa [hL] using hi)
  refine ⟨s, ?_, hz⟩
  rw [ho.cell (p := ⟨v.heap.size, i, none⟩) (by simp) (by show v.heap.size ≠ rb; omega), World.cell?_alloc_new]
  simpa using e

/-- Rows that lie in a block of their own, where they may be written. -/
structure Dm (rb : Nat) (w : World) (b off : Nat) (vs : List RowD) : Prop where
  cells : ∀ i (h : i < vs.length), w.cell? ⟨b, off + i * 2, none⟩ = some (.string vs[i].f0) ∧ w.cell? ⟨b, off + i * 2 + 1, none⟩ = some (.int .i64 vs[i].f1)
  free : ∀ i, i < vs.length → w.frozen? ⟨b, off + i * 2, none⟩ = false ∧ w.frozen? ⟨b, off + i * 2 + 1, none⟩ = false
  lt : b < w.heap.size
  ne : b ≠ rb
theorem Dm.go {rb b off : Nat} {w u : World} {vs : List RowD} (h : Dm rb w b off vs) (ho : Only rb w u) : Dm rb u b off vs :=
  ⟨fun i hi => ⟨(ho.cell (p := ⟨b, off + i * 2, none⟩) h.lt h.ne).trans (h.cells i hi).1, (ho.cell (p := ⟨b, off + i * 2 + 1, none⟩) h.lt h.ne).trans (h.cells i hi).2⟩,
    fun i hi => ⟨(ho.frozen (p := ⟨b, off + i * 2, none⟩) h.lt h.ne).trans (h.free i hi).1, (ho.frozen (p := ⟨b, off + i * 2 + 1, none⟩) h.lt h.ne).trans (h.free i hi).2⟩, Nat.lt_of_lt_of_le h.lt ho.size, h.ne⟩
theorem Dm.rows {rb b off : Nat} {w : World} {vs : List RowD} (h : Dm rb w b off vs) : RowsIn w (some ⟨b, off, none⟩) vs := .inr ⟨b, off, rfl, h.lt, h.cells⟩
theorem Dm.mk_ {rb : Nat} {w : World} {a : Option Addr} {vs : List RowD} (hi : RowsIn w a vs) (hf : Free w a (vs.length * 2)) (hn : 0 < vs.length) (hl : ∀ b o, a = some ⟨b, o, none⟩ → b ≠ rb) : ∃ b off, a = some ⟨b, off, none⟩ ∧ Dm rb w b off vs := by
  rcases hi with rfl | ⟨b, off, rfl, hb, hc⟩
  · simp at hn
  · refine ⟨b, off, rfl, hc, fun i h => ?_, hb, hl b off rfl⟩
    rcases hf with h0 | ⟨b', off', e, _, hq⟩
    · omega
    · cases e
      exact ⟨(hq (i * 2) (by omega)).2, by have := (hq (i * 2 + 1) (by omega)).2; rwa [← Nat.add_assoc] at this⟩
theorem cell_offR {u : World} {g o o' : Nat} {x : Value} (h : o ≠ o') : (u.setCell ⟨g, o, none⟩ x).cell? ⟨g, o', none⟩ = u.cell? ⟨g, o', none⟩ :=
  World.cell?_setCell_other _ _ _ _ (fun e => h (congrArg Addr.off e))
theorem Dm.set1 {rb b off k : Nat} {w : World} {vs : List RowD} (h : Dm rb w b off vs) (hk : k < vs.length) (x : Int) : RowsIn (w.setCell ⟨b, off + k * 2 + 1, none⟩ (.int .i64 x)) (some ⟨b, off, none⟩) (vs.set k ⟨vs[k].f0, x⟩) := by
  refine .inr ⟨b, off, rfl, by simpa using h.lt, fun i hi => ?_⟩
  rw [List.length_set] at hi
  obtain ⟨c0, c1⟩ := h.cells i hi
  rw [List.getElem_set]
  refine ⟨?_, ?_⟩
  · rw [cell_offR (by omega), c0]; split
    · rename_i e; subst e; rfl
    · rfl
  · split
    · rename_i e; subst e; exact World.cell?_setCell_same _ _ _ c1
    · rw [cell_offR (by omega), c1]
theorem Dm.set0 {rb b off k : Nat} {w : World} {vs : List RowD} (h : Dm rb w b off vs) (hk : k < vs.length) (s : ByteArray) : RowsIn (w.setCell ⟨b, off + k * 2, none⟩ (.string s)) (some ⟨b, off, none⟩) (vs.set k ⟨s, vs[k].f1⟩) := by
  refine .inr ⟨b, off, rfl, by simpa using h.lt, fun i hi => ?_⟩
  rw [List.length_set] at hi
  obtain ⟨c0, c1⟩ := h.cells i hi
  rw [List.getElem_set]
  refine ⟨?_, ?_⟩
  · split
    · rename_i e; subst e; exact World.cell?_setCell_same _ _ _ c0
    · rw [cell_offR (by omega), c0]
  · rw [cell_offR (by omega), c1]; split
    · rename_i e; subst e; rfl
    · rfl
theorem RowsIn.setNew {w : World} {a : Option Addr} {vs : List RowD} (h : RowsIn w a vs) {p : Addr} (x : Value) (hp : ∀ b o, a = some ⟨b, o, none⟩ → b ≠ p.block) : RowsIn (w.setCell p x) a vs :=
  h.turned (S := fun k => k = p.block) (fun b o e k => hp b o e k) ((Turned.refl (fun k => k = p.block) w).setCell (p := p) rfl x)
theorem fits_set {vs : List RowD} {k : Nat} {v : RowD} (h : ∀ v ∈ vs, v.fits) (hv : v.f0.size ≤ maxLen) : ∀ x ∈ vs.set k v, x.fits := fun x hx => by
  rcases List.mem_or_eq_of_mem_set hx with h1 | rfl
  · exact h x h1
  · exact hv

theorem keepC_only {rb n : Nat} {x : Value} {u v : World} (ho : Only rb u v) (hne : n ≠ rb) (h : u.cell? ⟨n, 1, none⟩ = some x ∧ n < u.heap.size) : v.cell? ⟨n, 1, none⟩ = some x ∧ n < v.heap.size := ⟨(ho.cell (p := ⟨n, 1, none⟩) h.2 hne).trans h.1, Nat.lt_of_lt_of_le h.2 ho.size⟩
theorem keepC_alloc {n : Nat} {x : Value} {u : World} {o : Obj} (h : u.cell? ⟨n, 1, none⟩ = some x ∧ n < u.heap.size) : (u.alloc o).cell? ⟨n, 1, none⟩ = some x ∧ n < (u.alloc o).heap.size :=
  have hb : Below u.heap.size u (u.alloc o) := (Below.refl _ _).alloc (Nat.le_refl _) _
  ⟨(hb.cell (p := ⟨n, 1, none⟩) h.2).trans h.1, Nat.lt_of_lt_of_le h.2 hb.size⟩
theorem keepC_set {n b o : Nat} {x y : Value} {u : World} (hb : b ≠ n) (h : u.cell? ⟨n, 1, none⟩ = some x ∧ n < u.heap.size) : (u.setCell ⟨b, o, none⟩ y).cell? ⟨n, 1, none⟩ = some x ∧ n < (u.setCell ⟨b, o, none⟩ y).heap.size :=
  ⟨(World.cell?_of_block (w := u) (a := ⟨n, 1, none⟩) (Below.heap_setCell u ⟨b, o, none⟩ y n (fun e => hb e.symm))).trans h.1, by simpa using h.2⟩
theorem keepC_drew {n : Nat} {x : Value} {u : World} (h : u.cell? ⟨n, 1, none⟩ = some x ∧ n < u.heap.size) : u.drew.cell? ⟨n, 1, none⟩ = some x ∧ n < u.drew.heap.size := h

def SomePmA (rb p : Nat) (w : World) (e : Ending) (w' : World) : Prop := ∃ (ep : Int) (vs : List RowD) (a : Option Addr) (c q : Nat), q ≤ p ∧ 0 < vs.length ∧ vs.length ≤ 5 ∧ e = .returned (.agg #[.int .i64 ep, .slice a vs.length c]) ∧ RowsIn w' a vs ∧ (∀ v ∈ vs, v.fits) ∧ vs.length ≤ c ∧ c ≤ maxLen ∧ (∀ b o, a = some ⟨b, o, none⟩ → w.heap.size ≤ b) ∧ RdAt rb q w' ∧ Only rb w w'
theorem SomePmA.mk_ {rb p q b off c : Nat} {w w' : World} {ep : Int} {vs : List RowD} (hq : q ≤ p) (h0 : 0 < vs.length) (h5 : vs.length ≤ 5) (hi : RowsIn w' (some ⟨b, off, none⟩) vs) (hf : ∀ v ∈ vs, v.fits) (h1 : vs.length ≤ c) (h2 : c ≤ maxLen) (hb : w.heap.size ≤ b) (hr : RdAt rb q w') (ho : Only rb w w') {n : Nat} (hn : vs.length = n) : SomePmA rb p w (.returned (.agg #[.int .i64 ep, .slice (some ⟨b, off, none⟩) n c])) w' :=
  ⟨ep, vs, _, c, q, hq, h0, h5, by rw [hn], hi, hf, h1, h2, fun b' o e => by cases e; exact hb, hr, ho⟩
end Go.Proofs.Ytjijichgoodocaa
