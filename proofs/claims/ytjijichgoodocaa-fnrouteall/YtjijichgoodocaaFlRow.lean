/- Slices of Known in memory that belongs to a call: where they lie, copies, equality, marks; what appends have made. -/
import Derived.Test.YtjijichgoodocaaLie
import Derived.Test.YtjijichgoodocaaOpenMap
import Derived.Deep.RegionHeld3
import Derived.Lib.QuietBelow
namespace Go.Proofs.Ytjijichgoodocaa
open Go.RowKit

structure KnownsAt (w : World) (lo hi : Nat) (a : Option Addr) (vs : List KnownD) : Prop where
  in1 : KnownsIn w a vs
  fr1 : Free w a (vs.length * 4)
  l1 : Lies lo hi a
  le : hi ≤ w.heap.size
theorem KnownsAt.below {w w' : World} {lo hi : Nat} {a : Option Addr} {vs : List KnownD} (h : KnownsAt w lo hi a vs) (hb : Below w.heap.size w w') : KnownsAt w' lo hi a vs := ⟨h.in1.below hb, h.fr1.below hb, h.l1, Nat.le_trans h.le hb.size⟩
theorem KnownsAt.turned {S : Nat → Prop} {w w' : World} {lo hi : Nat} {a : Option Addr} {vs : List KnownD} (h : KnownsAt w lo hi a vs) (hS : ∀ b, lo ≤ b → b < hi → ¬ S b) (ht : Turned S w w') : KnownsAt w' lo hi a vs :=
  ⟨h.in1.turned (h.l1.off hS) ht, h.fr1.turned (h.l1.off hS) ht, h.l1, Nat.le_trans h.le ht.size⟩
theorem KnownsAt.drewAt {w : World} {lo hi : Nat} {a : Option Addr} {vs : List KnownD} (h : KnownsAt w lo hi a vs) : KnownsAt w.drew lo hi a vs := ⟨h.in1, h.fr1, h.l1, h.le⟩
theorem KnownsAt.nil (w : World) : KnownsAt w w.heap.size w.heap.size none [] := ⟨.inl rfl, .inl rfl, (fun b off e => by cases e), Nat.le_refl _⟩
theorem KnownsAt.lower {w : World} {lo lo' hi : Nat} {a : Option Addr} {vs : List KnownD} (h : KnownsAt w lo hi a vs) (hl : lo' ≤ lo) : KnownsAt w lo' w.heap.size a vs := ⟨h.in1, h.fr1, h.l1.mono hl h.le, Nat.le_refl _⟩

def KnownsOut (vs : List KnownD) (w : World) (e : Ending) (w' : World) : Prop :=
  ∃ a c, e = .returned (.slice a vs.length c) ∧ KnownsAt w' w.heap.size w'.heap.size a vs ∧ Below w.heap.size w w'
/-- .. beside a bool. -/
def KnownsOutB (vs : List KnownD) (b : Bool) (w : World) (e : Ending) (w' : World) : Prop :=
  ∃ a c, e = .returned (.tuple #[.slice a vs.length c, .bool b]) ∧ KnownsAt w' w.heap.size w'.heap.size a vs ∧ Below w.heap.size w w'

def KnownsMk (lo hi : Nat) (a : Option Addr) (k n : Nat) (w : World) (e : Ending) (w' : World) : Prop :=
  e = .returned (.int .i64 ((k + n * 4 : Nat) : Int)) ∧ KnownsAt w' lo hi a (Knownmarks k n) ∧ Turned (fun b => lo ≤ b ∧ b < hi) w w'

def knownCells (v : KnownD) : List Value := [.string v.f0, .string v.f1, .int .i64 v.f2, .int .i64 v.f3]
theorem own_knowns {w : World} {base : Nat} {v : Value} {vs : List KnownD} (h : w.ownsRow base 84 4 v vs.length (vs.flatMap knownCells)) :
    ∃ a cap, v = .slice a vs.length cap ∧ KnownsAt w base w.heap.size a vs := by
  rcases Joins.ownsRow_forms h with ⟨rfl, h0⟩ | ⟨g, cap, rfl⟩
  · have : vs = [] := List.eq_nil_of_length_eq_zero h0
    subst this
    exact ⟨none, 0, rfl, .inl rfl, .inl rfl, (fun b off e => by cases e), Nat.le_refl _⟩
  · have hg := h.lt g rfl
    refine ⟨some ⟨g, 0, none⟩, cap, rfl, .inr ⟨g, 0, rfl, hg.2, fun i hi => ?_⟩, own_free h, (fun b off e => by cases e; exact hg), Nat.le_refl _⟩
    have e0 := h.cellAt (i * 4) (by omega)
    have e1 := h.cellAt (i * 4 + 1) (by omega)
    have e2 := h.cellAt (i * 4 + 2) (by omega)
    have e3 := h.cellAt (i * 4 + 3) (by omega)
    have f0 := flat_at knownCells 4 (fun _ => rfl) vs i 0 hi (by omega)
    have f1 := flat_at knownCells 4 (fun _ => rfl) vs i 1 hi (by omega)
    have f2 := flat_at knownCells 4 (fun _ => rfl) vs i 2 hi (by omega)
    have f3 := flat_at knownCells 4 (fun _ => rfl) vs i 3 hi (by omega)
    rw [Nat.add_zero] at f0
    simp only [Nat.zero_add]
    exact ⟨e0.trans f0, e1.trans f1, e2.trans f2, e3.trans f3⟩
theorem knowns_len (vs : List KnownD) : (vs.flatMap knownCells).length = vs.length * 4 := flat_len knownCells 4 (fun _ => rfl) vs
theorem knowns_one (vs : List KnownD) : ∀ u ∈ vs.flatMap knownCells, u.oneCell' = true := fun u hu => by
  obtain ⟨v, _, h⟩ := List.mem_flatMap.1 hu
  simp [knownCells] at h
  rcases h with rfl | rfl | rfl | rfl <;> rfl
theorem known_one (v : KnownD) : ∀ u ∈ knownCells v, u.oneCell' = true := fun u hu => by
  simp [knownCells] at hu
  rcases hu with rfl | rfl | rfl | rfl <;> rfl
theorem newsKnown (w : World) (v : KnownD) (ty : TypeId) (g : Nat) (hg : w.heap.size = g) : ∀ j u, (knownCells v)[j]? = some u → (w.alloc (.cells #[.string v.f0, .string v.f1, .int .i64 v.f2, .int .i64 v.f3] ty)).cell? ((⟨g, 0, none⟩ : Addr).add j) = some u := by
  subst hg
  exact World.news_of_block (heap_alloc_new w _)
theorem empty_knowns {u : World} {B g : Nat} (h : u.heap[g]? = some (.cells #[] 84 (0, 0))) (hb : B ≤ g) : u.ownsRow B 84 4 (.slice (some ⟨g, 0, none⟩) 0 0) 0 [] :=
  ⟨by simp, .inr ⟨g, 0, #[], rfl, hb, h, Nat.le_refl _, Nat.zero_le _, by simp, by simp⟩⟩
/-- The cells of a slice, as an append takes them. -/
theorem knowns_news {w : World} {b off : Nat} {vs : List KnownD} (hc : ∀ i (h : i < vs.length), w.cell? ⟨b, off + i * 4, none⟩ = some (.string vs[i].f0) ∧ w.cell? ⟨b, off + i * 4 + 1, none⟩ = some (.string vs[i].f1) ∧ w.cell? ⟨b, off + i * 4 + 2, none⟩ = some (.int .i64 vs[i].f2) ∧ w.cell? ⟨b, off + i * 4 + 3, none⟩ = some (.int .i64 vs[i].f3)) :
    ∀ j u, (vs.flatMap knownCells)[j]? = some u → w.cell? ((⟨b, off, none⟩ : Addr).add j) = some u := fun j u hu => by
  have hadd : (⟨b, off, none⟩ : Addr).add j = ⟨b, off + j, none⟩ := by unfold Addr.add; split <;> simp_all
  have hl := knowns_len vs
  have hj : j < vs.length * 4 := by
    rcases Nat.lt_or_ge j (vs.length * 4) with h | h
    · exact h
    · rw [List.getElem?_eq_none (by omega)] at hu; cases hu
  have hi : j / 4 < vs.length := by omega
  rw [hadd]
  have hat := flat_at knownCells 4 (fun _ => rfl) vs (j / 4) (j % 4) hi (by omega)
  rw [show j / 4 * 4 + j % 4 = j by omega, hu] at hat
  have hm : j % 4 = 0 ∨ j % 4 = 1 ∨ j % 4 = 2 ∨ j % 4 = 3 := by omega
  rcases hm with h0 | h0 | h0 | h0
  · rw [h0] at hat
    have := (hc (j / 4) hi).1
    rw [show off + j / 4 * 4 = off + j by omega] at this
    rw [this]; simpa [knownCells] using hat.symm
  · rw [h0] at hat
    have := (hc (j / 4) hi).2.1
    rw [show off + j / 4 * 4 + 1 = off + j by omega] at this
    rw [this]; simpa [knownCells] using hat.symm
  · rw [h0] at hat
    have := (hc (j / 4) hi).2.2.1
    rw [show off + j / 4 * 4 + 2 = off + j by omega] at this
    rw [this]; simpa [knownCells] using hat.symm
  · rw [h0] at hat
    have := (hc (j / 4) hi).2.2.2
    rw [show off + j / 4 * 4 + 3 = off + j by omega] at this
    rw [this]; simpa [knownCells] using hat.symm
end Go.Proofs.Ytjijichgoodocaa

/- Slices of Row: how they lie in memory; their sizes, equality, copies, marks, and what an argument holds. -/
namespace Go.Proofs.Ytjijichgoodocaa
open Go.RowKit Go.ChangeShapes Go.WideShapes Go.ChangeAt Go.Joins Go.Deep

structure RowD where
  f0 : ByteArray
  f1 : Int
def RowD.size (v : RowD) : Nat := v.f0.size
def RowD.fits (v : RowD) : Prop := v.f0.size ≤ maxLen

/-- A slice, as it reads in u. -/
def RowsIn (u : World) (a : Option Addr) (vs : List RowD) : Prop :=
  vs = [] ∨ ∃ b off, a = some ⟨b, off, none⟩ ∧ b < u.heap.size ∧ ∀ i (h : i < vs.length), u.cell? ⟨b, off + i * 2, none⟩ = some (.string vs[i].f0) ∧ u.cell? ⟨b, off + i * 2 + 1, none⟩ = some (.int .i64 vs[i].f1)
theorem RowsIn.below {u v : World} {a : Option Addr} {vs : List RowD} (h : RowsIn u a vs) (hb : Below u.heap.size u v) : RowsIn v a vs := by
  rcases h with h | ⟨b, off, e, hlt, hc⟩
  · exact .inl h
  · refine .inr ⟨b, off, e, Nat.lt_of_lt_of_le hlt hb.size, fun i hi => ?_⟩
    rw [hb.cell (p := ⟨b, off + i * 2, none⟩) hlt, hb.cell (p := ⟨b, off + i * 2 + 1, none⟩) hlt]
    exact hc i hi
theorem RowsIn.turned {S : Nat → Prop} {u v : World} {a : Option Addr} {vs : List RowD} (h : RowsIn u a vs) (ho : OffS S a) (ht : Turned S u v) : RowsIn v a vs := by
  rcases h with h | ⟨b, off, e, hlt, hc⟩
  · exact .inl h
  · refine .inr ⟨b, off, e, Nat.lt_of_lt_of_le hlt ht.size, fun i hi => ?_⟩
    rw [ht.cell (p := ⟨b, off + i * 2, none⟩) hlt (ho b off e), ht.cell (p := ⟨b, off + i * 2 + 1, none⟩) hlt (ho b off e)]
    exact hc i hi
theorem RowsIn.set {u : World} {b g o : Nat} {x : Value} {vs : List RowD} (h : RowsIn u (some ⟨b, 0, none⟩) vs) (hg : g ≠ b) : RowsIn (u.setCell ⟨g, o, none⟩ x) (some ⟨b, 0, none⟩) vs :=
  h.turned (S := fun k => k = g) (fun b' off e k => hg (by cases e; exact k.symm)) ((Turned.refl (fun k => k = g) u).setCell (p := ⟨g, o, none⟩) rfl x)

def RowTo (vs : List RowD) (k : Nat) : Nat := ((vs.take k).map RowD.size).sum
theorem RowTo_zero (vs : List RowD) : RowTo vs 0 = 0 := by simp [RowTo]
theorem RowTo_succ (vs : List RowD) (k : Nat) (h : k < vs.length) : RowTo vs (k + 1) = RowTo vs k + vs[k].size := by
  unfold RowTo
  rw [List.take_succ_eq_append_getElem h, List.map_append, List.sum_append]
  simp
def RowsSize (vs : List RowD) : Nat := vs.length + RowTo vs vs.length
theorem RowsSize_len (vs : List RowD) : vs.length ≤ RowsSize vs := Nat.le_add_right _ _

theorem infoRow : (Try.prog.info? 98).map (fun i => (i.zero, i.size, i.bytes)) = some (some (.agg #[.string ⟨#[]⟩, .int .i64 0]), 2, 24) := by kernel_rfl
theorem run_makeRow (n : Nat) (hn : n ≤ 1048576) (w : World) :
    (Instr.makeSlice 88 (.int .i64 (n : Int)) (.int .i64 (n : Int))).run Try.prog w = .ok (.slice (some ⟨w.heap.size, 0, none⟩) n n) (w.alloc (.cells (madeCells #[.string ⟨#[]⟩, .int .i64 0] (n * 2)) 98)) := by
  obtain ⟨i, hi, hzz⟩ := Option.map_eq_some_iff.1 infoRow
  simp only [Prod.mk.injEq] at hzz
  obtain ⟨hz, hs, hb⟩ := hzz
  have := run_make (w := w) (P := Try.prog) 88 98 i _ Try.underlying88 hi hz .i64 .i64 (n : Int) (n : Int) (by omega) (Int.le_refl _) (by rw [hb]; omega) (by omega)
  rw [hs] at this
  simpa [Value.cells] using this
/-- The first k have been copied into block g. -/
def RowRow (g : Nat) (vs : List RowD) (k : Nat) (u : World) : Prop :=
  ∀ i (h : i < vs.length), i < k → u.cell? ⟨g, i * 2, none⟩ = some (.string vs[i].f0) ∧ u.cell? ⟨g, i * 2 + 1, none⟩ = some (.int .i64 vs[i].f1)
theorem RowRow.below {g : Nat} {vs : List RowD} {k : Nat} {u v : World} (h : RowRow g vs k u) (hg : g < u.heap.size) (hb : Below u.heap.size u v) : RowRow g vs k v := fun i hi hk => by
  rw [hb.cell (p := ⟨g, i * 2, none⟩) hg, hb.cell (p := ⟨g, i * 2 + 1, none⟩) hg]
  exact h i hi hk
theorem RowRow.step {g : Nat} {vs : List RowD} {k : Nat} {u : World} (h : RowRow g vs k u) (hr : Row g (vs.length * 2) u) (hk : k < vs.length) :
    RowRow g vs (k + 1) ((u.setCell ⟨g, k * 2, none⟩ (.string vs[k].f0)).setCell ⟨g, k * 2 + 1, none⟩ (.int .i64 vs[k].f1)) := by
  intro i hi hik
  by_cases e : i = k
  · subst e
    obtain ⟨v0, h0⟩ := (hr.2 (i * 2) (by omega)).1
    obtain ⟨v1, h1⟩ := (hr.2 (i * 2 + 1) (by omega)).1
    refine ⟨?_, ?_⟩
    · rw [cell_off (by omega)]; exact World.cell?_setCell_same _ _ _ (u := v0) h0
    · exact World.cell?_setCell_same _ _ _ (u := v1) (by rw [cell_off (by omega)]; exact h1)
  · obtain ⟨c0, c1⟩ := h i hi (by omega)
    refine ⟨?_, ?_⟩
    · rw [cell_off (by omega), cell_off (by omega)]; exact c0
    · rw [cell_off (by omega), cell_off (by omega)]; exact c1

def ToRows (vs : List RowD) (w : World) (e : Ending) (w' : World) : Prop :=
  e = .returned (.slice (some ⟨w.heap.size, 0, none⟩) vs.length vs.length) ∧ RowsIn w' (some ⟨w.heap.size, 0, none⟩) vs ∧ Free w' (some ⟨w.heap.size, 0, none⟩) (vs.length * 2) ∧ Below w.heap.size w w' ∧ w.heap.size < w'.heap.size

def Rowmarks (k n : Nat) : List RowD := (List.range n).map fun i => ⟨mtext (k + i * 2), (((k + i * 2 + 1 : Nat)) : Int)⟩
theorem Rowmarks_length (k n : Nat) : (Rowmarks k n).length = n := by simp [Rowmarks]
theorem Rowmarks_at (k n i : Nat) (h : i < (Rowmarks k n).length) : (Rowmarks k n)[i] = ⟨mtext (k + i * 2), (((k + i * 2 + 1 : Nat)) : Int)⟩ := by simp [Rowmarks]

def MarkedRows (S : Nat → Prop) (a : Option Addr) (k n : Nat) (w : World) (e : Ending) (w' : World) : Prop :=
  e = .returned (.int .i64 ((k + n * 2 : Nat) : Int)) ∧ RowsIn w' a (Rowmarks k n) ∧ Free w' a (n * 2) ∧ Turned S w w'
end Go.Proofs.Ytjijichgoodocaa
