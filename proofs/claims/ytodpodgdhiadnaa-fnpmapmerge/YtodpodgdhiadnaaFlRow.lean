/- Slices of Row: how they lie in memory; their sizes, equality, copies, marks, and what an argument holds. -/
import Derived.Test.YtodpodgdhiadnaaStrsM
import Derived.Test.YtodpodgdhiadnaaOpenMap
import Derived.Deep.RegionHeld3
import Derived.Lib.QuietBelow
namespace Go.Proofs.Ytodpodgdhiadnaa
open Go.RowKit Go.ChangeShapes Go.WideShapes Go.ChangeAt Go.Joins Go.Deep

structure RowD where
  f0 : ByteArray
  f1 : Int
def RowD.size (v : RowD) : Nat := v.f0.size
def RowD.fits (v : RowD) : Prop := v.f0.size ≤ maxLen

/-- A slice, as it reads in u. -/
def RowsIn (u : World) (a : Option Addr) (vs : List RowD) : Prop :=
  vs = [] ∨ ∃ b off, a = some ⟨b, off, none⟩ ∧ b < u.heap.size ∧ ∀ i (h : i < vs.length), u.cell? ⟨b, off + i * 2, none⟩ = some (.string vs[i].f0) ∧ u.cell? ⟨b, off + i * 2 + 1, none⟩ = some (.int .i64 vs[i].f1)
theorem RowsIn.below {u v : World} {a : Option Addr} {vs : List RowD} (h : RowsIn u a vs) (hb : Below u.heap.size u v) : RowsIn v a vs := by
  rcases h with h | ⟨b, off, e, hlt, hc⟩
  · exact .inl h
  · refine .inr ⟨b, off, e, Nat.lt_of_lt_of_le hlt hb.size, fun i hi => ?_⟩
    rw [hb.cell (p := ⟨b, off + i * 2, none⟩) hlt, hb.cell (p := ⟨b, off + i * 2 + 1, none⟩) hlt]
    exact hc i hi
theorem RowsIn.turned {S : Nat → Prop} {u v : World} {a : Option Addr} {vs : List RowD} (h : RowsIn u a vs) (ho : OffS S a) (ht : Turned S u v) : RowsIn v a vs := by
  rcases h with h | ⟨b, off, e, hlt, hc⟩
  · exact .inl h
  · refine .inr ⟨b, off, e, Nat.lt_of_lt_of_le hlt ht.size, fun i hi => ?_⟩
    rw [ht.cell (p := ⟨b, off + i * 2, none⟩) hlt (ho b off e), ht.cell (p := ⟨b, off + i * 2 + 1, none⟩) hlt (ho b off e)]
    exact hc i hi
theorem RowsIn.set {u : World} {b g o : Nat} {x : Value} {vs : List RowD} (h : RowsIn u (some ⟨b, 0, none⟩) vs) (hg : g ≠ b) : RowsIn (u.setCell ⟨g, o, none⟩ x) (some ⟨b, 0, none⟩) vs :=
  h.turned (S := fun k => k = g) (fun b' off e k => hg (by cases e; exact k.symm)) ((Turned.refl (fun k => k = g) u).setCell (p := ⟨g, o, none⟩) rfl x)

def RowTo (vs : List RowD) (k : Nat) : Nat := ((vs.take k).map RowD.size).sum
theorem RowTo_zero (vs : List RowD) : RowTo vs 0 = 0 := by simp [RowTo]
theorem RowTo_succ (vs : List RowD) (k : Nat) (h : k < vs.length) : RowTo vs (k + 1) = RowTo vs k + vs[k].size := by
  unfold RowTo
  rw [List.take_succ_eq_append_getElem h, List.map_append, List.sum_append]
  simp
def RowsSize (vs : List RowD) : Nat := vs.length + RowTo vs vs.length
theorem RowsSize_len (vs : List RowD) : vs.length ≤ RowsSize vs := Nat.le_add_right _ _

theorem infoRow : (Try.prog.info? 102).map (fun i => (i.zero, i.size, i.bytes)) = some (some (.agg #[.string ⟨#[]⟩, .int .i64 0]), 2, 24) := by kernel_rfl
theorem run_makeRow (n : Nat) (hn : n ≤ 1048576) (w : World) :
    (Instr.makeSlice 78 (.int .i64 (n : Int)) (.int .i64 (n : Int))).run Try.prog w = .ok (.slice (some ⟨w.heap.size, 0, none⟩) n n) (w.alloc (.cells (madeCells #[.string ⟨#[]⟩, .int .i64 0] (n * 2)) 102)) := by
  obtain ⟨i, hi, hzz⟩ := Option.map_eq_some_iff.1 infoRow
  simp only [Prod.mk.injEq] at hzz
  obtain ⟨hz, hs, hb⟩ := hzz
  have := run_make (w := w) (P := Try.prog) 78 102 i _ Try.underlying78 hi hz .i64 .i64 (n : Int) (n : Int) (by omega) (Int.le_refl _) (by rw [hb]; omega) (by omega)
  rw [hs] at this
  simpa [Value.cells] using this
/-- The first k have been copied into block g. -/
def RowRow (g : Nat) (vs : List RowD) (k : Nat) (u : World) : Prop :=
  ∀ i (h : i < vs.length), i < k → u.cell? ⟨g, i * 2, none⟩ = some (.string vs[i].f0) ∧ u.cell? ⟨g, i * 2 + 1, none⟩ = some (.int .i64 vs[i].f1)
theorem RowRow.below {g : Nat} {vs : List RowD} {k : Nat} {u v : World} (h : RowRow g vs k u) (hg : g < u.heap.size) (hb : Below u.heap.size u v) : RowRow g vs k v := fun i hi hk => by
  rw [hb.cell (p := ⟨g, i * 2, none⟩) hg, hb.cell (p := ⟨g, i * 2 + 1, none⟩) hg]
  exact h i hi hk
theorem RowRow.step {g : Nat} {vs : List RowD} {k : Nat} {u : World} (h : RowRow g vs k u) (hr : Row g (vs.length * 2) u) (hk : k < vs.length) :
    RowRow g vs (k + 1) ((u.setCell ⟨g, k * 2, none⟩ (.string vs[k].f0)).setCell ⟨g, k * 2 + 1, none⟩ (.int .i64 vs[k].f1)) := by
  intro i hi hik
  by_cases e : i = k
  · subst e
    obtain ⟨v0, h0⟩ := (hr.2 (i * 2) (by omega)).1
    obtain ⟨v1, h1⟩ := (hr.2 (i * 2 + 1) (by omega)).1
    refine ⟨?_, ?_⟩
    · rw [cell_off (by omega)]; exact World.cell?_setCell_same _ _ _ (u := v0) h0
    · exact World.cell?_setCell_same _ _ _ (u := v1) (by rw [cell_off (by omega)]; exact h1)
  · obtain ⟨c0, c1⟩ := h i hi (by omega)
    refine ⟨?_, ?_⟩
    · rw [cell_off (by omega), cell_off (by omega)]; exact c0
    · rw [cell_off (by omega), cell_off (by omega)]; exact c1

def ToRows (vs : List RowD) (w : World) (e : Ending) (w' : World) : Prop :=
  e = .returned (.slice (some ⟨w.heap.size, 0, none⟩) vs.length vs.length) ∧ RowsIn w' (some ⟨w.heap.size, 0, none⟩) vs ∧ Free w' (some ⟨w.heap.size, 0, none⟩) (vs.length * 2) ∧ Below w.heap.size w w' ∧ w.heap.size < w'.heap.size

def Rowmarks (k n : Nat) : List RowD := (List.range n).map fun i => ⟨mtext (k + i * 2), (((k + i * 2 + 1 : Nat)) : Int)⟩
theorem Rowmarks_length (k n : Nat) : (Rowmarks k n).length = n := by simp [Rowmarks]
theorem Rowmarks_at (k n i : Nat) (h : i < (Rowmarks k n).length) : (Rowmarks k n)[i] = ⟨mtext (k + i * 2), (((k + i * 2 + 1 : Nat)) : Int)⟩ := by simp [Rowmarks]

def MarkedRows (S : Nat → Prop) (a : Option Addr) (k n : Nat) (w : World) (e : Ending) (w' : World) : Prop :=
  e = .returned (.int .i64 ((k + n * 2 : Nat) : Int)) ∧ RowsIn w' a (Rowmarks k n) ∧ Free w' a (n * 2) ∧ Turned S w w'
end Go.Proofs.Ytodpodgdhiadnaa
