/- Slices of Row: how they lie in memory; their sizes, equality, copies, marks, and what an argument holds. -/
import Derived.Test.YtjijichgoodocaaFlVer
import Derived.Test.YtjijichgoodocaaOpenMap
import Derived.Deep.RegionHeld3
import Derived.Lib.QuietBelow
namespace Go.Proofs.Ytjijichgoodocaa
open Go.RowKit Go.ChangeShapes Go.WideShapes Go.ChangeAt Go.Joins Go.Deep

structure RowD where
  f0 : ByteArray
  f1 : Int
def RowD.size (v : RowD) : Nat := v.f0.size
def RowD.fits (v : RowD) : Prop := v.f0.size ≤ maxLen

/-- A slice, as it reads in u. -/
def RowsIn (u : World) (a : Option Addr) (vs : List RowD) : Prop :=
  vs = [] ∨ ∃ b off, a = some ⟨b, off, none⟩ ∧ b < u.heap.size ∧ ∀ i (h : i < vs.length), u.cell? ⟨b, off + i * 2, none⟩ = some (.string vs[i].f0) ∧ u.cell? ⟨b, off + i * 2 + 1, none⟩ = some (.int .i64 vs[i].f1)
theorem RowsIn.below {u v : World} {a : Option Addr} {vs : List RowD} (h : RowsIn u a vs) (hb : Below u.heap.size u v) : RowsIn v a vs := by
  rcases h with h | ⟨b, off, e, hlt, hc⟩
  · exact .inl h
  · refine .inr ⟨b, off, e, Nat.lt_of_lt_of_le hlt hb.size, fun i hi => ?_⟩
    rw [hb.cell (p := ⟨b, off + i * 2, none⟩) hlt, hb.cell (p := ⟨b, off + i * 2 + 1, none⟩) hlt]
    exact hc i hi
theorem RowsIn.turned {S : Nat → Prop} {u v : World} {a : Option Addr} {vs : List RowD} (h : RowsIn u a vs) (ho : OffS S a) (ht : Turned S u v) : RowsIn v a vs := by
  rcases h with h | ⟨b, off, e, hlt, hc⟩
  · exact .inl h
  · refine .inr ⟨b, off, e, Nat.lt_of_lt_of_le hlt ht.size, fun i hi => ?_⟩
    rw [ht.cell (p := ⟨b, off + i * 2, none⟩) hlt (ho b off e), ht.cell (p := ⟨b, off + i * 2 + 1, none⟩) hlt (ho b off e)]
    exact hc i hi
theorem RowsIn.set {u : World} {b g o : Nat} {x : Value} {vs : List RowD} (h : RowsIn u (some ⟨b, 0, none⟩) vs) (hg : g ≠ b) : RowsIn (u.setCell ⟨g, o, none⟩ x) (some ⟨b, 0, none⟩) vs :=
  h.turned (S := fun k => k = g) (fun b' off e k => hg (by cases e; exact k.symm)) ((Turned.refl (fun k => k = g) u).setCell (p := ⟨g, o, none⟩) rfl x)

def RowTo (vs : List RowD) (k : Nat) : Nat := ((vs.take k).map RowD.size).sum
theorem RowTo_zero (vs : List RowD) : RowTo vs 0 = 0 := by simp [RowTo]
theorem RowTo_succ (vs : List RowD) (k : Nat) (h : k < vs.length) : RowTo vs (k + 1) = RowTo vs k + vs[k].size := by
  unfold RowTo
  rw [List.take_succ_eq_append_getElem h, List.map_append, List.sum_append]
  simp
def RowsSize (vs : List RowD) : Nat := vs.length + RowTo vs vs.length
theorem RowsSize_len (vs : List RowD) : vs.length ≤ RowsSize vs := Nat.le_add_right _ _

theorem infoRow : (Try.prog.info? 98).map (fun i => (i.zero, i.size, i.bytes)) = some (some (.agg #[.string ⟨#[]⟩, .int .i64 0]), 2, 24) := by kernel_rfl
theorem run_makeRow (n : Nat) (hn : n ≤ 1048576) (w : World) :
    (Instr.makeSlice 88 (.int .i64 (n : Int)) (.int .i64 (n : Int))).run Try.prog w = .ok (.slice (some ⟨w.heap.size, 0, none⟩) n n) (w.alloc (.cells (madeCells #[.string ⟨#[]⟩, .int .i64 0] (n * 2)) 98)) := by
  obtain ⟨i, hi, hzz⟩ := Option.map_eq_some_iff.1 infoRow
  simp only [Prod.mk.injEq] at hzz
  obtain ⟨hz, hs, hb⟩ := hzz
  have := run_make (w := w) (P := Try.prog) 88 98 i _ Try.underlying88 hi hz .i64 .i64 (n : Int) (n : Int) (by omega) (Int.le_refl _) (by rw [hb]; omega) (by omega)
  rw [hs] at this
  simpa [Value.cells] using this
/-- The first k have been copied into block g. -/
def RowRow (g : Nat) (vs : List RowD) (k : Nat) (u : World) : Prop :=
  ∀ i (h : i < vs.length), i < k → u.cell? ⟨g, i * 2, none⟩ = some (.string vs[i].f0) ∧ u.cell? ⟨g, i * 2 + 1, none⟩ = some (.int .i64 vs[i].f1)
theorem RowRow.below {g : Nat} {vs : List RowD} {k : Nat} {u v : World} (h : RowRow g vs k u) (hg : g < u.heap.size) (hb : Below u.heap.size u v) : RowRow g vs k v := fun i hi hk => by
  rw [hb.cell (p := ⟨g, i * 2, none⟩) hg, hb.cell (p := ⟨g, i * 2 + 1, none⟩) hg]
  exact h i hi hk
theorem RowRow.step {g : Nat} {vs : List RowD} {k : Nat} {u : World} (h : RowRow g vs k u) (hr : Row g (vs.length * 2) u) (hk : k < vs.length) :
    RowRow g vs (k + 1) ((u.setCell ⟨g, k * 2, none⟩ (.string vs[k].f0)).setCell ⟨g, k * 2 + 1, none⟩ (.int .i64 vs[k].f1)) := by
  intro i hi hik
  by_cases e : i = k
  · subst e
    obtain ⟨v0, h0⟩ := (hr.2 (i * 2) (by omega)).1
    obtain ⟨v1, h1⟩ := (hr.2 (i * 2 + 1) (by omega)).1
    refine ⟨?_, ?_⟩
    · rw [cell_off (by omega)]; exact World.cell?_setCell_same _ _ _ (u := v0) h0
    · exact World.cell?_setCell_same _ _ _ (u := v1) (by rw [cell_off (by omega)]; exact h1)
  · obtain ⟨c0, c1⟩ := h i hi (by omega)
    refine ⟨?_, ?_⟩
    · rw [cell_off (by omega), cell_off (by omega)]; exact c0
    · rw [cell_off (by omega), cell_off (by omega)]; exact c1

def ToRows (vs : List RowD) (w : World) (e : Ending) (w' : World) : Prop :=
  e = .returned (.slice (some ⟨w.heap.size, 0, none⟩) vs.length vs.length) ∧ RowsIn w' (some ⟨w.heap.size, 0, none⟩) vs ∧ Free w' (some ⟨w.heap.size, 0, none⟩) (vs.length * 2) ∧ Below w.heap.size w w' ∧ w.heap.size < w'.heap.size

def Rowmarks (k n : Nat) : List RowD := (List.range n).map fun i => ⟨mtext (k + i * 2), (((k + i * 2 + 1 : Nat)) : Int)⟩
theorem Rowmarks_length (k n : Nat) : (Rowmarks k n).length = n := by simp [Rowmarks]
theorem Rowmarks_at (k n i : Nat) (h : i < (Rowmarks k n).length) : (Rowmarks k n)[i] = ⟨mtext (k + i * 2), (((k + i * 2 + 1 : Nat)) : Int)⟩ := by simp [Rowmarks]

def MarkedRows (S : Nat → Prop) (a : Option Addr) (k n : Nat) (w : World) (e : Ending) (w' : World) : Prop :=
  e = .returned (.int .i64 ((k + n * 2 : Nat) : Int)) ∧ RowsIn w' a (Rowmarks k n) ∧ Free w' a (n * 2) ∧ Turned S w w'
end Go.Proofs.Ytjijichgoodocaa

/- Slices of Row: their marks. -/
namespace Go.Proofs.Ytjijichgoodocaa
open Go.RowKit

def Rowmf (k i : Nat) : Value := if i % 2 = 0 then .string (mtext (k + i)) else .int .i64 ((k + i : Nat) : Int)

theorem Rowmf_0 (k i : Nat) : Rowmf k (i * 2) = .string (mtext (k + i * 2)) := by
  unfold Rowmf
  simp only [show (i * 2) % 2 = 0 by omega, if_true, if_false, Nat.reduceEqDiff, Nat.add_assoc]
theorem Rowmf_1 (k i : Nat) : Rowmf k (i * 2 + 1) = .int .i64 ((k + i * 2 + 1 : Nat) : Int) := by
  unfold Rowmf
  simp only [show (i * 2 + 1) % 2 = 1 by omega, if_true, if_false, Nat.reduceEqDiff, Nat.add_assoc]
theorem RowsIn.of_marks {S : Nat → Prop} {w u : World} {b off n k : Nat} (h : MkSt (Rowmf k) S w b off (n * 2) (n * 2) u) : RowsIn u (some ⟨b, off, none⟩) (Rowmarks k n) := by
  refine .inr ⟨b, off, rfl, h.lt, fun i hi => ?_⟩
  have hi' : i < n := by rw [Rowmarks_length] at hi; exact hi
  simp only [Rowmarks_at]
  have h0 := h.done (i * 2) (by omega)
  rw [Rowmf_0] at h0
  have h1 := h.done (i * 2 + 1) (by omega)
  rw [Rowmf_1] at h1
  simp only [← Nat.add_assoc] at h0 h1 ⊢
  exact ⟨h0, h1⟩
end Go.Proofs.Ytjijichgoodocaa

/- Maps of parts: their sizes, copies, equality and marks. -/
namespace Go.Proofs.Ytjijichgoodocaa
open Go.RowKit

def ToPm (ep : Int) (vs : List RowD) (w : World) (e : Ending) (w' : World) : Prop :=
  ∃ g, w.heap.size ≤ g ∧ e = .returned (.agg #[.int .i64 ep, .slice (some ⟨g, 0, none⟩) vs.length vs.length]) ∧ RowsIn w' (some ⟨g, 0, none⟩) vs ∧ Free w' (some ⟨g, 0, none⟩) (vs.length * 2) ∧ Below w.heap.size w w' ∧ g < w'.heap.size

theorem Free.set' {u : World} {b g o n : Nat} {x : Value} (h : Free u (some ⟨b, 0, none⟩) n) (hg : g ≠ b) : Free (u.setCell ⟨g, o, none⟩ x) (some ⟨b, 0, none⟩) n :=
  h.turned (S := fun k => k = g) (fun b' off e k => hg (by cases e; exact k.symm)) ((Turned.refl (fun k => k = g) u).setCell (p := ⟨g, o, none⟩) rfl x)
end Go.Proofs.Ytjijichgoodocaa

/- Maps of parts in memory that belong to a call: where they lie, copies, equality, marks. -/
namespace Go.Proofs.Ytjijichgoodocaa
open Go.RowKit

structure PmAt (w : World) (lo hi : Nat) (a : Option Addr) (vs : List RowD) : Prop where
  in1 : RowsIn w a vs
  fr1 : Free w a (vs.length * 2)
  l1 : Lies lo hi a
  le : hi ≤ w.heap.size
theorem PmAt.below {w w' : World} {lo hi : Nat} {a : Option Addr} {vs : List RowD} (h : PmAt w lo hi a vs) (hb : Below w.heap.size w w') : PmAt w' lo hi a vs := ⟨h.in1.below hb, h.fr1.below hb, h.l1, Nat.le_trans h.le hb.size⟩
theorem PmAt.turned {S : Nat → Prop} {w w' : World} {lo hi : Nat} {a : Option Addr} {vs : List RowD} (h : PmAt w lo hi a vs) (hS : ∀ b, lo ≤ b → b < hi → ¬ S b) (ht : Turned S w w') : PmAt w' lo hi a vs :=
  ⟨h.in1.turned (h.l1.off hS) ht, h.fr1.turned (h.l1.off hS) ht, h.l1, Nat.le_trans h.le ht.size⟩

theorem PmAt.drewAt {w : World} {lo hi : Nat} {a : Option Addr} {vs : List RowD} (h : PmAt w lo hi a vs) : PmAt w.drew lo hi a vs := ⟨h.in1, h.fr1, h.l1, h.le⟩

def PmOut (ep : Int) (vs : List RowD) (w : World) (e : Ending) (w' : World) : Prop :=
  ∃ a c, e = .returned (.agg #[.int .i64 ep, .slice a vs.length c]) ∧ PmAt w' w.heap.size w'.heap.size a vs ∧ Below w.heap.size w w' ∧ vs.length ≤ c ∧ c ≤ maxLen
/-- .. beside a bool. -/
def PmOutB (ep : Int) (vs : List RowD) (b : Bool) (w : World) (e : Ending) (w' : World) : Prop :=
  ∃ a c, e = .returned (.tuple #[.agg #[.int .i64 ep, .slice a vs.length c], .bool b]) ∧ PmAt w' w.heap.size w'.heap.size a vs ∧ Below w.heap.size w w'

def PmMarked (lo hi : Nat) (a : Option Addr) (k n : Nat) (w : World) (e : Ending) (w' : World) : Prop :=
  e = .returned (.int .i64 ((k + n * 2 : Nat) : Int)) ∧ PmAt w' lo hi a (Rowmarks k n) ∧ Turned (fun b => lo ≤ b ∧ b < hi) w w'

def rowCells (v : RowD) : List Value := [.string v.f0, .int .i64 v.f1]
theorem own_rows {w : World} {base : Nat} {v : Value} {vs : List RowD} (h : w.ownsRow base 98 2 v vs.length (vs.flatMap rowCells)) :
    ∃ a cap, v = .slice a vs.length cap ∧ RowsIn w a vs ∧ Free w a (vs.length * 2) ∧ Lies base w.heap.size a ∧ vs.length ≤ cap ∧ cap ≤ maxLen := by
  have hcap := h.2
  rcases Joins.ownsRow_forms h with ⟨rfl, h0⟩ | ⟨g, cap, rfl⟩
  · have : vs = [] := List.eq_nil_of_length_eq_zero h0
    subst this
    exact ⟨none, 0, rfl, .inl rfl, .inl rfl, (fun b off e => by cases e), Nat.le_refl _, Nat.zero_le _⟩
  · have hg := h.lt g rfl
    refine ⟨some ⟨g, 0, none⟩, cap, rfl, .inr ⟨g, 0, rfl, hg.2, fun i hi => ?_⟩, own_free h, (fun b off e => by cases e; exact hg), ?_⟩
    case refine_2 =>
      rcases hcap with ⟨e, _⟩ | ⟨g', c', cur, e, _, _, q1, q2, _⟩
      · cases e
      · cases e; exact ⟨q1, q2⟩
    have e0 := h.cellAt (i * 2) (by omega)
    have e1 := h.cellAt (i * 2 + 1) (by omega)
    have f0 := flat_at rowCells 2 (fun _ => rfl) vs i 0 hi (by omega)
    have f1 := flat_at rowCells 2 (fun _ => rfl) vs i 1 hi (by omega)
    rw [Nat.add_zero] at f0
    simp only [Nat.zero_add]
    exact ⟨e0.trans f0, e1.trans f1⟩
/-- The cells of a slice, as an append takes them. -/
theorem rows_news {w : World} {b off : Nat} {vs : List RowD} (hc : ∀ i (h : i < vs.length), w.cell? ⟨b, off + i * 2, none⟩ = some (.string vs[i].f0) ∧ w.cell? ⟨b, off + i * 2 + 1, none⟩ = some (.int .i64 vs[i].f1)) :
    ∀ j u, (vs.flatMap rowCells)[j]? = some u → w.cell? ((⟨b, off, none⟩ : Addr).add j) = some u := fun j u hu => by
  have hadd : (⟨b, off, none⟩ : Addr).add j = ⟨b, off + j, none⟩ := by unfold Addr.add; split <;> simp_all
  have hl := flat_len rowCells 2 (fun _ => rfl) vs
  have hj : j < vs.length * 2 := by
    rcases Nat.lt_or_ge j (vs.length * 2) with h | h
    · exact h
    · rw [List.getElem?_eq_none (by omega)] at hu; cases hu
  have hi : j / 2 < vs.length := by omega
  rw [hadd]
  have hat := flat_at rowCells 2 (fun _ => rfl) vs (j / 2) (j % 2) hi (by omega)
  rw [show j / 2 * 2 + j % 2 = j by omega, hu] at hat
  rcases Nat.mod_two_eq_zero_or_one j with h0 | h0
  · rw [h0] at hat
    have := (hc (j / 2) hi).1
    rw [show off + j / 2 * 2 = off + j by omega] at this
    rw [this]; simpa [rowCells] using hat.symm
  · rw [h0] at hat
    have := (hc (j / 2) hi).2
    rw [show off + j / 2 * 2 + 1 = off + j by omega] at this
    rw [this]; simpa [rowCells] using hat.symm
theorem rows_one (vs : List RowD) : ∀ u ∈ vs.flatMap rowCells, u.oneCell' = true := fun u hu => by
  obtain ⟨v, _, h⟩ := List.mem_flatMap.1 hu
  simp [rowCells] at h
  rcases h with rfl | rfl <;> rfl
end Go.Proofs.Ytjijichgoodocaa
