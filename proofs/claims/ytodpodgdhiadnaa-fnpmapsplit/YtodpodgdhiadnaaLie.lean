/- Slices of Row: how they lie in memory; their sizes, equality, copies, marks, and what an argument holds. -/
import Derived.Test.YtodpodgdhiadnaaStrsM
import Derived.Test.YtodpodgdhiadnaaOpenMap
import Derived.Deep.RegionHeld3
import Derived.Lib.QuietBelow
import Derived.Lib.SmallJoins
import Derived.Deep.AppendLies
namespace Go.Proofs.Ytodpodgdhiadnaa
open Go.RowKit Go.ChangeShapes Go.WideShapes Go.ChangeAt Go.Joins Go.Deep

structure RowD where
  f0 : ByteArray
  f1 : Int
def RowD.size (v : RowD) : Nat := v.f0.size
def RowD.fits (v : RowD) : Prop := v.f0.size ≤ maxLen

/-- A slice, as it reads in u. -/
def RowsIn (u : World) (a : Option Addr) (vs : List RowD) : Prop :=
  vs = [] ∨ ∃ b off, a = some ⟨b, off, none⟩ ∧ b < u.heap.size ∧ ∀ i (h : i < vs.length), u.cell? ⟨b, off + i * 2, none⟩ = some (.string vs[i].f0) ∧ u.cell? ⟨b, off + i * 2 + 1, none⟩ = some (.int .i64 vs[i].f1)
theorem RowsIn.below {u v : World} {a : Option Addr} {vs : List RowD} (h : RowsIn u a vs) (hb : Below u.heap.size u v) : RowsIn v a vs := by
  rcases h with h | ⟨b, off, e, hlt, hc⟩
  · exact .inl h
  · refine .inr ⟨b, off, e, Nat.lt_of_lt_of_le hlt hb.size, fun i hi => ?_⟩
    rw [hb.cell (p := ⟨b, off + i * 2, none⟩) hlt, hb.cell (p := ⟨b, off + i * 2 + 1, none⟩) hlt]
    exact hc i hi
theorem RowsIn.turned {S : Nat → Prop} {u v : World} {a : Option Addr} {vs : List RowD} (h : RowsIn u a vs) (ho : OffS S a) (ht : Turned S u v) : RowsIn v a vs := by
  rcases h with h | ⟨b, off, e, hlt, hc⟩
  · exact .inl h
  · refine .inr ⟨b, off, e, Nat.lt_of_lt_of_le hlt ht.size, fun i hi => ?_⟩
    rw [ht.cell (p := ⟨b, off + i * 2, none⟩) hlt (ho b off e), ht.cell (p := ⟨b, off + i * 2 + 1, none⟩) hlt (ho b off e)]
    exact hc i hi
theorem RowsIn.set {u : World} {b g o : Nat} {x : Value} {vs : List RowD} (h : RowsIn u (some ⟨b, 0, none⟩) vs) (hg : g ≠ b) : RowsIn (u.setCell ⟨g, o, none⟩ x) (some ⟨b, 0, none⟩) vs :=
  h.turned (S := fun k => k = g) (fun b' off e k => hg (by cases e; exact k.symm)) ((Turned.refl (fun k => k = g) u).setCell (p := ⟨g, o, none⟩) rfl x)

def RowTo (vs : List RowD) (k : Nat) : Nat := ((vs.take k).map RowD.size).sum
theorem RowTo_zero (vs : List RowD) : RowTo vs 0 = 0 := by simp [RowTo]
theorem RowTo_succ (vs : List RowD) (k : Nat) (h : k < vs.length) : RowTo vs (k + 1) = RowTo vs k + vs[k].size := by
  unfold RowTo
  rw [List.take_succ_eq_append_getElem h, List.map_append, List.sum_append]
  simp
def RowsSize (vs : List RowD) : Nat := vs.length + RowTo vs vs.length
theorem RowsSize_len (vs : List RowD) : vs.length ≤ RowsSize vs := Nat.le_add_right _ _

theorem infoRow : (Try.prog.info? 102).map (fun i => (i.zero, i.size, i.bytes)) = some (some (.agg #[.string ⟨#[]⟩, .int .i64 0]), 2, 24) := by kernel_rfl
theorem run_makeRow (n : Nat) (hn : n ≤ 1048576) (w : World) :
    (Instr.makeSlice 78 (.int .i64 (n : Int)) (.int .i64 (n : Int))).run Try.prog w = .ok (.slice (some ⟨w.heap.size, 0, none⟩) n n) (w.alloc (.cells (madeCells #[.string ⟨#[]⟩, .int .i64 0] (n * 2)) 102)) := by
  obtain ⟨i, hi, hzz⟩ := Option.map_eq_some_iff.1 infoRow
  simp only [Prod.mk.injEq] at hzz
  obtain ⟨hz, hs, hb⟩ := hzz
  have := run_make (w := w) (P := Try.prog) 78 102 i _ Try.underlying78 hi hz .i64 .i64 (n : Int) (n : Int) (by omega) (Int.le_refl _) (by rw [hb]; omega) (by omega)
  rw [hs] at this
  simpa [Value.cells] using this
/-- The first k have been copied into block g. -/
def RowRow (g : Nat) (vs : List RowD) (k : Nat) (u : World) : Prop :=
  ∀ i (h : i < vs.length), i < k → u.cell? ⟨g, i * 2, none⟩ = some (.string vs[i].f0) ∧ u.cell? ⟨g, i * 2 + 1, none⟩ = some (.int .i64 vs[i].f1)
theorem RowRow.below {g : Nat} {vs : List RowD} {k : Nat} {u v : World} (h : RowRow g vs k u) (hg : g < u.heap.size) (hb : Below u.heap.size u v) : RowRow g vs k v := fun i hi hk => by
  rw [hb.cell (p := ⟨g, i * 2, none⟩) hg, hb.cell (p := ⟨g, i * 2 + 1, none⟩) hg]
  exact h i hi hk
theorem RowRow.step {g : Nat} {vs : List RowD} {k : Nat} {u : World} (h : RowRow g vs k u) (hr : Row g (vs.length * 2) u) (hk : k < vs.length) :
    RowRow g vs (k + 1) ((u.setCell ⟨g, k * 2, none⟩ (.string vs[k].f0)).setCell ⟨g, k * 2 + 1, none⟩ (.int .i64 vs[k].f1)) := by
  intro i hi hik
  by_cases e : i = k
  · subst e
    obtain ⟨v0, h0⟩ := (hr.2 (i * 2) (by omega)).1
    obtain ⟨v1, h1⟩ := (hr.2 (i * 2 + 1) (by omega)).1
    refine ⟨?_, ?_⟩
    · rw [cell_off (by omega)]; exact World.cell?_setCell_same _ _ _ (u := v0) h0
    · exact World.cell?_setCell_same _ _ _ (u := v1) (by rw [cell_off (by omega)]; exact h1)
  · obtain ⟨c0, c1⟩ := h i hi (by omega)
    refine ⟨?_, ?_⟩
    · rw [cell_off (by omega), cell_off (by omega)]; exact c0
    · rw [cell_off (by omega), cell_off (by omega)]; exact c1

def ToRows (vs : List RowD) (w : World) (e : Ending) (w' : World) : Prop :=
  e = .returned (.slice (some ⟨w.heap.size, 0, none⟩) vs.length vs.length) ∧ RowsIn w' (some ⟨w.heap.size, 0, none⟩) vs ∧ Free w' (some ⟨w.heap.size, 0, none⟩) (vs.length * 2) ∧ Below w.heap.size w w' ∧ w.heap.size < w'.heap.size

def Rowmarks (k n : Nat) : List RowD := (List.range n).map fun i => ⟨mtext (k + i * 2), (((k + i * 2 + 1 : Nat)) : Int)⟩
theorem Rowmarks_length (k n : Nat) : (Rowmarks k n).length = n := by simp [Rowmarks]
theorem Rowmarks_at (k n i : Nat) (h : i < (Rowmarks k n).length) : (Rowmarks k n)[i] = ⟨mtext (k + i * 2), (((k + i * 2 + 1 : Nat)) : Int)⟩ := by simp [Rowmarks]

def MarkedRows (S : Nat → Prop) (a : Option Addr) (k n : Nat) (w : World) (e : Ending) (w' : World) : Prop :=
  e = .returned (.int .i64 ((k + n * 2 : Nat) : Int)) ∧ RowsIn w' a (Rowmarks k n) ∧ Free w' a (n * 2) ∧ Turned S w w'
end Go.Proofs.Ytodpodgdhiadnaa

/- Marks, cell by cell. -/
namespace Go.Proofs.Ytodpodgdhiadnaa
open Go.RowKit

/-- The first q of N cells of a block have been marked; of what was there only blocks of S have turned. -/
structure MkSt (f : Nat → Value) (S : Nat → Prop) (w : World) (b off N q : Nat) (u : World) : Prop where
  turned : Turned S w u
  lt : b < u.heap.size
  free : ∀ i, i < N → (∃ v, u.cell? ⟨b, off + i, none⟩ = some v) ∧ u.frozen? ⟨b, off + i, none⟩ = false
  done : ∀ i, i < q → u.cell? ⟨b, off + i, none⟩ = some (f i)
theorem MkSt.below {f : Nat → Value} {S : Nat → Prop} {w : World} {b off N q : Nat} {u v : World} (h : MkSt f S w b off N q u) (hb : Below u.heap.size u v) : MkSt f S w b off N q v :=
  ⟨h.turned.trans (Turned.of_below hb), Nat.lt_of_lt_of_le h.lt hb.size, fun i hi => ⟨by obtain ⟨x, hx⟩ := (h.free i hi).1; exact ⟨x, (hb.cell (p := ⟨b, off + i, none⟩) h.lt).trans hx⟩, (hb.frozen (p := ⟨b, off + i, none⟩) h.lt).trans (h.free i hi).2⟩, fun i hi => (hb.cell (p := ⟨b, off + i, none⟩) h.lt).trans (h.done i hi)⟩
theorem MkSt.set {f : Nat → Value} {S : Nat → Prop} {w : World} {b off N q : Nat} {u : World} (h : MkSt f S w b off N q u) (hq : q < N) (hS : S b) {p : Addr} {x : Value} (hp : p = ⟨b, off + q, none⟩) (hx : x = f q) : MkSt f S w b off N (q + 1) (u.setCell p x) := by
  subst hp hx
  refine ⟨h.turned.setCell hS _, by simpa using h.lt, fun i hi => ⟨?_, by rw [World.frozen?_setCell]; exact (h.free i hi).2⟩, fun i hi => ?_⟩
  · obtain ⟨y, hy⟩ := (h.free i hi).1
    exact cell?_setCell_some hy
  · by_cases e : i = q
    · subst e
      obtain ⟨y, hy⟩ := (h.free i hq).1
      exact World.cell?_setCell_same _ _ _ hy
    · rw [cell_off (by omega)]; exact h.done i (by omega)
theorem MkSt.at0 {f : Nat → Value} {S : Nat → Prop} {w : World} {b off N q : Nat} {u : World} (h : MkSt f S w b off N q u) (i : Nat) (hi : i < N) : ∃ v, u.cell? ⟨b, off + i, none⟩ = some v := (h.free i hi).1
theorem MkSt.fz0 {f : Nat → Value} {S : Nat → Prop} {w : World} {b off N q : Nat} {u : World} (h : MkSt f S w b off N q u) (i : Nat) (hi : i < N) : u.frozen? ⟨b, off + i, none⟩ = false := (h.free i hi).2
theorem MkSt.start {f : Nat → Value} {S : Nat → Prop} {w : World} {b off N : Nat} (hb : b < w.heap.size) (hc : ∀ i, i < N → (∃ v, w.cell? ⟨b, off + i, none⟩ = some v) ∧ w.frozen? ⟨b, off + i, none⟩ = false) : MkSt f S w b off N 0 w :=
  ⟨Turned.refl _ _, hb, hc, fun i hi => absurd hi (by omega)⟩
theorem markText_at {z : Int} (k : Nat) (hz : z = (k : Int)) (w : World) (h1 : 1 ≤ k) (h2 : k ≤ 100000000) :
    Calls Try.prog 185 #[.int .i64 z] w fun e w' => e = .returned (.string (mtext k)) ∧ Below w.heap.size w w' := hz ▸ markText_any k w h1 h2
end Go.Proofs.Ytodpodgdhiadnaa

/- Slices of Row: their marks. -/
namespace Go.Proofs.Ytodpodgdhiadnaa
open Go.RowKit

def Rowmf (k i : Nat) : Value := if i % 2 = 0 then .string (mtext (k + i)) else .int .i64 ((k + i : Nat) : Int)

theorem Rowmf_0 (k i : Nat) : Rowmf k (i * 2) = .string (mtext (k + i * 2)) := by
  unfold Rowmf
  simp only [show (i * 2) % 2 = 0 by omega, if_true, if_false, Nat.reduceEqDiff, Nat.add_assoc]
theorem Rowmf_1 (k i : Nat) : Rowmf k (i * 2 + 1) = .int .i64 ((k + i * 2 + 1 : Nat) : Int) := by
  unfold Rowmf
  simp only [show (i * 2 + 1) % 2 = 1 by omega, if_true, if_false, Nat.reduceEqDiff, Nat.add_assoc]
theorem RowsIn.of_marks {S : Nat → Prop} {w u : World} {b off n k : Nat} (h : MkSt (Rowmf k) S w b off (n * 2) (n * 2) u) : RowsIn u (some ⟨b, off, none⟩) (Rowmarks k n) := by
  refine .inr ⟨b, off, rfl, h.lt, fun i hi => ?_⟩
  have hi' : i < n := by rw [Rowmarks_length] at hi; exact hi
  simp only [Rowmarks_at]
  have h0 := h.done (i * 2) (by omega)
  rw [Rowmf_0] at h0
  have h1 := h.done (i * 2 + 1) (by omega)
  rw [Rowmf_1] at h1
  simp only [← Nat.add_assoc] at h0 h1 ⊢
  exact ⟨h0, h1⟩
end Go.Proofs.Ytodpodgdhiadnaa

/- Maps of parts: their sizes, copies, equality and marks. -/
namespace Go.Proofs.Ytodpodgdhiadnaa
open Go.RowKit

def ToPm (ep : Int) (vs : List RowD) (w : World) (e : Ending) (w' : World) : Prop :=
  ∃ g, w.heap.size ≤ g ∧ e = .returned (.agg #[.int .i64 ep, .slice (some ⟨g, 0, none⟩) vs.length vs.length]) ∧ RowsIn w' (some ⟨g, 0, none⟩) vs ∧ Free w' (some ⟨g, 0, none⟩) (vs.length * 2) ∧ Below w.heap.size w w' ∧ g < w'.heap.size

theorem Free.set' {u : World} {b g o n : Nat} {x : Value} (h : Free u (some ⟨b, 0, none⟩) n) (hg : g ≠ b) : Free (u.setCell ⟨g, o, none⟩ x) (some ⟨b, 0, none⟩) n :=
  h.turned (S := fun k => k = g) (fun b' off e k => hg (by cases e; exact k.symm)) ((Turned.refl (fun k => k = g) u).setCell (p := ⟨g, o, none⟩) rfl x)
end Go.Proofs.Ytodpodgdhiadnaa

/- Where slices lie that a call owns; what a call has made by appends. -/
namespace Go.Proofs.Ytodpodgdhiadnaa
open Go.RowKit

/-- This slice lies in blocks from lo up to hi. -/
def Lies (lo hi : Nat) (a : Option Addr) : Prop := ∀ b off, a = some ⟨b, off, none⟩ → lo ≤ b ∧ b < hi
def Apart (a b : Option Addr) : Prop := ∀ x o y p, a = some ⟨x, o, none⟩ → b = some ⟨y, p, none⟩ → x ≠ y
theorem Lies.off {lo hi : Nat} {a : Option Addr} {S : Nat → Prop} (h : Lies lo hi a) (hS : ∀ b, lo ≤ b → b < hi → ¬ S b) : OffS S a := fun b off e => hS b (h b off e).1 (h b off e).2
theorem Lies.mono {lo hi lo' hi' : Nat} {a : Option Addr} (h : Lies lo hi a) (h1 : lo' ≤ lo) (h2 : hi ≤ hi') : Lies lo' hi' a := fun b off e => ⟨Nat.le_trans h1 (h b off e).1, Nat.lt_of_lt_of_le (h b off e).2 h2⟩

/-! What a call has made by appends. -/
theorem flat_len {α : Type} (c : α → List Value) (m : Nat) (hc : ∀ v, (c v).length = m) (vs : List α) : (vs.flatMap c).length = vs.length * m := by
  induction vs with
  | nil => simp
  | cons v vs ih => rw [List.flatMap_cons, List.length_append, ih, hc, List.length_cons, Nat.succ_mul, Nat.add_comm]
theorem flat_at {α : Type} (c : α → List Value) (m : Nat) (hc : ∀ v, (c v).length = m) : ∀ (vs : List α) (i j : Nat) (h : i < vs.length), j < m → (vs.flatMap c)[i * m + j]? = (c vs[i])[j]?
  | v :: vs, 0, j, _, hj => by
    rw [List.flatMap_cons, List.getElem?_append_left (by rw [hc]; omega)]; simp
  | v :: vs, i + 1, j, h, hj => by
    rw [List.flatMap_cons, List.getElem?_append_right (by rw [hc, Nat.succ_mul]; omega), hc, show (i + 1) * m + j - m = i * m + j by rw [Nat.succ_mul]; omega, flat_at c m hc vs i j (by simpa using h) hj]
    simp
theorem own_free {w : World} {base size n cap : Nat} {e : TypeId} {g : Nat} {xs : List Value} (h : w.ownsRow base e size (.slice (some ⟨g, 0, none⟩) n cap) n xs) : Free w (some ⟨g, 0, none⟩) (n * size) :=
  .inr ⟨g, 0, rfl, (h.lt g rfl).2, fun i hi => by
    rw [Nat.zero_add]
    refine ⟨?_, h.frozenAt i⟩
    rw [h.cellAt i hi]
    have hl := h.1
    exact ⟨xs[i]'(by omega), List.getElem?_eq_getElem (by omega)⟩⟩

theorem Turned.cellS {lo hi : Nat} {w w' : World} (h : Turned (fun b => lo ≤ b ∧ b < hi) w w') {p : Addr} (hp : p.block < w.heap.size) (hn : ¬ (lo ≤ p.block ∧ p.block < hi)) : w'.cell? p = w.cell? p := h.cell hp hn
theorem step_turned {B lo hi : Nat} {a w w' : World} (h : Below B a w) (ht : Turned (fun b => lo ≤ b ∧ b < hi) w w') (h1 : B ≤ lo) (h2 : B ≤ w.heap.size) : Below B a w' := h.trans (ht.below (fun k hk => Nat.le_trans h1 hk.1) h2)
theorem ownsRow_of_below {w w' : World} {base size n : Nat} {e : TypeId} {v : Value} {xs : List Value} (h : w.ownsRow base e size v n xs) (hb : Below w.heap.size w w') : w'.ownsRow base e size v n xs := by
  refine ⟨h.1, h.2.elim .inl fun ⟨g, cap, cur, hv, hg, hh, r⟩ => .inr ⟨g, cap, cur, hv, hg, ?_, r⟩⟩
  have hlt : g < w.heap.size := by
    rcases Nat.lt_or_ge g w.heap.size with q | q
    · exact q
    · rw [Array.getElem?_eq_none q] at hh; cases hh
  exact (hb.block g hlt).trans hh
end Go.Proofs.Ytodpodgdhiadnaa
