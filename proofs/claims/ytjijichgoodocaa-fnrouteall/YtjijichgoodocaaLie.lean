/- Contracts of the functions on spans, the second part: whether a key is in a span; sizes, copies and comparisons of spans. -/
import Derived.Test.YtjijichgoodocaaOrdB
import Derived.Test.YtjijichgoodocaaValid
import Derived.Test.YtjijichgoodocaaOpenMap
import Derived.Deep.RegionHeld3
import Derived.Lib.QuietBelow
import Derived.Lib.SmallJoins
import Derived.Deep.AppendLies
namespace Go.Proofs.Ytjijichgoodocaa
open Go.RowKit

theorem spanOk_is {lo hi : ByteArray} {b : Bool} (h : spanOkB lo hi = b) (hlo : lo.size ≤ maxLen) (hhi : hi.size ≤ maxLen) (w : World) :
    Calls Try.prog 30 #[.agg #[.string lo, .string hi]] w fun e w' => e = .returned (.bool b) ∧ Below w.heap.size w w' := by rw [← h]; exact spanOk_any lo hi w hlo hhi

theorem l1SpanOk_is {lo hi : ByteArray} {b : Bool} (h : spanOkB lo hi = b) (hlo : lo.size ≤ maxLen) (hhi : hi.size ≤ maxLen) (w : World) :
    Calls Try.prog 94 #[.agg #[.string lo, .string hi]] w fun e w' => e = .returned (.bool b) ∧ Below w.heap.size w w' := by rw [← h]; exact l1SpanOk_any lo hi w hlo hhi

def spanHasB (lo hi key : ByteArray) : Bool := spanOkB lo hi && keyOkB key && hasB lo hi key

theorem bsize {B : Nat} {W w1 : World} (hb : Below B W w1) : W.heap.size ≤ w1.heap.size := hb.size

set_option maxHeartbeats 1000000 in
theorem spanHas_any (lo hi key : ByteArray) (w : World) (hlo : lo.size ≤ maxLen) (hhi : hi.size ≤ maxLen) (hkey : key.size ≤ maxLen) :
    Calls Try.prog 31 #[.agg #[.string lo, .string hi], .string key] w fun e w' => e = .returned (.bool (spanHasB lo hi key)) ∧ Below w.heap.size w w' := by
  cases h1 : spanOkB lo hi
  · have hfin : Hid (spanHasB lo hi key = false) := by show _ = _; simp [spanHasB, h1]
    go_enter Try.func31, Try.ntmps31
    go_wp2_with (go_at_call 30; refine (spanOk_is h1 hlo hhi _).mono ?_; rintro e w' ⟨rfl, hb⟩)
    go_ret
    exact ⟨ret_bool (by rw [hfin.out]), ((Below.refl _ _).alloc (Nat.le_refl _) _).trans (hb.mono (by simp))⟩
  · cases h2 : keyOkB key
    · have hfin : Hid (spanHasB lo hi key = false) := by show _ = _; simp [spanHasB, h2]
      go_enter Try.func31, Try.ntmps31
      go_wp2_with (first | (go_at_call 30; refine (spanOk_is h1 hlo hhi _).mono ?_; rintro e w' ⟨rfl, hb⟩) | (go_at_call 60; refine (keyOk_is h2 hkey _).mono ?_; rintro e w' ⟨rfl, rfl⟩))
      go_ret
      exact ⟨ret_bool (by rw [hfin.out]), ((Below.refl _ _).alloc (Nat.le_refl _) _).trans (hb.mono (by simp))⟩
    · have hfin : Hid (spanHasB lo hi key = hasB lo hi key) := by show _ = _; simp [spanHasB, h1, h2]
      go_enter Try.func31, Try.ntmps31
      go_wp2_with (first | (go_at_call 30; refine (spanOk_is h1 hlo hhi _).mono ?_; rintro e w' ⟨rfl, hb⟩; obtain ⟨hc, hf⟩ := bcell hb) | (go_at_call 60; refine (keyOk_is h2 hkey _).mono ?_; rintro e w' ⟨rfl, rfl⟩) | (go_at_call 98; refine (has_any _ _ _ _).mono ?_; rintro e w'' ⟨rfl, hb2⟩))
      go_ret
      exact ⟨ret_bool (by rw [hfin.out]), (((Below.refl _ _).alloc (Nat.le_refl _) _).trans (hb.mono (by simp))).trans (hb2.mono (by have := hb.size; simp at this; omega))⟩

theorem ret_int {k : IntKind} {a b : Int} (h : a = b) : Ending.returned (.int k a) = .returned (.int k b) := by rw [h]
def szSpanZ (lo hi : ByteArray) (left : Int) : Int := if left < lo.size then -1 else if left < lo.size + hi.size then -1 else left - lo.size - hi.size
end Go.Proofs.Ytjijichgoodocaa

/- Slices of Known: how they lie in memory; their sizes, equality, copies, marks, and what an argument holds. -/
namespace Go.Proofs.Ytjijichgoodocaa
open Go.RowKit Go.ChangeShapes Go.WideShapes Go.ChangeAt Go.Joins Go.Deep

structure KnownD where
  f0 : ByteArray
  f1 : ByteArray
  f2 : Int
  f3 : Int
def KnownD.size (v : KnownD) : Nat := v.f0.size + v.f1.size
def KnownD.fits (v : KnownD) : Prop := v.f0.size ≤ maxLen ∧ v.f1.size ≤ maxLen

/-- A slice, as it reads in u. -/
def KnownsIn (u : World) (a : Option Addr) (vs : List KnownD) : Prop :=
  vs = [] ∨ ∃ b off, a = some ⟨b, off, none⟩ ∧ b < u.heap.size ∧ ∀ i (h : i < vs.length), u.cell? ⟨b, off + i * 4, none⟩ = some (.string vs[i].f0) ∧ u.cell? ⟨b, off + i * 4 + 1, none⟩ = some (.string vs[i].f1) ∧ u.cell? ⟨b, off + i * 4 + 2, none⟩ = some (.int .i64 vs[i].f2) ∧ u.cell? ⟨b, off + i * 4 + 3, none⟩ = some (.int .i64 vs[i].f3)
theorem KnownsIn.below {u v : World} {a : Option Addr} {vs : List KnownD} (h : KnownsIn u a vs) (hb : Below u.heap.size u v) : KnownsIn v a vs := by
  rcases h with h | ⟨b, off, e, hlt, hc⟩
  · exact .inl h
  · refine .inr ⟨b, off, e, Nat.lt_of_lt_of_le hlt hb.size, fun i hi => ?_⟩
    rw [hb.cell (p := ⟨b, off + i * 4, none⟩) hlt, hb.cell (p := ⟨b, off + i * 4 + 1, none⟩) hlt, hb.cell (p := ⟨b, off + i * 4 + 2, none⟩) hlt, hb.cell (p := ⟨b, off + i * 4 + 3, none⟩) hlt]
    exact hc i hi
theorem KnownsIn.turned {S : Nat → Prop} {u v : World} {a : Option Addr} {vs : List KnownD} (h : KnownsIn u a vs) (ho : OffS S a) (ht : Turned S u v) : KnownsIn v a vs := by
  rcases h with h | ⟨b, off, e, hlt, hc⟩
  · exact .inl h
  · refine .inr ⟨b, off, e, Nat.lt_of_lt_of_le hlt ht.size, fun i hi => ?_⟩
    rw [ht.cell (p := ⟨b, off + i * 4, none⟩) hlt (ho b off e), ht.cell (p := ⟨b, off + i * 4 + 1, none⟩) hlt (ho b off e), ht.cell (p := ⟨b, off + i * 4 + 2, none⟩) hlt (ho b off e), ht.cell (p := ⟨b, off + i * 4 + 3, none⟩) hlt (ho b off e)]
    exact hc i hi
theorem KnownsIn.set {u : World} {b g o : Nat} {x : Value} {vs : List KnownD} (h : KnownsIn u (some ⟨b, 0, none⟩) vs) (hg : g ≠ b) : KnownsIn (u.setCell ⟨g, o, none⟩ x) (some ⟨b, 0, none⟩) vs :=
  h.turned (S := fun k => k = g) (fun b' off e k => hg (by cases e; exact k.symm)) ((Turned.refl (fun k => k = g) u).setCell (p := ⟨g, o, none⟩) rfl x)

def KnownTo (vs : List KnownD) (k : Nat) : Nat := ((vs.take k).map KnownD.size).sum
theorem KnownTo_zero (vs : List KnownD) : KnownTo vs 0 = 0 := by simp [KnownTo]
theorem KnownTo_succ (vs : List KnownD) (k : Nat) (h : k < vs.length) : KnownTo vs (k + 1) = KnownTo vs k + vs[k].size := by
  unfold KnownTo
  rw [List.take_succ_eq_append_getElem h, List.map_append, List.sum_append]
  simp
def KnownsSize (vs : List KnownD) : Nat := vs.length + KnownTo vs vs.length
theorem KnownsSize_len (vs : List KnownD) : vs.length ≤ KnownsSize vs := Nat.le_add_right _ _

theorem infoKnown : (Try.prog.info? 84).map (fun i => (i.zero, i.size, i.bytes)) = some (some (.agg #[.string ⟨#[]⟩, .string ⟨#[]⟩, .int .i64 0, .int .i64 0]), 4, 48) := by kernel_rfl
theorem run_makeKnown (n : Nat) (hn : n ≤ 1048576) (w : World) :
    (Instr.makeSlice 80 (.int .i64 (n : Int)) (.int .i64 (n : Int))).run Try.prog w = .ok (.slice (some ⟨w.heap.size, 0, none⟩) n n) (w.alloc (.cells (madeCells #[.string ⟨#[]⟩, .string ⟨#[]⟩, .int .i64 0, .int .i64 0] (n * 4)) 84)) := by
  obtain ⟨i, hi, hzz⟩ := Option.map_eq_some_iff.1 infoKnown
  simp only [Prod.mk.injEq] at hzz
  obtain ⟨hz, hs, hb⟩ := hzz
  have := run_make (w := w) (P := Try.prog) 80 84 i _ Try.underlying80 hi hz .i64 .i64 (n : Int) (n : Int) (by omega) (Int.le_refl _) (by rw [hb]; omega) (by omega)
  rw [hs] at this
  simpa [Value.cells] using this
/-- The first k have been copied into block g. -/
def KnownRow (g : Nat) (vs : List KnownD) (k : Nat) (u : World) : Prop :=
  ∀ i (h : i < vs.length), i < k → u.cell? ⟨g, i * 4, none⟩ = some (.string vs[i].f0) ∧ u.cell? ⟨g, i * 4 + 1, none⟩ = some (.string vs[i].f1) ∧ u.cell? ⟨g, i * 4 + 2, none⟩ = some (.int .i64 vs[i].f2) ∧ u.cell? ⟨g, i * 4 + 3, none⟩ = some (.int .i64 vs[i].f3)
theorem KnownRow.below {g : Nat} {vs : List KnownD} {k : Nat} {u v : World} (h : KnownRow g vs k u) (hg : g < u.heap.size) (hb : Below u.heap.size u v) : KnownRow g vs k v := fun i hi hk => by
  rw [hb.cell (p := ⟨g, i * 4, none⟩) hg, hb.cell (p := ⟨g, i * 4 + 1, none⟩) hg, hb.cell (p := ⟨g, i * 4 + 2, none⟩) hg, hb.cell (p := ⟨g, i * 4 + 3, none⟩) hg]
  exact h i hi hk
theorem KnownRow.step {g : Nat} {vs : List KnownD} {k : Nat} {u : World} (h : KnownRow g vs k u) (hr : Row g (vs.length * 4) u) (hk : k < vs.length) :
    KnownRow g vs (k + 1) ((((u.setCell ⟨g, k * 4, none⟩ (.string vs[k].f0)).setCell ⟨g, k * 4 + 1, none⟩ (.string vs[k].f1)).setCell ⟨g, k * 4 + 2, none⟩ (.int .i64 vs[k].f2)).setCell ⟨g, k * 4 + 3, none⟩ (.int .i64 vs[k].f3)) := by
  intro i hi hik
  by_cases e : i = k
  · subst e
    obtain ⟨v0, h0⟩ := (hr.2 (i * 4) (by omega)).1
    obtain ⟨v1, h1⟩ := (hr.2 (i * 4 + 1) (by omega)).1
    obtain ⟨v2, h2⟩ := (hr.2 (i * 4 + 2) (by omega)).1
    obtain ⟨v3, h3⟩ := (hr.2 (i * 4 + 3) (by omega)).1
    refine ⟨?_, ?_, ?_, ?_⟩
    · rw [cell_off (by omega), cell_off (by omega), cell_off (by omega)]; exact World.cell?_setCell_same _ _ _ (u := v0) h0
    · rw [cell_off (by omega), cell_off (by omega)]; exact World.cell?_setCell_same _ _ _ (u := v1) (by rw [cell_off (by omega)]; exact h1)
    · rw [cell_off (by omega)]; exact World.cell?_setCell_same _ _ _ (u := v2) (by rw [cell_off (by omega), cell_off (by omega)]; exact h2)
    · exact World.cell?_setCell_same _ _ _ (u := v3) (by rw [cell_off (by omega), cell_off (by omega), cell_off (by omega)]; exact h3)
  · obtain ⟨c0, c1, c2, c3⟩ := h i hi (by omega)
    refine ⟨?_, ?_, ?_, ?_⟩
    · rw [cell_off (by omega), cell_off (by omega), cell_off (by omega), cell_off (by omega)]; exact c0
    · rw [cell_off (by omega), cell_off (by omega), cell_off (by omega), cell_off (by omega)]; exact c1
    · rw [cell_off (by omega), cell_off (by omega), cell_off (by omega), cell_off (by omega)]; exact c2
    · rw [cell_off (by omega), cell_off (by omega), cell_off (by omega), cell_off (by omega)]; exact c3

def ToKnowns (vs : List KnownD) (w : World) (e : Ending) (w' : World) : Prop :=
  e = .returned (.slice (some ⟨w.heap.size, 0, none⟩) vs.length vs.length) ∧ KnownsIn w' (some ⟨w.heap.size, 0, none⟩) vs ∧ Free w' (some ⟨w.heap.size, 0, none⟩) (vs.length * 4) ∧ Below w.heap.size w w' ∧ w.heap.size < w'.heap.size

def Knownmarks (k n : Nat) : List KnownD := (List.range n).map fun i => ⟨mtext (k + i * 4), mtext (k + i * 4 + 1), (((k + i * 4 + 2 : Nat)) : Int), (((k + i * 4 + 3 : Nat)) : Int)⟩
theorem Knownmarks_length (k n : Nat) : (Knownmarks k n).length = n := by simp [Knownmarks]
theorem Knownmarks_at (k n i : Nat) (h : i < (Knownmarks k n).length) : (Knownmarks k n)[i] = ⟨mtext (k + i * 4), mtext (k + i * 4 + 1), (((k + i * 4 + 2 : Nat)) : Int), (((k + i * 4 + 3 : Nat)) : Int)⟩ := by simp [Knownmarks]

def MarkedKnowns (S : Nat → Prop) (a : Option Addr) (k n : Nat) (w : World) (e : Ending) (w' : World) : Prop :=
  e = .returned (.int .i64 ((k + n * 4 : Nat) : Int)) ∧ KnownsIn w' a (Knownmarks k n) ∧ Free w' a (n * 4) ∧ Turned S w w'
end Go.Proofs.Ytjijichgoodocaa

/- Marks, cell by cell. -/
namespace Go.Proofs.Ytjijichgoodocaa
open Go.RowKit

/-- The first q of N cells of a block have been marked; of what was there only blocks of S have turned. -/
structure MkSt (f : Nat → Value) (S : Nat → Prop) (w : World) (b off N q : Nat) (u : World) : Prop where
  turned : Turned S w u
  lt : b < u.heap.size
  free : ∀ i, i < N → (∃ v, u.cell? ⟨b, off + i, none⟩ = some v) ∧ u.frozen? ⟨b, off + i, none⟩ = false
  done : ∀ i, i < q → u.cell? ⟨b, off + i, none⟩ = some (f i)
theorem MkSt.below {f : Nat → Value} {S : Nat → Prop} {w : World} {b off N q : Nat} {u v : World} (h : MkSt f S w b off N q u) (hb : Below u.heap.size u v) : MkSt f S w b off N q v :=
  ⟨h.turned.trans (Turned.of_below hb), Nat.lt_of_lt_of_le h.lt hb.size, fun i hi => ⟨by obtain ⟨x, hx⟩ := (h.free i hi).1; exact ⟨x, (hb.cell (p := ⟨b, off + i, none⟩) h.lt).trans hx⟩, (hb.frozen (p := ⟨b, off + i, none⟩) h.lt).trans (h.free i hi).2⟩, fun i hi => (hb.cell (p := ⟨b, off + i, none⟩) h.lt).trans (h.done i hi)⟩
theorem MkSt.set {f : Nat → Value} {S : Nat → Prop} {w : World} {b off N q : Nat} {u : World} (h : MkSt f S w b off N q u) (hq : q < N) (hS : S b) {p : Addr} {x : Value} (hp : p = ⟨b, off + q, none⟩) (hx : x = f q) : MkSt f S w b off N (q + 1) (u.setCell p x) := by
  subst hp hx
  refine ⟨h.turned.setCell hS _, by simpa using h.lt, fun i hi => ⟨?_, by rw [World.frozen?_setCell]; exact (h.free i hi).2⟩, fun i hi => ?_⟩
  · obtain ⟨y, hy⟩ := (h.free i hi).1
    exact cell?_setCell_some hy
  · by_cases e : i = q
    · subst e
      obtain ⟨y, hy⟩ := (h.free i hq).1
      exact World.cell?_setCell_same _ _ _ hy
    · rw [cell_off (by omega)]; exact h.done i (by omega)
theorem MkSt.at0 {f : Nat → Value} {S : Nat → Prop} {w : World} {b off N q : Nat} {u : World} (h : MkSt f S w b off N q u) (i : Nat) (hi : i < N) : ∃ v, u.cell? ⟨b, off + i, none⟩ = some v := (h.free i hi).1
theorem MkSt.fz0 {f : Nat → Value} {S : Nat → Prop} {w : World} {b off N q : Nat} {u : World} (h : MkSt f S w b off N q u) (i : Nat) (hi : i < N) : u.frozen? ⟨b, off + i, none⟩ = false := (h.free i hi).2
theorem MkSt.start {f : Nat → Value} {S : Nat → Prop} {w : World} {b off N : Nat} (hb : b < w.heap.size) (hc : ∀ i, i < N → (∃ v, w.cell? ⟨b, off + i, none⟩ = some v) ∧ w.frozen? ⟨b, off + i, none⟩ = false) : MkSt f S w b off N 0 w :=
  ⟨Turned.refl _ _, hb, hc, fun i hi => absurd hi (by omega)⟩
theorem markText_at {z : Int} (k : Nat) (hz : z = (k : Int)) (w : World) (h1 : 1 ≤ k) (h2 : k ≤ 100000000) :
    Calls Try.prog 172 #[.int .i64 z] w fun e w' => e = .returned (.string (mtext k)) ∧ Below w.heap.size w w' := hz ▸ markText_any k w h1 h2
end Go.Proofs.Ytjijichgoodocaa

/- Slices of Known: their marks. -/
namespace Go.Proofs.Ytjijichgoodocaa
open Go.RowKit

def Knownmf (k i : Nat) : Value := if i % 4 = 0 then .string (mtext (k + i)) else if i % 4 = 1 then .string (mtext (k + i)) else if i % 4 = 2 then .int .i64 ((k + i : Nat) : Int) else .int .i64 ((k + i : Nat) : Int)

theorem Knownmf_0 (k i : Nat) : Knownmf k (i * 4) = .string (mtext (k + i * 4)) := by
  unfold Knownmf
  simp only [show (i * 4) % 4 = 0 by omega, if_true, if_false, Nat.reduceEqDiff, Nat.add_assoc]
theorem Knownmf_1 (k i : Nat) : Knownmf k (i * 4 + 1) = .string (mtext (k + i * 4 + 1)) := by
  unfold Knownmf
  simp only [show (i * 4 + 1) % 4 = 1 by omega, if_true, if_false, Nat.reduceEqDiff, Nat.add_assoc]
theorem Knownmf_2 (k i : Nat) : Knownmf k (i * 4 + 2) = .int .i64 ((k + i * 4 + 2 : Nat) : Int) := by
  unfold Knownmf
  simp only [show (i * 4 + 2) % 4 = 2 by omega, if_true, if_false, Nat.reduceEqDiff, Nat.add_assoc]
theorem Knownmf_3 (k i : Nat) : Knownmf k (i * 4 + 3) = .int .i64 ((k + i * 4 + 3 : Nat) : Int) := by
  unfold Knownmf
  simp only [show (i * 4 + 3) % 4 = 3 by omega, if_true, if_false, Nat.reduceEqDiff, Nat.add_assoc]
theorem KnownsIn.of_marks {S : Nat → Prop} {w u : World} {b off n k : Nat} (h : MkSt (Knownmf k) S w b off (n * 4) (n * 4) u) : KnownsIn u (some ⟨b, off, none⟩) (Knownmarks k n) := by
  refine .inr ⟨b, off, rfl, h.lt, fun i hi => ?_⟩
  have hi' : i < n := by rw [Knownmarks_length] at hi; exact hi
  simp only [Knownmarks_at]
  have h0 := h.done (i * 4) (by omega)
  rw [Knownmf_0] at h0
  have h1 := h.done (i * 4 + 1) (by omega)
  rw [Knownmf_1] at h1
  have h2 := h.done (i * 4 + 2) (by omega)
  rw [Knownmf_2] at h2
  have h3 := h.done (i * 4 + 3) (by omega)
  rw [Knownmf_3] at h3
  simp only [← Nat.add_assoc] at h0 h1 h2 h3 ⊢
  exact ⟨h0, h1, h2, h3⟩
end Go.Proofs.Ytjijichgoodocaa

/- Where slices lie that a call owns; what a call has made by appends. -/
namespace Go.Proofs.Ytjijichgoodocaa
open Go.RowKit

/-- This slice lies in blocks from lo up to hi. -/
def Lies (lo hi : Nat) (a : Option Addr) : Prop := ∀ b off, a = some ⟨b, off, none⟩ → lo ≤ b ∧ b < hi
def Apart (a b : Option Addr) : Prop := ∀ x o y p, a = some ⟨x, o, none⟩ → b = some ⟨y, p, none⟩ → x ≠ y
theorem Lies.off {lo hi : Nat} {a : Option Addr} {S : Nat → Prop} (h : Lies lo hi a) (hS : ∀ b, lo ≤ b → b < hi → ¬ S b) : OffS S a := fun b off e => hS b (h b off e).1 (h b off e).2
theorem Lies.mono {lo hi lo' hi' : Nat} {a : Option Addr} (h : Lies lo hi a) (h1 : lo' ≤ lo) (h2 : hi ≤ hi') : Lies lo' hi' a := fun b off e => ⟨Nat.le_trans h1 (h b off e).1, Nat.lt_of_lt_of_le (h b off e).2 h2⟩

/-! What a call has made by appends. -/
theorem flat_len {α : Type} (c : α → List Value) (m : Nat) (hc : ∀ v, (c v).length = m) (vs : List α) : (vs.flatMap c).length = vs.length * m := by
  induction vs with
  | nil => simp
  | cons v vs ih => rw [List.flatMap_cons, List.length_append, ih, hc, List.length_cons, Nat.succ_mul, Nat.add_comm]
theorem flat_at {α : Type} (c : α → List Value) (m : Nat) (hc : ∀ v, (c v).length = m) : ∀ (vs : List α) (i j : Nat) (h : i < vs.length), j < m → (vs.flatMap c)[i * m + j]? = (c vs[i])[j]?
  | v :: vs, 0, j, _, hj => by
    rw [List.flatMap_cons, List.getElem?_append_left (by rw [hc]; omega)]; simp
  | v :: vs, i + 1, j, h, hj => by
    rw [List.flatMap_cons, List.getElem?_append_right (by rw [hc, Nat.succ_mul]; omega), hc, show (i + 1) * m + j - m = i * m + j by rw [Nat.succ_mul]; omega, flat_at c m hc vs i j (by simpa using h) hj]
    simp
theorem own_free {w : World} {base size n cap : Nat} {e : TypeId} {g : Nat} {xs : List Value} (h : w.ownsRow base e size (.slice (some ⟨g, 0, none⟩) n cap) n xs) : Free w (some ⟨g, 0, none⟩) (n * size) :=
  .inr ⟨g, 0, rfl, (h.lt g rfl).2, fun i hi => by
    rw [Nat.zero_add]
    refine ⟨?_, h.frozenAt i⟩
    rw [h.cellAt i hi]
    have hl := h.1
    exact ⟨xs[i]'(by omega), List.getElem?_eq_getElem (by omega)⟩⟩

theorem Turned.cellS {lo hi : Nat} {w w' : World} (h : Turned (fun b => lo ≤ b ∧ b < hi) w w') {p : Addr} (hp : p.block < w.heap.size) (hn : ¬ (lo ≤ p.block ∧ p.block < hi)) : w'.cell? p = w.cell? p := h.cell hp hn
theorem step_turned {B lo hi : Nat} {a w w' : World} (h : Below B a w) (ht : Turned (fun b => lo ≤ b ∧ b < hi) w w') (h1 : B ≤ lo) (h2 : B ≤ w.heap.size) : Below B a w' := h.trans (ht.below (fun k hk => Nat.le_trans h1 hk.1) h2)
theorem ownsRow_of_below {w w' : World} {base size n : Nat} {e : TypeId} {v : Value} {xs : List Value} (h : w.ownsRow base e size v n xs) (hb : Below w.heap.size w w') : w'.ownsRow base e size v n xs := by
  refine ⟨h.1, h.2.elim .inl fun ⟨g, cap, cur, hv, hg, hh, r⟩ => .inr ⟨g, cap, cur, hv, hg, ?_, r⟩⟩
  have hlt : g < w.heap.size := by
    rcases Nat.lt_or_ge g w.heap.size with q | q
    · exact q
    · rw [Array.getElem?_eq_none q] at hh; cases hh
  exact (hb.block g hlt).trans hh
end Go.Proofs.Ytjijichgoodocaa
