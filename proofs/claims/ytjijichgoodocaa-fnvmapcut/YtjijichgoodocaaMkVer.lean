/- Slices of strings: their sizes, copies, equality and marks. -/
import Derived.Test.YtjijichgoodocaaMark
import Derived.Lib.QuietBelow
import Derived.Test.YtjijichgoodocaaVmOk
import Derived.Lib.SmallJoins
import Derived.Deep.AppendLies
namespace Go.Proofs.Ytjijichgoodocaa
open Go.RowKit

/-- Of all that was there only these blocks may have turned. -/
structure Turned (S : Nat → Prop) (w w' : World) : Prop where
  os : w'.os = w.os
  tape : w'.tape = w.tape
  output : w'.output = w.output
  size : w.heap.size ≤ w'.heap.size
  block : ∀ k, k < w.heap.size → ¬ S k → w'.heap[k]? = w.heap[k]?
theorem Turned.refl (S : Nat → Prop) (w : World) : Turned S w w := ⟨rfl, rfl, rfl, Nat.le_refl _, fun _ _ _ => rfl⟩
theorem Turned.trans {S : Nat → Prop} {a b c : World} (h : Turned S a b) (k : Turned S b c) : Turned S a c :=
  ⟨k.os.trans h.os, k.tape.trans h.tape, k.output.trans h.output, Nat.le_trans h.size k.size, fun i hi hn => (k.block i (Nat.lt_of_lt_of_le hi h.size) hn).trans (h.block i hi hn)⟩
theorem Turned.mono {S T : Nat → Prop} {a b : World} (h : Turned S a b) (hs : ∀ k, k < a.heap.size → S k → T k) : Turned T a b := ⟨h.os, h.tape, h.output, h.size, fun k hk hn => h.block k hk (fun q => hn (hs k hk q))⟩
theorem Turned.of_below {S : Nat → Prop} {a b : World} (h : Below a.heap.size a b) : Turned S a b := ⟨h.os, h.tape, h.output, h.size, fun k hk _ => h.block k hk⟩
theorem Turned.setCell {S : Nat → Prop} {a w : World} (h : Turned S a w) {p : Addr} (hp : S p.block) (u : Value) : Turned S a (w.setCell p u) :=
  h.trans ⟨rfl, rfl, rfl, by simp [World.setCell], fun k _ hn => Below.heap_setCell _ _ _ _ (fun e => hn (e ▸ hp))⟩
theorem Turned.cell {S : Nat → Prop} {w w' : World} (h : Turned S w w') {p : Addr} (hp : p.block < w.heap.size) (hn : ¬ S p.block) : w'.cell? p = w.cell? p := World.cell?_of_block (w := w) (h.block p.block hp hn)
theorem Turned.frozen {S : Nat → Prop} {w w' : World} (h : Turned S w w') {p : Addr} (hp : p.block < w.heap.size) (hn : ¬ S p.block) : w'.frozen? p = w.frozen? p := World.frozen?_of_block (w := w) (h.block p.block hp hn)
theorem Turned.below {S : Nat → Prop} {w w' : World} {B : Nat} (h : Turned S w w') (hB : ∀ k, S k → B ≤ k) (hs : B ≤ w.heap.size) : Below B w w' := ⟨h.os, h.tape, h.output, h.size, fun k hk => h.block k (by omega) (fun q => by have := hB k q; omega)⟩

/-- A slice of strings, as it reads in u. -/
def StrsIn (u : World) (a : Option Addr) (ss : List ByteArray) : Prop :=
  ss = [] ∨ ∃ b off, a = some ⟨b, off, none⟩ ∧ b < u.heap.size ∧ ∀ i (h : i < ss.length), u.cell? ⟨b, off + i, none⟩ = some (.string ss[i])
theorem StrsIn.below {u v : World} {a : Option Addr} {ss : List ByteArray} (h : StrsIn u a ss) (hb : Below u.heap.size u v) : StrsIn v a ss := by
  rcases h with h | ⟨b, off, e, hlt, hc⟩
  · exact .inl h
  · exact .inr ⟨b, off, e, Nat.lt_of_lt_of_le hlt hb.size, fun i hi => (hb.cell (p := ⟨b, off + i, none⟩) hlt).trans (hc i hi)⟩
/-- This slice lies in no block of S. -/
def OffS (S : Nat → Prop) (a : Option Addr) : Prop := ∀ b off, a = some ⟨b, off, none⟩ → ¬ S b
theorem StrsIn.turned {S : Nat → Prop} {u v : World} {a : Option Addr} {ss : List ByteArray} (h : StrsIn u a ss) (ho : OffS S a) (ht : Turned S u v) : StrsIn v a ss := by
  rcases h with h | ⟨b, off, e, hlt, hc⟩
  · exact .inl h
  · exact .inr ⟨b, off, e, Nat.lt_of_lt_of_le hlt ht.size, fun i hi => (ht.cell (p := ⟨b, off + i, none⟩) hlt (ho b off e)).trans (hc i hi)⟩
/-- Its cells may be written. -/
def Free (u : World) (a : Option Addr) (n : Nat) : Prop := n = 0 ∨ ∃ b off, a = some ⟨b, off, none⟩ ∧ b < u.heap.size ∧ ∀ i, i < n → (∃ v, u.cell? ⟨b, off + i, none⟩ = some v) ∧ u.frozen? ⟨b, off + i, none⟩ = false
theorem Free.below {u v : World} {a : Option Addr} {n : Nat} (h : Free u a n) (hb : Below u.heap.size u v) : Free v a n := by
  rcases h with h | ⟨b, off, e, hlt, hc⟩
  · exact .inl h
  · exact .inr ⟨b, off, e, Nat.lt_of_lt_of_le hlt hb.size, fun i hi => ⟨by obtain ⟨x, hx⟩ := (hc i hi).1; exact ⟨x, (hb.cell (p := ⟨b, off + i, none⟩) hlt).trans hx⟩, (hb.frozen (p := ⟨b, off + i, none⟩) hlt).trans (hc i hi).2⟩⟩
theorem Free.turned {S : Nat → Prop} {u v : World} {a : Option Addr} {n : Nat} (h : Free u a n) (ho : OffS S a) (ht : Turned S u v) : Free v a n := by
  rcases h with h | ⟨b, off, e, hlt, hc⟩
  · exact .inl h
  · exact .inr ⟨b, off, e, Nat.lt_of_lt_of_le hlt ht.size, fun i hi => ⟨by obtain ⟨x, hx⟩ := (hc i hi).1; exact ⟨x, (ht.cell (p := ⟨b, off + i, none⟩) hlt (ho b off e)).trans hx⟩, (ht.frozen (p := ⟨b, off + i, none⟩) hlt (ho b off e)).trans (hc i hi).2⟩⟩

def lensTo (ss : List ByteArray) (k : Nat) : Nat := ((ss.take k).map fun s => s.size).sum
theorem lensTo_zero (ss : List ByteArray) : lensTo ss 0 = 0 := by simp [lensTo]
theorem lensTo_succ (ss : List ByteArray) (k : Nat) (h : k < ss.length) : lensTo ss (k + 1) = lensTo ss k + ss[k].size := by
  unfold lensTo
  rw [List.take_succ_eq_append_getElem h, List.map_append, List.sum_append]
  simp
def strsSize (ss : List ByteArray) : Nat := ss.length + lensTo ss ss.length

theorem infoStr : (Try.prog.info? 9).map (fun i => (i.zero, i.size, i.bytes)) = some (some (.string ⟨#[]⟩), 1, 16) := by kernel_rfl
theorem run_make_strs (n : Nat) (hn : n ≤ 1048576) (w : World) :
    (Instr.makeSlice 73 (.int .i64 (n : Int)) (.int .i64 (n : Int))).run Try.prog w = .ok (.slice (some ⟨w.heap.size, 0, none⟩) n n) (w.alloc (.cells (madeCells #[.string ⟨#[]⟩] n) 9)) := by
  obtain ⟨i, hi, hzz⟩ := Option.map_eq_some_iff.1 infoStr
  simp only [Prod.mk.injEq] at hzz
  obtain ⟨hz, hs, hb⟩ := hzz
  have := run_make (w := w) (P := Try.prog) 73 9 i _ Try.underlying73 hi hz .i64 .i64 (n : Int) (n : Int) (by omega) (Int.le_refl _) (by rw [hb]; omega) (by omega)
  rw [hs] at this
  simpa [Value.cells] using this

/-- The first k strings have been copied into block g. -/
def StrRow (g : Nat) (ss : List ByteArray) (k : Nat) (u : World) : Prop := ∀ i (h : i < ss.length), i < k → u.cell? ⟨g, i, none⟩ = some (.string ss[i])
def ToStrs (ss : List ByteArray) (w : World) (e : Ending) (w' : World) : Prop :=
  e = .returned (.slice (some ⟨w.heap.size, 0, none⟩) ss.length ss.length) ∧ StrsIn w' (some ⟨w.heap.size, 0, none⟩) ss ∧ Free w' (some ⟨w.heap.size, 0, none⟩) ss.length ∧ Below w.heap.size w w'
end Go.Proofs.Ytjijichgoodocaa

/- Slices of strings: their marks. -/
namespace Go.Proofs.Ytjijichgoodocaa
open Go.RowKit

def marks (k n : Nat) : List ByteArray := (List.range n).map fun i => mtext (k + i)
theorem marks_length (k n : Nat) : (marks k n).length = n := by simp [marks]
theorem marks_at (k n i : Nat) (h : i < (marks k n).length) : (marks k n)[i] = mtext (k + i) := by simp [marks]

/-- What a mark leaves of a slice of strings. -/
def MarkedStrs (S : Nat → Prop) (a : Option Addr) (k n : Nat) (w : World) (e : Ending) (w' : World) : Prop :=
  e = .returned (.int .i64 ((k : Int) + n)) ∧ StrsIn w' a (marks k n) ∧ Free w' a n ∧ Turned S w w'
end Go.Proofs.Ytjijichgoodocaa

/- Marks, cell by cell. -/
namespace Go.Proofs.Ytjijichgoodocaa
open Go.RowKit

/-- The first q of N cells of a block have been marked; of what was there only blocks of S have turned. -/
structure MkSt (f : Nat → Value) (S : Nat → Prop) (w : World) (b off N q : Nat) (u : World) : Prop where
  turned : Turned S w u
  lt : b < u.heap.size
  free : ∀ i, i < N → (∃ v, u.cell? ⟨b, off + i, none⟩ = some v) ∧ u.frozen? ⟨b, off + i, none⟩ = false
  done : ∀ i, i < q → u.cell? ⟨b, off + i, none⟩ = some (f i)
theorem MkSt.below {f : Nat → Value} {S : Nat → Prop} {w : World} {b off N q : Nat} {u v : World} (h : MkSt f S w b off N q u) (hb : Below u.heap.size u v) : MkSt f S w b off N q v :=
  ⟨h.turned.trans (Turned.of_below hb), Nat.lt_of_lt_of_le h.lt hb.size, fun i hi => ⟨by obtain ⟨x, hx⟩ := (h.free i hi).1; exact ⟨x, (hb.cell (p := ⟨b, off + i, none⟩) h.lt).trans hx⟩, (hb.frozen (p := ⟨b, off + i, none⟩) h.lt).trans (h.free i hi).2⟩, fun i hi => (hb.cell (p := ⟨b, off + i, none⟩) h.lt).trans (h.done i hi)⟩
theorem MkSt.set {f : Nat → Value} {S : Nat → Prop} {w : World} {b off N q : Nat} {u : World} (h : MkSt f S w b off N q u) (hq : q < N) (hS : S b) {p : Addr} {x : Value} (hp : p = ⟨b, off + q, none⟩) (hx : x = f q) : MkSt f S w b off N (q + 1) (u.setCell p x) := by
  subst hp hx
  refine ⟨h.turned.setCell hS _, by simpa using h.lt, fun i hi => ⟨?_, by rw [World.frozen?_setCell]; exact (h.free i hi).2⟩, fun i hi => ?_⟩
  · obtain ⟨y, hy⟩ := (h.free i hi).1
    exact cell?_setCell_some hy
  · by_cases e : i = q
    · subst e
      obtain ⟨y, hy⟩ := (h.free i hq).1
      exact World.cell?_setCell_same _ _ _ hy
    · rw [cell_off (by omega)]; exact h.done i (by omega)
theorem MkSt.at0 {f : Nat → Value} {S : Nat → Prop} {w : World} {b off N q : Nat} {u : World} (h : MkSt f S w b off N q u) (i : Nat) (hi : i < N) : ∃ v, u.cell? ⟨b, off + i, none⟩ = some v := (h.free i hi).1
theorem MkSt.fz0 {f : Nat → Value} {S : Nat → Prop} {w : World} {b off N q : Nat} {u : World} (h : MkSt f S w b off N q u) (i : Nat) (hi : i < N) : u.frozen? ⟨b, off + i, none⟩ = false := (h.free i hi).2
theorem MkSt.start {f : Nat → Value} {S : Nat → Prop} {w : World} {b off N : Nat} (hb : b < w.heap.size) (hc : ∀ i, i < N → (∃ v, w.cell? ⟨b, off + i, none⟩ = some v) ∧ w.frozen? ⟨b, off + i, none⟩ = false) : MkSt f S w b off N 0 w :=
  ⟨Turned.refl _ _, hb, hc, fun i hi => absurd hi (by omega)⟩
theorem markText_at {z : Int} (k : Nat) (hz : z = (k : Int)) (w : World) (h1 : 1 ≤ k) (h2 : k ≤ 100000000) :
    Calls Try.prog 172 #[.int .i64 z] w fun e w' => e = .returned (.string (mtext k)) ∧ Below w.heap.size w w' := hz ▸ markText_any k w h1 h2
end Go.Proofs.Ytjijichgoodocaa

/- Where slices lie that a call owns; what a call has made by appends. -/
namespace Go.Proofs.Ytjijichgoodocaa
open Go.RowKit

/-- This slice lies in blocks from lo up to hi. -/
def Lies (lo hi : Nat) (a : Option Addr) : Prop := ∀ b off, a = some ⟨b, off, none⟩ → lo ≤ b ∧ b < hi
def Apart (a b : Option Addr) : Prop := ∀ x o y p, a = some ⟨x, o, none⟩ → b = some ⟨y, p, none⟩ → x ≠ y
theorem Lies.off {lo hi : Nat} {a : Option Addr} {S : Nat → Prop} (h : Lies lo hi a) (hS : ∀ b, lo ≤ b → b < hi → ¬ S b) : OffS S a := fun b off e => hS b (h b off e).1 (h b off e).2
theorem Lies.mono {lo hi lo' hi' : Nat} {a : Option Addr} (h : Lies lo hi a) (h1 : lo' ≤ lo) (h2 : hi ≤ hi') : Lies lo' hi' a := fun b off e => ⟨Nat.le_trans h1 (h b off e).1, Nat.lt_of_lt_of_le (h b off e).2 h2⟩

/-! What a call has made by appends. -/
theorem flat_len {α : Type} (c : α → List Value) (m : Nat) (hc : ∀ v, (c v).length = m) (vs : List α) : (vs.flatMap c).length = vs.length * m := by
  induction vs with
  | nil => simp
  | cons v vs ih => rw [List.flatMap_cons, List.length_append, ih, hc, List.length_cons, Nat.succ_mul, Nat.add_comm]
theorem flat_at {α : Type} (c : α → List Value) (m : Nat) (hc : ∀ v, (c v).length = m) : ∀ (vs : List α) (i j : Nat) (h : i < vs.length), j < m → (vs.flatMap c)[i * m + j]? = (c vs[i])[j]?
  | v :: vs, 0, j, _, hj => by
    rw [List.flatMap_cons, List.getElem?_append_left (by rw [hc]; omega)]; simp
  | v :: vs, i + 1, j, h, hj => by
    rw [List.flatMap_cons, List.getElem?_append_right (by rw [hc, Nat.succ_mul]; omega), hc, show (i + 1) * m + j - m = i * m + j by rw [Nat.succ_mul]; omega, flat_at c m hc vs i j (by simpa using h) hj]
    simp
theorem own_free {w : World} {base size n cap : Nat} {e : TypeId} {g : Nat} {xs : List Value} (h : w.ownsRow base e size (.slice (some ⟨g, 0, none⟩) n cap) n xs) : Free w (some ⟨g, 0, none⟩) (n * size) :=
  .inr ⟨g, 0, rfl, (h.lt g rfl).2, fun i hi => by
    rw [Nat.zero_add]
    refine ⟨?_, h.frozenAt i⟩
    rw [h.cellAt i hi]
    have hl := h.1
    exact ⟨xs[i]'(by omega), List.getElem?_eq_getElem (by omega)⟩⟩

theorem Turned.cellS {lo hi : Nat} {w w' : World} (h : Turned (fun b => lo ≤ b ∧ b < hi) w w') {p : Addr} (hp : p.block < w.heap.size) (hn : ¬ (lo ≤ p.block ∧ p.block < hi)) : w'.cell? p = w.cell? p := h.cell hp hn
theorem step_turned {B lo hi : Nat} {a w w' : World} (h : Below B a w) (ht : Turned (fun b => lo ≤ b ∧ b < hi) w w') (h1 : B ≤ lo) (h2 : B ≤ w.heap.size) : Below B a w' := h.trans (ht.below (fun k hk => Nat.le_trans h1 hk.1) h2)
theorem ownsRow_of_below {w w' : World} {base size n : Nat} {e : TypeId} {v : Value} {xs : List Value} (h : w.ownsRow base e size v n xs) (hb : Below w.heap.size w w') : w'.ownsRow base e size v n xs := by
  refine ⟨h.1, h.2.elim .inl fun ⟨g, cap, cur, hv, hg, hh, r⟩ => .inr ⟨g, cap, cur, hv, hg, ?_, r⟩⟩
  have hlt : g < w.heap.size := by
    rcases Nat.lt_or_ge g w.heap.size with q | q
    · exact q
    · rw [Array.getElem?_eq_none q] at hh; cases hh
  exact (hb.block g hlt).trans hh
end Go.Proofs.Ytjijichgoodocaa

/- Versions in memory that belongs to a call: what marks leave, copies, and that what lies elsewhere stays. -/
namespace Go.Proofs.Ytjijichgoodocaa
open Go.RowKit

def Vermarks (k n : Nat) : List VerD := (List.range n).map fun i => ⟨((k + i * 3 : Nat) : Int), mtext (k + i * 3 + 1), decide ((k + i * 3 + 2) % 3 = 0)⟩
theorem Vermarks_length (k n : Nat) : (Vermarks k n).length = n := by simp [Vermarks]
theorem Vermarks_at (k n i : Nat) (h : i < (Vermarks k n).length) : (Vermarks k n)[i] = ⟨((k + i * 3 : Nat) : Int), mtext (k + i * 3 + 1), decide ((k + i * 3 + 2) % 3 = 0)⟩ := by simp [Vermarks]

def MarkedVers (S : Nat → Prop) (a : Option Addr) (k n : Nat) (w : World) (e : Ending) (w' : World) : Prop :=
  e = .returned (.int .i64 ((k + n * 3 : Nat) : Int)) ∧ VersIn w' a (Vermarks k n) ∧ Free w' a (n * 3) ∧ Turned S w w'

theorem VersIn.turned {S : Nat → Prop} {u v : World} {a : Option Addr} {vs : List VerD} (h : VersIn u a vs) (ho : OffS S a) (ht : Turned S u v) : VersIn v a vs := by
  rcases h with h | ⟨b, off, e, hlt, hc⟩
  · exact .inl h
  · refine .inr ⟨b, off, e, Nat.lt_of_lt_of_le hlt ht.size, fun i hi => ?_⟩
    rw [ht.cell (p := ⟨b, off + i * 3, none⟩) hlt (ho b off e), ht.cell (p := ⟨b, off + i * 3 + 1, none⟩) hlt (ho b off e), ht.cell (p := ⟨b, off + i * 3 + 2, none⟩) hlt (ho b off e)]
    exact hc i hi
theorem ObjsIn.turned {S : Nat → Prop} {u v : World} {a : Option Addr} {os : List ObjD} (h : ObjsIn u a os) (ho : OffS S a) (h2 : ∀ o ∈ os, OffS S o.at_) (ht : Turned S u v) : ObjsIn v a os := by
  rcases h with h | ⟨b, off, e, hlt, hc⟩
  · exact .inl h
  · refine .inr ⟨b, off, e, Nat.lt_of_lt_of_le hlt ht.size, fun i hi => ?_⟩
    obtain ⟨c0, c1, c2⟩ := hc i hi
    exact ⟨(ht.cell (p := ⟨b, off + i * 2, none⟩) hlt (ho b off e)).trans c0, (ht.cell (p := ⟨b, off + i * 2 + 1, none⟩) hlt (ho b off e)).trans c1, c2.turned (h2 _ (List.getElem_mem hi)) ht⟩

/-- What a copy of versions is: new memory that may be written. -/
def ToVersF (vs : List VerD) (w : World) (e : Ending) (w' : World) : Prop :=
  e = .returned (.slice (some ⟨w.heap.size, 0, none⟩) vs.length vs.length) ∧ VersIn w' (some ⟨w.heap.size, 0, none⟩) vs ∧ Free w' (some ⟨w.heap.size, 0, none⟩) (vs.length * 3) ∧ Below w.heap.size w w' ∧ w.heap.size < w'.heap.size

set_option maxHeartbeats 2000000 in
theorem toVerS_free (a : Option Addr) (vs : List VerD) (cap : Nat) (w : World) (hv : VersIn w a vs) (hn : vs.length ≤ 1048576) :
    Calls Try.prog 191 #[.slice a vs.length cap] w (ToVersF vs w) := by
  have HV := Lib.hid hv
  clear hv
  have hmk := run_make_vers vs.length hn
  go_enter Try.func191, Try.ntmps191
  go_wp2_with fail
  go_loopw [4] (fun i wr => ∃ k : Nat, k ≤ vs.length ∧ i = .int .i64 k ∧ Below w.heap.size w wr ∧ Row w.heap.size (vs.length * 3) wr ∧ VerRow w.heap.size vs k wr) (fun i _ => vs.length - (intOf i).toNat)
  case atStart => exact ⟨0, Nat.zero_le _, rfl, (Below.refl _ _).alloc (Nat.le_refl _) _, Row.made _ _ _ w, fun _ _ h => absurd h (by omega)⟩
  case round =>
    obtain ⟨k, hk, rfl, hB, hR, hP⟩ := hrel
    have HW := Lib.hid hB
    have HR := Lib.hid hR
    have HP := Lib.hid hP
    clear hB hR hP hmk
    by_cases hlt : k < vs.length
    · rcases HV.out.below HW.out with hnil | ⟨b1, o1, rfl, hb1, hc1⟩
      · rw [hnil] at hlt; simp at hlt
      obtain ⟨c0, c1, c2⟩ := hc1 k hlt
      clear hc1
      go_wp2_with fail
      with_reducible refine (toVer_any _ _ _ _).mono ?_
      rintro e w2 ⟨rfl, hw2⟩
      have HR2 := Lib.hid (HR.out.below hw2)
      have HP2 := Lib.hid (HP.out.below HR.out.1 hw2)
      have HW2 := Lib.hid (HW.out.trans (hw2.mono HW.out.size))
      obtain ⟨v0, d0⟩ := (HR2.out.2 (k * 3) (by omega)).1
      obtain ⟨v1, d1⟩ := (HR2.out.2 (k * 3 + 1) (by omega)).1
      obtain ⟨v2, d2⟩ := (HR2.out.2 (k * 3 + 2) (by omega)).1
      have f0 := (HR2.out.2 (k * 3) (by omega)).2
      have f1 := (HR2.out.2 (k * 3 + 1) (by omega)).2
      have f2 := (HR2.out.2 (k * 3 + 2) (by omega)).2
      clear hw2 c0 c1 c2
      go_wp2_with fail
      go_roundw
      case rel => exact ⟨k + 1, by omega, by go_num, ((HW2.out.setCell (p := ⟨w.heap.size, k * 3, none⟩) (Nat.le_refl _) _).setCell (p := ⟨w.heap.size, k * 3 + 1, none⟩) (Nat.le_refl _) _).setCell (p := ⟨w.heap.size, k * 3 + 2, none⟩) (Nat.le_refl _) _, ((HR2.out.set).set).set, HP2.out.step HR2.out hlt⟩
      case measure => simp [intOf]; omega
    · go_wp2_with fail
      go_ret
      obtain rfl : k = vs.length := by omega
      refine ⟨rfl, .inr ⟨w.heap.size, 0, rfl, HR.out.1, fun i hi => ?_⟩, .inr ⟨w.heap.size, 0, rfl, HR.out.1, fun i hi => ?_⟩, HW.out, HR.out.1⟩
      · have := HP.out i hi hi
        simpa using this
      · have := HR.out.2 i hi
        simpa using this
end Go.Proofs.Ytjijichgoodocaa

/- Slices of Ver: their marks. -/
namespace Go.Proofs.Ytjijichgoodocaa
open Go.RowKit

def Vermf (k i : Nat) : Value := if i % 3 = 0 then .int .i64 ((k + i : Nat) : Int) else if i % 3 = 1 then .string (mtext (k + i)) else .bool (decide ((k + i) % 3 = 0))

theorem Vermf_0 (k i : Nat) : Vermf k (i * 3) = .int .i64 ((k + i * 3 : Nat) : Int) := by
  unfold Vermf
  simp only [show (i * 3) % 3 = 0 by omega, if_true, if_false, Nat.reduceEqDiff, Nat.add_assoc]
theorem Vermf_1 (k i : Nat) : Vermf k (i * 3 + 1) = .string (mtext (k + i * 3 + 1)) := by
  unfold Vermf
  simp only [show (i * 3 + 1) % 3 = 1 by omega, if_true, if_false, Nat.reduceEqDiff, Nat.add_assoc]
theorem Vermf_2 (k i : Nat) : Vermf k (i * 3 + 2) = .bool (decide ((k + i * 3 + 2) % 3 = 0)) := by
  unfold Vermf
  simp only [show (i * 3 + 2) % 3 = 2 by omega, if_true, if_false, Nat.reduceEqDiff, Nat.add_assoc]
theorem VersIn.of_marks {S : Nat → Prop} {w u : World} {b off n k : Nat} (h : MkSt (Vermf k) S w b off (n * 3) (n * 3) u) : VersIn u (some ⟨b, off, none⟩) (Vermarks k n) := by
  refine .inr ⟨b, off, rfl, h.lt, fun i hi => ?_⟩
  have hi' : i < n := by rw [Vermarks_length] at hi; exact hi
  simp only [Vermarks_at]
  have h0 := h.done (i * 3) (by omega)
  rw [Vermf_0] at h0
  have h1 := h.done (i * 3 + 1) (by omega)
  rw [Vermf_1] at h1
  have h2 := h.done (i * 3 + 2) (by omega)
  rw [Vermf_2] at h2
  simp only [← Nat.add_assoc] at h0 h1 h2 ⊢
  exact ⟨h0, h1, h2⟩

set_option maxRecDepth 100000 in
set_option maxHeartbeats 2000000 in
theorem markVerS_any (S : Nat → Prop) (a : Option Addr) (n cap k : Nat) (w : World) (hf : Free w a (n * 3)) (hS : ∀ b off, a = some ⟨b, off, none⟩ → S b) (hk : 1 ≤ k) (hkn : k + n * 3 ≤ 100000000) :
    Calls Try.prog 173 #[.slice a n cap, .int .i64 (k : Int)] w (MarkedVers S a k n w) := by
  rcases hf with h0 | ⟨b, off, rfl, hb, hc⟩
  · obtain rfl : n = 0 := by omega
    go_enter Try.func173, Try.ntmps173
    go_wp2_with fail
    go_loop [1, 5] (fun l i => l = .int .i64 (k : Int) ∧ i = .int .i64 0) (fun _ _ => 0)
    case atStart => exact ⟨rfl, rfl⟩
    case round =>
      obtain ⟨rfl, rfl⟩ := hrel
      go_wp2_with fail
      go_ret
      exact ⟨by simp, .inl rfl, .inl rfl, Turned.refl _ _⟩
  · have HS := Lib.hid (hS b off rfl)
    have HC := Lib.hid hc
    clear hS hc
    go_enter Try.func173, Try.ntmps173
    go_wp2_with fail
    go_loopw [1, 5] (fun l i wr => ∃ j : Nat, j ≤ n ∧ i = .int .i64 j ∧ l = .int .i64 ((k + j * 3 : Nat) : Int) ∧ MkSt (Vermf k) S w b off (n * 3) (j * 3) wr) (fun _ i _ => n - (intOf i).toNat)
    case atStart => exact ⟨0, Nat.zero_le _, rfl, by simp, by rw [Nat.zero_mul]; exact MkSt.start hb HC.out⟩
    case round =>
      obtain ⟨j, hj, rfl, rfl, hM⟩ := hrel
      have HM := Lib.hid hM
      clear hM
      by_cases hlt : j < n
      · skip
        obtain ⟨v0, d0⟩ := HM.out.at0 (j * 3) (by omega)
        have f0 := HM.out.fz0 (j * 3) (by omega)
        go_wp2_with fail
        refine (markText_at (k + j * 3 + 1) ?hz1 _ (by omega) (by omega)).mono ?_
        case hz1 => omega
        rintro e w3 ⟨rfl, hb3⟩
        have HM3 := Lib.hid (((HM.out.set (by omega) HS.out (p := ⟨b, off + j * 3, none⟩) rfl (by rw [Vermf_0]; go_num))).below hb3)
        clear hb3
        clear d0 f0
        obtain ⟨v1, d1⟩ := HM3.out.at0 (j * 3 + 1) (by omega)
        have f1 := HM3.out.fz0 (j * 3 + 1) (by omega)
        rw [← Nat.add_assoc] at d1 f1
        obtain ⟨v2, d2⟩ := HM3.out.at0 (j * 3 + 2) (by omega)
        have f2 := HM3.out.fz0 (j * 3 + 2) (by omega)
        rw [← Nat.add_assoc] at d2 f2
        go_wp2_with fail
        go_roundw
        case rel => exact ⟨j + 1, by omega, by go_num, by go_num, by rw [show (j + 1) * 3 = j * 3 + 2 + 1 by omega]; exact ((HM3.out.set (by omega) HS.out (p := ⟨b, off + j * 3 + 1, none⟩) (by rw [Nat.add_assoc]) (by rw [Vermf_1])).set (by omega) HS.out (p := ⟨b, off + j * 3 + 2, none⟩) (by rw [Nat.add_assoc]) (by rw [Vermf_2]; exact congrArg Value.bool (by rw [Bool.eq_iff_iff]; simp <;> omega)))⟩
        case measure => simp [intOf]; omega
      · obtain rfl : j = n := by omega
        go_wp2_with fail
        go_ret
        exact ⟨by simp, VersIn.of_marks HM.out, .inr ⟨b, off, rfl, HM.out.lt, HM.out.free⟩, HM.out.turned⟩

set_option maxRecDepth 100000 in
set_option maxHeartbeats 2000000 in
theorem heldVerS_any (a : Option Addr) (n cap k : Nat) (w : World) (hv : VersIn w a (Vermarks k n)) (hk : 1 ≤ k) (hkn : k + n * 3 ≤ 100000000) :
    Calls Try.prog 174 #[.slice a n cap, .int .i64 (k : Int)] w fun e w' => e = .returned (.int .i64 ((k + n * 3 : Nat) : Int)) ∧ Below w.heap.size w w' := by
  have HV := Lib.hid hv
  clear hv
  go_enter Try.func174, Try.ntmps174
  go_wp2_with fail
  go_loopw [1, 5] (fun l i wr => ∃ j : Nat, j ≤ n ∧ i = .int .i64 j ∧ l = .int .i64 ((k + j * 3 : Nat) : Int) ∧ Below w.heap.size w wr) (fun _ i _ => n - (intOf i).toNat)
  case atStart => exact ⟨0, Nat.zero_le _, rfl, by simp, Below.refl _ _⟩
  case round =>
    obtain ⟨j, hj, rfl, rfl, hB⟩ := hrel
    have HB := Lib.hid hB
    clear hB
    by_cases hlt : j < n
    · rcases HV.out.below HB.out with hnil | ⟨b1, o1, rfl, hb1, hc1⟩
      · have := congrArg List.length hnil; simp [Vermarks_length] at this; omega
      obtain ⟨c0, c1, c2⟩ := hc1 j (by rw [Vermarks_length]; exact hlt)
      simp only [Vermarks_at] at c0 c1 c2
      rw [show ((k + j * 3 : Nat) : Int) = ((k + j * 3 : Nat) : Int) by omega] at c0
      rw [show decide ((k + j * 3 + 2) % 3 = 0) = ((((k + j * 3 : Nat) : Int) + 1 + 1) % 3 == 0) by rw [Bool.eq_iff_iff]; simp <;> omega] at c2
      clear hc1
      have y1 := cell_regrown c1
      go_wp2_with fail
      refine wp_region_quiet_below (by kernel_rfl) (by kernel_rfl) ?_
      repeat (go_big_quiet_step ((go_at_call 172; exact Calls.regrown_of (markText_at (k + j * 3 + 1) (by omega) _ (by omega) (by omega)))))
      refine wpQuiet_nil ?_
      intro _ hw'
      obtain ⟨⟨dq1, osq1⟩, hw''⟩ := hw'
      subst hw''
      replace c2 := cell_regrown c2 dq1 osq1
      clear y1 c1
      have HB1 := Lib.hid (HB.out.trans ((below_regrown _ dq1 osq1).mono HB.out.size))
      go_wp2_with fail
      (try (go_quiet (fail); go_wp2_with fail))
      (try (go_quiet (fail); go_wp2_with fail))
      (try (go_quiet (fail); go_wp2_with fail))
      go_roundw
      case rel => exact ⟨j + 1, by omega, by go_num, by go_num, by first | exact HB1.out | exact Below.drewN HB1.out _ | exact Below.drewN (Below.drewN HB1.out _) _⟩
      case measure => simp [intOf]; omega
    · obtain rfl : j = n := by omega
      go_wp2_with fail
      go_ret
      exact ⟨by simp, HB.out⟩
end Go.Proofs.Ytjijichgoodocaa
