/- Slices of strings: their sizes, copies, equality and marks. -/
import Derived.Test.YtjijichgoodocaaMark
import Derived.Lib.QuietBelow
import Derived.Test.YtjijichgoodocaaVmOk
namespace Go.Proofs.Ytjijichgoodocaa
open Go.RowKit

/-- Of all that was there only these blocks may have turned. -/
structure Turned (S : Nat → Prop) (w w' : World) : Prop where
  os : w'.os = w.os
  tape : w'.tape = w.tape
  output : w'.output = w.output
  size : w.heap.size ≤ w'.heap.size
  block : ∀ k, k < w.heap.size → ¬ S k → w'.heap[k]? = w.heap[k]?
theorem Turned.refl (S : Nat → Prop) (w : World) : Turned S w w := ⟨rfl, rfl, rfl, Nat.le_refl _, fun _ _ _ => rfl⟩
theorem Turned.trans {S : Nat → Prop} {a b c : World} (h : Turned S a b) (k : Turned S b c) : Turned S a c :=
  ⟨k.os.trans h.os, k.tape.trans h.tape, k.output.trans h.output, Nat.le_trans h.size k.size, fun i hi hn => (k.block i (Nat.lt_of_lt_of_le hi h.size) hn).trans (h.block i hi hn)⟩
theorem Turned.mono {S T : Nat → Prop} {a b : World} (h : Turned S a b) (hs : ∀ k, k < a.heap.size → S k → T k) : Turned T a b := ⟨h.os, h.tape, h.output, h.size, fun k hk hn => h.block k hk (fun q => hn (hs k hk q))⟩
theorem Turned.of_below {S : Nat → Prop} {a b : World} (h : Below a.heap.size a b) : Turned S a b := ⟨h.os, h.tape, h.output, h.size, fun k hk _ => h.block k hk⟩
theorem Turned.setCell {S : Nat → Prop} {a w : World} (h : Turned S a w) {p : Addr} (hp : S p.block) (u : Value) : Turned S a (w.setCell p u) :=
  h.trans ⟨rfl, rfl, rfl, by simp [World.setCell], fun k _ hn => Below.heap_setCell _ _ _ _ (fun e => hn (e ▸ hp))⟩
theorem Turned.cell {S : Nat → Prop} {w w' : World} (h : Turned S w w') {p : Addr} (hp : p.block < w.heap.size) (hn : ¬ S p.block) : w'.cell? p = w.cell? p := World.cell?_of_block (w := w) (h.block p.block hp hn)
theorem Turned.frozen {S : Nat → Prop} {w w' : World} (h : Turned S w w') {p : Addr} (hp : p.block < w.heap.size) (hn : ¬ S p.block) : w'.frozen? p = w.frozen? p := World.frozen?_of_block (w := w) (h.block p.block hp hn)
theorem Turned.below {S : Nat → Prop} {w w' : World} {B : Nat} (h : Turned S w w') (hB : ∀ k, S k → B ≤ k) (hs : B ≤ w.heap.size) : Below B w w' := ⟨h.os, h.tape, h.output, h.size, fun k hk => h.block k (by omega) (fun q => by have := hB k q; omega)⟩

/-- A slice of strings, as it reads in u. -/
def StrsIn (u : World) (a : Option Addr) (ss : List ByteArray) : Prop :=
  ss = [] ∨ ∃ b off, a = some ⟨b, off, none⟩ ∧ b < u.heap.size ∧ ∀ i (h : i < ss.length), u.cell? ⟨b, off + i, none⟩ = some (.string ss[i])
theorem StrsIn.below {u v : World} {a : Option Addr} {ss : List ByteArray} (h : StrsIn u a ss) (hb : Below u.heap.size u v) : StrsIn v a ss := by
  rcases h with h | ⟨b, off, e, hlt, hc⟩
  · exact .inl h
  · exact .inr ⟨b, off, e, Nat.lt_of_lt_of_le hlt hb.size, fun i hi => (hb.cell (p := ⟨b, off + i, none⟩) hlt).trans (hc i hi)⟩
/-- This slice lies in no block of S. -/
def OffS (S : Nat → Prop) (a : Option Addr) : Prop := ∀ b off, a = some ⟨b, off, none⟩ → ¬ S b
theorem StrsIn.turned {S : Nat → Prop} {u v : World} {a : Option Addr} {ss : List ByteArray} (h : StrsIn u a ss) (ho : OffS S a) (ht : Turned S u v) : StrsIn v a ss := by
  rcases h with h | ⟨b, off, e, hlt, hc⟩
  · exact .inl h
  · exact .inr ⟨b, off, e, Nat.lt_of_lt_of_le hlt ht.size, fun i hi => (ht.cell (p := ⟨b, off + i, none⟩) hlt (ho b off e)).trans (hc i hi)⟩
/-- Its cells may be written. -/
def Free (u : World) (a : Option Addr) (n : Nat) : Prop := n = 0 ∨ ∃ b off, a = some ⟨b, off, none⟩ ∧ b < u.heap.size ∧ ∀ i, i < n → (∃ v, u.cell? ⟨b, off + i, none⟩ = some v) ∧ u.frozen? ⟨b, off + i, none⟩ = false
theorem Free.below {u v : World} {a : Option Addr} {n : Nat} (h : Free u a n) (hb : Below u.heap.size u v) : Free v a n := by
  rcases h with h | ⟨b, off, e, hlt, hc⟩
  · exact .inl h
  · exact .inr ⟨b, off, e, Nat.lt_of_lt_of_le hlt hb.size, fun i hi => ⟨by obtain ⟨x, hx⟩ := (hc i hi).1; exact ⟨x, (hb.cell (p := ⟨b, off + i, none⟩) hlt).trans hx⟩, (hb.frozen (p := ⟨b, off + i, none⟩) hlt).trans (hc i hi).2⟩⟩
theorem Free.turned {S : Nat → Prop} {u v : World} {a : Option Addr} {n : Nat} (h : Free u a n) (ho : OffS S a) (ht : Turned S u v) : Free v a n := by
  rcases h with h | ⟨b, off, e, hlt, hc⟩
  · exact .inl h
  · exact .inr ⟨b, off, e, Nat.lt_of_lt_of_le hlt ht.size, fun i hi => ⟨by obtain ⟨x, hx⟩ := (hc i hi).1; exact ⟨x, (ht.cell (p := ⟨b, off + i, none⟩) hlt (ho b off e)).trans hx⟩, (ht.frozen (p := ⟨b, off + i, none⟩) hlt (ho b off e)).trans (hc i hi).2⟩⟩

def lensTo (ss : List ByteArray) (k : Nat) : Nat := ((ss.take k).map fun s => s.size).sum
theorem lensTo_zero (ss : List ByteArray) : lensTo ss 0 = 0 := by simp [lensTo]
theorem lensTo_succ (ss : List ByteArray) (k : Nat) (h : k < ss.length) : lensTo ss (k + 1) = lensTo ss k + ss[k].size := by
  unfold lensTo
  rw [List.take_succ_eq_append_getElem h, List.map_append, List.sum_append]
  simp
def strsSize (ss : List ByteArray) : Nat := ss.length + lensTo ss ss.length

theorem infoStr : (Try.prog.info? 9).map (fun i => (i.zero, i.size, i.bytes)) = some (some (.string ⟨#[]⟩), 1, 16) := by kernel_rfl
theorem run_make_strs (n : Nat) (hn : n ≤ 1048576) (w : World) :
    (Instr.makeSlice 73 (.int .i64 (n : Int)) (.int .i64 (n : Int))).run Try.prog w = .ok (.slice (some ⟨w.heap.size, 0, none⟩) n n) (w.alloc (.cells (madeCells #[.string ⟨#[]⟩] n) 9)) := by
  obtain ⟨i, hi, hzz⟩ := Option.map_eq_some_iff.1 infoStr
  simp only [Prod.mk.injEq] at hzz
  obtain ⟨hz, hs, hb⟩ := hzz
  have := run_make (w := w) (P := Try.prog) 73 9 i _ Try.underlying73 hi hz .i64 .i64 (n : Int) (n : Int) (by omega) (Int.le_refl _) (by rw [hb]; omega) (by omega)
  rw [hs] at this
  simpa [Value.cells] using this

/-- The first k strings have been copied into block g. -/
def StrRow (g : Nat) (ss : List ByteArray) (k : Nat) (u : World) : Prop := ∀ i (h : i < ss.length), i < k → u.cell? ⟨g, i, none⟩ = some (.string ss[i])
def ToStrs (ss : List ByteArray) (w : World) (e : Ending) (w' : World) : Prop :=
  e = .returned (.slice (some ⟨w.heap.size, 0, none⟩) ss.length ss.length) ∧ StrsIn w' (some ⟨w.heap.size, 0, none⟩) ss ∧ Free w' (some ⟨w.heap.size, 0, none⟩) ss.length ∧ Below w.heap.size w w'
end Go.Proofs.Ytjijichgoodocaa
