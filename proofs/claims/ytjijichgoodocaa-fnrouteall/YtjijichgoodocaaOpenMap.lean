/- Slices of strings: their sizes, copies, equality and marks. -/
import Derived.Test.YtjijichgoodocaaVmSpec
import Derived.Lib.QuietBelow
import Derived.Test.YtjijichgoodocaaVmOk
import Derived.Test.YtjijichgoodocaaVmTo
import Derived.WalkKit
import Derived.ProofKit
import Derived.OpenShut
import Derived.ShutString
import Derived.Lib.SmallJoins
import Derived.Deep.Slices
import Derived.Deep.Fields
import Derived.ChangeSame
namespace Go.Proofs.Ytjijichgoodocaa
open Go.RowKit

/-- Of all that was there only these blocks may have turned. -/
structure Turned (S : Nat → Prop) (w w' : World) : Prop where
  os : w'.os = w.os
  tape : w'.tape = w.tape
  output : w'.output = w.output
  size : w.heap.size ≤ w'.heap.size
  block : ∀ k, k < w.heap.size → ¬ S k → w'.heap[k]? = w.heap[k]?
theorem Turned.refl (S : Nat → Prop) (w : World) : Turned S w w := ⟨rfl, rfl, rfl, Nat.le_refl _, fun _ _ _ => rfl⟩
theorem Turned.trans {S : Nat → Prop} {a b c : World} (h : Turned S a b) (k : Turned S b c) : Turned S a c :=
  ⟨k.os.trans h.os, k.tape.trans h.tape, k.output.trans h.output, Nat.le_trans h.size k.size, fun i hi hn => (k.block i (Nat.lt_of_lt_of_le hi h.size) hn).trans (h.block i hi hn)⟩
theorem Turned.mono {S T : Nat → Prop} {a b : World} (h : Turned S a b) (hs : ∀ k, k < a.heap.size → S k → T k) : Turned T a b := ⟨h.os, h.tape, h.output, h.size, fun k hk hn => h.block k hk (fun q => hn (hs k hk q))⟩
theorem Turned.of_below {S : Nat → Prop} {a b : World} (h : Below a.heap.size a b) : Turned S a b := ⟨h.os, h.tape, h.output, h.size, fun k hk _ => h.block k hk⟩
theorem Turned.setCell {S : Nat → Prop} {a w : World} (h : Turned S a w) {p : Addr} (hp : S p.block) (u : Value) : Turned S a (w.setCell p u) :=
  h.trans ⟨rfl, rfl, rfl, by simp [World.setCell], fun k _ hn => Below.heap_setCell _ _ _ _ (fun e => hn (e ▸ hp))⟩
theorem Turned.cell {S : Nat → Prop} {w w' : World} (h : Turned S w w') {p : Addr} (hp : p.block < w.heap.size) (hn : ¬ S p.block) : w'.cell? p = w.cell? p := World.cell?_of_block (w := w) (h.block p.block hp hn)
theorem Turned.frozen {S : Nat → Prop} {w w' : World} (h : Turned S w w') {p : Addr} (hp : p.block < w.heap.size) (hn : ¬ S p.block) : w'.frozen? p = w.frozen? p := World.frozen?_of_block (w := w) (h.block p.block hp hn)
theorem Turned.below {S : Nat → Prop} {w w' : World} {B : Nat} (h : Turned S w w') (hB : ∀ k, S k → B ≤ k) (hs : B ≤ w.heap.size) : Below B w w' := ⟨h.os, h.tape, h.output, h.size, fun k hk => h.block k (by omega) (fun q => by have := hB k q; omega)⟩

/-- A slice of strings, as it reads in u. -/
def StrsIn (u : World) (a : Option Addr) (ss : List ByteArray) : Prop :=
  ss = [] ∨ ∃ b off, a = some ⟨b, off, none⟩ ∧ b < u.heap.size ∧ ∀ i (h : i < ss.length), u.cell? ⟨b, off + i, none⟩ = some (.string ss[i])
theorem StrsIn.below {u v : World} {a : Option Addr} {ss : List ByteArray} (h : StrsIn u a ss) (hb : Below u.heap.size u v) : StrsIn v a ss := by
  rcases h with h | ⟨b, off, e, hlt, hc⟩
  · exact .inl h
  · exact .inr ⟨b, off, e, Nat.lt_of_lt_of_le hlt hb.size, fun i hi => (hb.cell (p := ⟨b, off + i, none⟩) hlt).trans (hc i hi)⟩
/-- This slice lies in no block of S. -/
def OffS (S : Nat → Prop) (a : Option Addr) : Prop := ∀ b off, a = some ⟨b, off, none⟩ → ¬ S b
theorem StrsIn.turned {S : Nat → Prop} {u v : World} {a : Option Addr} {ss : List ByteArray} (h : StrsIn u a ss) (ho : OffS S a) (ht : Turned S u v) : StrsIn v a ss := by
  rcases h with h | ⟨b, off, e, hlt, hc⟩
  · exact .inl h
  · exact .inr ⟨b, off, e, Nat.lt_of_lt_of_le hlt ht.size, fun i hi => (ht.cell (p := ⟨b, off + i, none⟩) hlt (ho b off e)).trans (hc i hi)⟩
/-- Its cells may be written. -/
def Free (u : World) (a : Option Addr) (n : Nat) : Prop := n = 0 ∨ ∃ b off, a = some ⟨b, off, none⟩ ∧ b < u.heap.size ∧ ∀ i, i < n → (∃ v, u.cell? ⟨b, off + i, none⟩ = some v) ∧ u.frozen? ⟨b, off + i, none⟩ = false
theorem Free.below {u v : World} {a : Option Addr} {n : Nat} (h : Free u a n) (hb : Below u.heap.size u v) : Free v a n := by
  rcases h with h | ⟨b, off, e, hlt, hc⟩
  · exact .inl h
  · exact .inr ⟨b, off, e, Nat.lt_of_lt_of_le hlt hb.size, fun i hi => ⟨by obtain ⟨x, hx⟩ := (hc i hi).1; exact ⟨x, (hb.cell (p := ⟨b, off + i, none⟩) hlt).trans hx⟩, (hb.frozen (p := ⟨b, off + i, none⟩) hlt).trans (hc i hi).2⟩⟩
theorem Free.turned {S : Nat → Prop} {u v : World} {a : Option Addr} {n : Nat} (h : Free u a n) (ho : OffS S a) (ht : Turned S u v) : Free v a n := by
  rcases h with h | ⟨b, off, e, hlt, hc⟩
  · exact .inl h
  · exact .inr ⟨b, off, e, Nat.lt_of_lt_of_le hlt ht.size, fun i hi => ⟨by obtain ⟨x, hx⟩ := (hc i hi).1; exact ⟨x, (ht.cell (p := ⟨b, off + i, none⟩) hlt (ho b off e)).trans hx⟩, (ht.frozen (p := ⟨b, off + i, none⟩) hlt (ho b off e)).trans (hc i hi).2⟩⟩

def lensTo (ss : List ByteArray) (k : Nat) : Nat := ((ss.take k).map fun s => s.size).sum
theorem lensTo_zero (ss : List ByteArray) : lensTo ss 0 = 0 := by simp [lensTo]
theorem lensTo_succ (ss : List ByteArray) (k : Nat) (h : k < ss.length) : lensTo ss (k + 1) = lensTo ss k + ss[k].size := by
  unfold lensTo
  rw [List.take_succ_eq_append_getElem h, List.map_append, List.sum_append]
  simp
def strsSize (ss : List ByteArray) : Nat := ss.length + lensTo ss ss.length

theorem infoStr : (Try.prog.info? 9).map (fun i => (i.zero, i.size, i.bytes)) = some (some (.string ⟨#[]⟩), 1, 16) := by kernel_rfl
theorem run_make_strs (n : Nat) (hn : n ≤ 1048576) (w : World) :
    (Instr.makeSlice 73 (.int .i64 (n : Int)) (.int .i64 (n : Int))).run Try.prog w = .ok (.slice (some ⟨w.heap.size, 0, none⟩) n n) (w.alloc (.cells (madeCells #[.string ⟨#[]⟩] n) 9)) := by
  obtain ⟨i, hi, hzz⟩ := Option.map_eq_some_iff.1 infoStr
  simp only [Prod.mk.injEq] at hzz
  obtain ⟨hz, hs, hb⟩ := hzz
  have := run_make (w := w) (P := Try.prog) 73 9 i _ Try.underlying73 hi hz .i64 .i64 (n : Int) (n : Int) (by omega) (Int.le_refl _) (by rw [hb]; omega) (by omega)
  rw [hs] at this
  simpa [Value.cells] using this

/-- The first k strings have been copied into block g. -/
def StrRow (g : Nat) (ss : List ByteArray) (k : Nat) (u : World) : Prop := ∀ i (h : i < ss.length), i < k → u.cell? ⟨g, i, none⟩ = some (.string ss[i])
def ToStrs (ss : List ByteArray) (w : World) (e : Ending) (w' : World) : Prop :=
  e = .returned (.slice (some ⟨w.heap.size, 0, none⟩) ss.length ss.length) ∧ StrsIn w' (some ⟨w.heap.size, 0, none⟩) ss ∧ Free w' (some ⟨w.heap.size, 0, none⟩) ss.length ∧ Below w.heap.size w w'
end Go.Proofs.Ytjijichgoodocaa

/- Slices of strings: their marks. -/
namespace Go.Proofs.Ytjijichgoodocaa
open Go.RowKit

def marks (k n : Nat) : List ByteArray := (List.range n).map fun i => mtext (k + i)
theorem marks_length (k n : Nat) : (marks k n).length = n := by simp [marks]
theorem marks_at (k n i : Nat) (h : i < (marks k n).length) : (marks k n)[i] = mtext (k + i) := by simp [marks]

/-- What a mark leaves of a slice of strings. -/
def MarkedStrs (S : Nat → Prop) (a : Option Addr) (k n : Nat) (w : World) (e : Ending) (w' : World) : Prop :=
  e = .returned (.int .i64 ((k : Int) + n)) ∧ StrsIn w' a (marks k n) ∧ Free w' a n ∧ Turned S w w'
end Go.Proofs.Ytjijichgoodocaa

/- An argument that is a map: what it holds, as the walks read it. -/
namespace Go.Proofs.Ytjijichgoodocaa
open Go.ChangeShapes Go.WideShapes Go.ChangeAt Go.RowKit Go.Joins Go.Deep

theorem own : ownKnob Try.prog.godebug = none := by kernel_rfl
theorem laidOut : laidOutB Try.prog = true := by kernel_rfl

section
variable {H : Type} {enc : TypeId × Value → H} {P : Program} {w : World} {base : Nat} {spare : Nat → Bool} {held : Bool}
theorem at_cells {a : Addr} {k n : Nat} {cs : List Value} (h : w.cells? base (a.add k) n = some cs) : cs.length = n ∧ ∀ j (hj : j < cs.length), w.cell? (a.add (k + j)) = some cs[j] := by
  obtain ⟨_, hcl, hat⟩ := World.cells?_some h
  refine ⟨hcl, fun j hj => ?_⟩
  have := hat j (by omega)
  rw [Go.Deep.add_add] at this
  rw [this]
  exact List.getElem?_eq_getElem hj
theorem plain_at {a : Addr} {v : Value} (h : w.cell? (a.add 0) = some v) : ∃ b off, a = ⟨b, off, none⟩ ∧ b < w.heap.size := by
  obtain ⟨b, off, spot⟩ := a
  have hspot : spot = none := by simpa [Addr.add] using World.cell?_spot h
  subst hspot
  have := World.block_lt_of_cell? w _ h
  exact ⟨b, off, rfl, by simpa [Addr.add] using this⟩
theorem struct_cells2 {fuel : Nat} {t : TypeId} {f0 f1 : Field} {cs : List Value} {x : DataW H × List MemPlace} (hs : P.underlying t = some (.struct #[f0, f1])) (hone : oneCellFields P #[f0, f1] = true) (hC : P.cellsOf t = 2) (h : DataW.trod enc P w base spare held fuel t cs = some x) :
    ∃ v0 v1 y0 y1 n, cs = [v0, v1] ∧ DataW.trod enc P w base spare held n f0.type [v0] = some y0 ∧ DataW.trod enc P w base spare held n f1.type [v1] = some y1 := by
  obtain ⟨y0, y1, n, _, hl, h0, h1⟩ := trod_struct2 hs h
  obtain ⟨o0, k0⟩ := hone_of hone 0 f0 rfl
  obtain ⟨o1, k1⟩ := hone_of hone 1 f1 rfl
  rw [hC] at hl
  match cs, hl with
  | [v0, v1], _ => exact ⟨v0, v1, y0, y1, n, rfl, by simpa [o0, k0] using h0, by simpa [o1, k1] using h1⟩
theorem struct_cells3 {fuel : Nat} {t : TypeId} {f0 f1 f2 : Field} {cs : List Value} {x : DataW H × List MemPlace} (hs : P.underlying t = some (.struct #[f0, f1, f2])) (hone : oneCellFields P #[f0, f1, f2] = true) (hC : P.cellsOf t = 3) (h : DataW.trod enc P w base spare held fuel t cs = some x) :
    ∃ v0 v1 v2 y0 y1 y2 n, cs = [v0, v1, v2] ∧ DataW.trod enc P w base spare held n f0.type [v0] = some y0 ∧ DataW.trod enc P w base spare held n f1.type [v1] = some y1 ∧ DataW.trod enc P w base spare held n f2.type [v2] = some y2 := by
  obtain ⟨y0, y1, y2, n, _, hl, h0, h1, h2⟩ := trod_struct3 hs h
  obtain ⟨o0, k0⟩ := hone_of hone 0 f0 rfl
  obtain ⟨o1, k1⟩ := hone_of hone 1 f1 rfl
  obtain ⟨o2, k2⟩ := hone_of hone 2 f2 rfl
  rw [hC] at hl
  match cs, hl with
  | [v0, v1, v2], _ => exact ⟨v0, v1, v2, y0, y1, y2, n, rfl, by simpa [o0, k0] using h0, by simpa [o1, k1] using h1, by simpa [o2, k2] using h2⟩
end

theorem cellsLVer : Try.prog.cellsOf 104 = 3 := by kernel_rfl
theorem cellsLObj : Try.prog.cellsOf 207 = 2 := by kernel_rfl
theorem cellsLVmap : Try.prog.cellsOf 103 = 1 := by kernel_rfl

set_option maxRecDepth 100000 in
theorem open_ver {H : Type} {enc : TypeId × Value → H} {W : World} {fuel : Nat} {cs : List Value} {x : DataW H × List MemPlace} (h : DataW.trod enc Try.prog W 0 (fun _ => true) true fuel 104 cs = some x) :
    ∃ v : VerD, cs = [.int .i64 v.id, .string v.text, .bool v.gone] ∧ v.text.size ≤ maxLen := by
  obtain ⟨v0, v1, v2, y0, y1, y2, n, rfl, h0, h1, h2⟩ := struct_cells3 Try.underlying104 (by kernel_rfl) cellsLVer h
  obtain ⟨z, e0, rfl, wz⟩ := DataW.trod_int Try.underlying3 h0
  obtain ⟨b, e1, rfl, wb⟩ := DataW.trod_string Try.underlying9 h1
  obtain ⟨g, e2, rfl⟩ := DataW.trod_bool Try.underlying4 h2
  simp at e0 e1 e2
  subst e0 e1 e2
  exact ⟨⟨z, b, g⟩, rfl, wb⟩

set_option maxRecDepth 100000 in
theorem open_vers {H : Type} {enc : TypeId × Value → H} {W : World} {fuel : Nat} {cs : List Value} {x : DataW H × List MemPlace} (h : DataW.trod enc Try.prog W 0 (fun _ => true) true fuel 205 cs = some x) :
    ∃ (a : Option Addr) (vs : List VerD) (cap : Nat), cs = [.slice a vs.length cap] ∧ VersIn W a vs ∧ vs.length ≤ maxLen ∧ ∀ v ∈ vs, v.text.size ≤ maxLen := by
  rcases open_slice Try.underlying205 h with ⟨rfl, _⟩ | ⟨a, len, cap, m, n, D, Pl, rfl, _, hl, hm, hmm, _, hi⟩
  · exact ⟨none, [], 0, rfl, .inl rfl, by simp, by simp⟩
  · simp at hmm
    subst hmm
    have hv : ∀ i : Fin len, ∃ v : VerD, v.text.size ≤ maxLen ∧ W.cell? (a.add (i * 3)) = some (.int .i64 v.id) ∧ W.cell? (a.add (i * 3 + 1)) = some (.string v.text) ∧ W.cell? (a.add (i * 3 + 2)) = some (.bool v.gone) := by
      intro i
      obtain ⟨cs', hc, ht⟩ := hi i.1 (by omega)
      rw [cellsLVer] at hc
      obtain ⟨v, rfl, hx⟩ := open_ver ht
      obtain ⟨_, hat⟩ := at_cells hc
      exact ⟨v, hx, by simpa using hat 0 (by simp), by simpa using hat 1 (by simp), by simpa using hat 2 (by simp)⟩
    obtain ⟨f, hf⟩ := Classical.axiomOfChoice hv
    have hvl : (List.ofFn f).length = len := by simp
    refine ⟨some a, List.ofFn f, _, by rw [hvl], ?_, by omega, fun v hv' => ?_⟩
    · by_cases h0 : len = 0
      · exact .inl (List.eq_nil_of_length_eq_zero (by omega))
      · have hp := (hf ⟨0, by omega⟩).2.1
        obtain ⟨b, off, rfl, hb⟩ := plain_at (by simpa using hp)
        refine .inr ⟨b, off, rfl, hb, fun i hi' => ?_⟩
        have hi2 : i < len := by omega
        have := hf ⟨i, hi2⟩
        simp only [add_plain, ← Nat.add_assoc] at this
        simp only [List.getElem_ofFn]
        exact ⟨this.2.1, this.2.2.1, this.2.2.2⟩
    · obtain ⟨i, hi', rfl⟩ := List.getElem_of_mem hv'
      have hi2 : i < len := by omega
      simp only [List.getElem_ofFn]
      exact (hf ⟨i, hi2⟩).1

set_option maxRecDepth 100000 in
theorem open_obj {H : Type} {enc : TypeId × Value → H} {W : World} {fuel : Nat} {cs : List Value} {x : DataW H × List MemPlace} (h : DataW.trod enc Try.prog W 0 (fun _ => true) true fuel 207 cs = some x) :
    ∃ o : ObjD, cs = [.string o.key, .slice o.at_ o.vers.length o.cap] ∧ VersIn W o.at_ o.vers ∧ o.fits := by
  obtain ⟨v0, v1, y0, y1, n, rfl, h0, h1⟩ := struct_cells2 Try.underlying207 (by kernel_rfl) cellsLObj h
  obtain ⟨b, e0, rfl, wb⟩ := DataW.trod_string Try.underlying9 h0
  obtain ⟨a, vs, cap, e1, hv, hl, ht⟩ := open_vers h1
  simp at e0 e1
  subst e0 e1
  exact ⟨⟨b, a, cap, vs⟩, rfl, hv, wb, hl, ht⟩

set_option maxRecDepth 100000 in
theorem open_objs {H : Type} {enc : TypeId × Value → H} {W : World} {fuel : Nat} {cs : List Value} {x : DataW H × List MemPlace} (h : DataW.trod enc Try.prog W 0 (fun _ => true) true fuel 101 cs = some x) :
    ∃ (a : Option Addr) (os : List ObjD) (cap : Nat), cs = [.slice a os.length cap] ∧ ObjsIn W a os ∧ os.length ≤ maxLen ∧ ∀ o ∈ os, o.fits := by
  rcases open_slice Try.underlying101 h with ⟨rfl, _⟩ | ⟨a, len, cap, m, n, D, Pl, rfl, _, hl, hm, hmm, _, hi⟩
  · exact ⟨none, [], 0, rfl, .inl rfl, by simp, by simp⟩
  · simp at hmm
    subst hmm
    have hv : ∀ i : Fin len, ∃ o : ObjD, o.fits ∧ W.cell? (a.add (i * 2)) = some (.string o.key) ∧ W.cell? (a.add (i * 2 + 1)) = some (.slice o.at_ o.vers.length o.cap) ∧ VersIn W o.at_ o.vers := by
      intro i
      obtain ⟨cs', hc, ht⟩ := hi i.1 (by omega)
      rw [cellsLObj] at hc
      obtain ⟨o, rfl, hx, hf⟩ := open_obj ht
      obtain ⟨_, hat⟩ := at_cells hc
      exact ⟨o, hf, by simpa using hat 0 (by simp), by simpa using hat 1 (by simp), hx⟩
    obtain ⟨f, hf⟩ := Classical.axiomOfChoice hv
    have hvl : (List.ofFn f).length = len := by simp
    refine ⟨some a, List.ofFn f, _, by rw [hvl], ?_, by omega, fun v hv' => ?_⟩
    · by_cases h0 : len = 0
      · exact .inl (List.eq_nil_of_length_eq_zero (by omega))
      · have hp := (hf ⟨0, by omega⟩).2.1
        obtain ⟨b, off, rfl, hb⟩ := plain_at (by simpa using hp)
        refine .inr ⟨b, off, rfl, hb, fun i hi' => ?_⟩
        have hi2 : i < len := by omega
        have := hf ⟨i, hi2⟩
        simp only [add_plain, ← Nat.add_assoc] at this
        simp only [List.getElem_ofFn]
        exact ⟨this.2.1, this.2.2.1, this.2.2.2⟩
    · obtain ⟨i, hi', rfl⟩ := List.getElem_of_mem hv'
      have hi2 : i < len := by omega
      simp only [List.getElem_ofFn]
      exact (hf ⟨i, hi2⟩).1

set_option maxRecDepth 100000 in
theorem open_vmap {H : Type} {enc : TypeId × Value → H} {W : World} {base : Nat} {v : Value} {d : DataW H} {p : List MemPlace}
    (hv : Value.okWide Try.prog W .any base 103 v) (h : DataW.Trod enc Try.prog W 0 (fun _ => true) true 103 v d p) :
    ∃ (a : Option Addr) (os : List ObjD) (cap : Nat), v = .agg #[.slice a os.length cap] ∧ ObjsIn W a os ∧ os.length ≤ maxLen ∧ ∀ o ∈ os, o.fits := by
  obtain ⟨cs, rfl, hsz⟩ := okWide_struct Try.underlying103 hv
  obtain ⟨l⟩ := cs
  obtain ⟨fuel, hf⟩ := h
  obtain ⟨xs, n, _, hx, _, hlen, hg⟩ := DataW.trod_struct Try.underlying103 hf
  match l, hsz.trans cellsLVmap with
  | [c0], _ =>
    have h0 := hg 0 _ rfl
    have hk : Try.prog.cellsOf 101 = 1 := by kernel_rfl
    match xs, hlen with
    | [y0], _ =>
      simp [Value.cells, hk] at h0
      obtain ⟨a, os, cap, e, h1, h2, h3⟩ := open_objs (x := y0) h0
      simp at e
      subst e
      exact ⟨a, os, cap, rfl, h1, h2, h3⟩
end Go.Proofs.Ytjijichgoodocaa
