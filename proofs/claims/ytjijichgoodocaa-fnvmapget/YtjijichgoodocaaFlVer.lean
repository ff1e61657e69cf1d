/- Slices of strings: their marks. -/
import Derived.Test.YtjijichgoodocaaStrs
import Derived.Lib.SmallJoins
import Derived.Deep.AppendLies
import Derived.Test.YtjijichgoodocaaMark
namespace Go.Proofs.Ytjijichgoodocaa
open Go.RowKit

def marks (k n : Nat) : List ByteArray := (List.range n).map fun i => mtext (k + i)
theorem marks_length (k n : Nat) : (marks k n).length = n := by simp [marks]
theorem marks_at (k n i : Nat) (h : i < (marks k n).length) : (marks k n)[i] = mtext (k + i) := by simp [marks]

/-- What a mark leaves of a slice of strings. -/
def MarkedStrs (S : Nat → Prop) (a : Option Addr) (k n : Nat) (w : World) (e : Ending) (w' : World) : Prop :=
  e = .returned (.int .i64 ((k : Int) + n)) ∧ StrsIn w' a (marks k n) ∧ Free w' a n ∧ Turned S w w'
end Go.Proofs.Ytjijichgoodocaa

/- Marks, cell by cell. -/
namespace Go.Proofs.Ytjijichgoodocaa
open Go.RowKit

/-- The first q of N cells of a block have been marked; of what was there only blocks of S have turned. -/
structure MkSt (f : Nat → Value) (S : Nat → Prop) (w : World) (b off N q : Nat) (u : World) : Prop where
  turned : Turned S w u
  lt : b < u.heap.size
  free : ∀ i, i < N → (∃ v, u.cell? ⟨b, off + i, none⟩ = some v) ∧ u.frozen? ⟨b, off + i, none⟩ = false
  done : ∀ i, i < q → u.cell? ⟨b, off + i, none⟩ = some (f i)
theorem MkSt.below {f : Nat → Value} {S : Nat → Prop} {w : World} {b off N q : Nat} {u v : World} (h : MkSt f S w b off N q u) (hb : Below u.heap.size u v) : MkSt f S w b off N q v :=
  ⟨h.turned.trans (Turned.of_below hb), Nat.lt_of_lt_of_le h.lt hb.size, fun i hi => ⟨by obtain ⟨x, hx⟩ := (h.free i hi).1; exact ⟨x, (hb.cell (p := ⟨b, off + i, none⟩) h.lt).trans hx⟩, (hb.frozen (p := ⟨b, off + i, none⟩) h.lt).trans (h.free i hi).2⟩, fun i hi => (hb.cell (p := ⟨b, off + i, none⟩) h.lt).trans (h.done i hi)⟩
theorem MkSt.set {f : Nat → Value} {S : Nat → Prop} {w : World} {b off N q : Nat} {u : World} (h : MkSt f S w b off N q u) (hq : q < N) (hS : S b) {p : Addr} {x : Value} (hp : p = ⟨b, off + q, none⟩) (hx : x = f q) : MkSt f S w b off N (q + 1) (u.setCell p x) := by
  subst hp hx
  refine ⟨h.turned.setCell hS _, by simpa using h.lt, fun i hi => ⟨?_, by rw [World.frozen?_setCell]; exact (h.free i hi).2⟩, fun i hi => ?_⟩
  · obtain ⟨y, hy⟩ := (h.free i hi).1
    exact cell?_setCell_some hy
  · by_cases e : i = q
    · subst e
      obtain ⟨y, hy⟩ := (h.free i hq).1
      exact World.cell?_setCell_same _ _ _ hy
    · rw [cell_off (by omega)]; exact h.done i (by omega)
theorem MkSt.at0 {f : Nat → Value} {S : Nat → Prop} {w : World} {b off N q : Nat} {u : World} (h : MkSt f S w b off N q u) (i : Nat) (hi : i < N) : ∃ v, u.cell? ⟨b, off + i, none⟩ = some v := (h.free i hi).1
theorem MkSt.fz0 {f : Nat → Value} {S : Nat → Prop} {w : World} {b off N q : Nat} {u : World} (h : MkSt f S w b off N q u) (i : Nat) (hi : i < N) : u.frozen? ⟨b, off + i, none⟩ = false := (h.free i hi).2
theorem MkSt.start {f : Nat → Value} {S : Nat → Prop} {w : World} {b off N : Nat} (hb : b < w.heap.size) (hc : ∀ i, i < N → (∃ v, w.cell? ⟨b, off + i, none⟩ = some v) ∧ w.frozen? ⟨b, off + i, none⟩ = false) : MkSt f S w b off N 0 w :=
  ⟨Turned.refl _ _, hb, hc, fun i hi => absurd hi (by omega)⟩
theorem markText_at {z : Int} (k : Nat) (hz : z = (k : Int)) (w : World) (h1 : 1 ≤ k) (h2 : k ≤ 100000000) :
    Calls Try.prog 172 #[.int .i64 z] w fun e w' => e = .returned (.string (mtext k)) ∧ Below w.heap.size w w' := hz ▸ markText_any k w h1 h2
end Go.Proofs.Ytjijichgoodocaa

/- Where slices lie that a call owns; what a call has made by appends. -/
namespace Go.Proofs.Ytjijichgoodocaa
open Go.RowKit

/-- This slice lies in blocks from lo up to hi. -/
def Lies (lo hi : Nat) (a : Option Addr) : Prop := ∀ b off, a = some ⟨b, off, none⟩ → lo ≤ b ∧ b < hi
def Apart (a b : Option Addr) : Prop := ∀ x o y p, a = some ⟨x, o, none⟩ → b = some ⟨y, p, none⟩ → x ≠ y
theorem Lies.off {lo hi : Nat} {a : Option Addr} {S : Nat → Prop} (h : Lies lo hi a) (hS : ∀ b, lo ≤ b → b < hi → ¬ S b) : OffS S a := fun b off e => hS b (h b off e).1 (h b off e).2
theorem Lies.mono {lo hi lo' hi' : Nat} {a : Option Addr} (h : Lies lo hi a) (h1 : lo' ≤ lo) (h2 : hi ≤ hi') : Lies lo' hi' a := fun b off e => ⟨Nat.le_trans h1 (h b off e).1, Nat.lt_of_lt_of_le (h b off e).2 h2⟩

/-! What a call has made by appends. -/
theorem flat_len {α : Type} (c : α → List Value) (m : Nat) (hc : ∀ v, (c v).length = m) (vs : List α) : (vs.flatMap c).length = vs.length * m := by
  induction vs with
  | nil => simp
  | cons v vs ih => rw [List.flatMap_cons, List.length_append, ih, hc, List.length_cons, Nat.succ_mul, Nat.add_comm]
theorem flat_at {α : Type} (c : α → List Value) (m : Nat) (hc : ∀ v, (c v).length = m) : ∀ (vs : List α) (i j : Nat) (h : i < vs.length), j < m → (vs.flatMap c)[i * m + j]? = (c vs[i])[j]?
  | v :: vs, 0, j, _, hj => by
    rw [List.flatMap_cons, List.getElem?_append_left (by rw [hc]; omega)]; simp
  | v :: vs, i + 1, j, h, hj => by
    rw [List.flatMap_cons, List.getElem?_append_right (by rw [hc, Nat.succ_mul]; omega), hc, show (i + 1) * m + j - m = i * m + j by rw [Nat.succ_mul]; omega, flat_at c m hc vs i j (by simpa using h) hj]
    simp
theorem own_free {w : World} {base size n cap : Nat} {e : TypeId} {g : Nat} {xs : List Value} (h : w.ownsRow base e size (.slice (some ⟨g, 0, none⟩) n cap) n xs) : Free w (some ⟨g, 0, none⟩) (n * size) :=
  .inr ⟨g, 0, rfl, (h.lt g rfl).2, fun i hi => by
    rw [Nat.zero_add]
    refine ⟨?_, h.frozenAt i⟩
    rw [h.cellAt i hi]
    have hl := h.1
    exact ⟨xs[i]'(by omega), List.getElem?_eq_getElem (by omega)⟩⟩

theorem Turned.cellS {lo hi : Nat} {w w' : World} (h : Turned (fun b => lo ≤ b ∧ b < hi) w w') {p : Addr} (hp : p.block < w.heap.size) (hn : ¬ (lo ≤ p.block ∧ p.block < hi)) : w'.cell? p = w.cell? p := h.cell hp hn
theorem step_turned {B lo hi : Nat} {a w w' : World} (h : Below B a w) (ht : Turned (fun b => lo ≤ b ∧ b < hi) w w') (h1 : B ≤ lo) (h2 : B ≤ w.heap.size) : Below B a w' := h.trans (ht.below (fun k hk => Nat.le_trans h1 hk.1) h2)
theorem ownsRow_of_below {w w' : World} {base size n : Nat} {e : TypeId} {v : Value} {xs : List Value} (h : w.ownsRow base e size v n xs) (hb : Below w.heap.size w w') : w'.ownsRow base e size v n xs := by
  refine ⟨h.1, h.2.elim .inl fun ⟨g, cap, cur, hv, hg, hh, r⟩ => .inr ⟨g, cap, cur, hv, hg, ?_, r⟩⟩
  have hlt : g < w.heap.size := by
    rcases Nat.lt_or_ge g w.heap.size with q | q
    · exact q
    · rw [Array.getElem?_eq_none q] at hh; cases hh
  exact (hb.block g hlt).trans hh
end Go.Proofs.Ytjijichgoodocaa

/- Versions in memory that belongs to a call: what marks leave, copies, and that what lies elsewhere stays. -/
namespace Go.Proofs.Ytjijichgoodocaa
open Go.RowKit

def Vermarks (k n : Nat) : List VerD := (List.range n).map fun i => ⟨((k + i * 3 : Nat) : Int), mtext (k + i * 3 + 1), decide ((k + i * 3 + 2) % 3 = 0)⟩
theorem Vermarks_length (k n : Nat) : (Vermarks k n).length = n := by simp [Vermarks]
theorem Vermarks_at (k n i : Nat) (h : i < (Vermarks k n).length) : (Vermarks k n)[i] = ⟨((k + i * 3 : Nat) : Int), mtext (k + i * 3 + 1), decide ((k + i * 3 + 2) % 3 = 0)⟩ := by simp [Vermarks]

def MarkedVers (S : Nat → Prop) (a : Option Addr) (k n : Nat) (w : World) (e : Ending) (w' : World) : Prop :=
  e = .returned (.int .i64 ((k + n * 3 : Nat) : Int)) ∧ VersIn w' a (Vermarks k n) ∧ Free w' a (n * 3) ∧ Turned S w w'

theorem VersIn.turned {S : Nat → Prop} {u v : World} {a : Option Addr} {vs : List VerD} (h : VersIn u a vs) (ho : OffS S a) (ht : Turned S u v) : VersIn v a vs := by
  rcases h with h | ⟨b, off, e, hlt, hc⟩
  · exact .inl h
  · refine .inr ⟨b, off, e, Nat.lt_of_lt_of_le hlt ht.size, fun i hi => ?_⟩
    rw [ht.cell (p := ⟨b, off + i * 3, none⟩) hlt (ho b off e), ht.cell (p := ⟨b, off + i * 3 + 1, none⟩) hlt (ho b off e), ht.cell (p := ⟨b, off + i * 3 + 2, none⟩) hlt (ho b off e)]
    exact hc i hi
theorem ObjsIn.turned {S : Nat → Prop} {u v : World} {a : Option Addr} {os : List ObjD} (h : ObjsIn u a os) (ho : OffS S a) (h2 : ∀ o ∈ os, OffS S o.at_) (ht : Turned S u v) : ObjsIn v a os := by
  rcases h with h | ⟨b, off, e, hlt, hc⟩
  · exact .inl h
  · refine .inr ⟨b, off, e, Nat.lt_of_lt_of_le hlt ht.size, fun i hi => ?_⟩
    obtain ⟨c0, c1, c2⟩ := hc i hi
    exact ⟨(ht.cell (p := ⟨b, off + i * 2, none⟩) hlt (ho b off e)).trans c0, (ht.cell (p := ⟨b, off + i * 2 + 1, none⟩) hlt (ho b off e)).trans c1, c2.turned (h2 _ (List.getElem_mem hi)) ht⟩

/-- What a copy of versions is: new memory that may be written. -/
def ToVersF (vs : List VerD) (w : World) (e : Ending) (w' : World) : Prop :=
  e = .returned (.slice (some ⟨w.heap.size, 0, none⟩) vs.length vs.length) ∧ VersIn w' (some ⟨w.heap.size, 0, none⟩) vs ∧ Free w' (some ⟨w.heap.size, 0, none⟩) (vs.length * 3) ∧ Below w.heap.size w w' ∧ w.heap.size < w'.heap.size

set_option maxHeartbeats 2000000 in
theorem toVerS_free (a : Option Addr) (vs : List VerD) (cap : Nat) (w : World) (hv : VersIn w a vs) (hn : vs.length ≤ 1048576) :
    Calls Try.prog 191 #[.slice a vs.length cap] w (ToVersF vs w) := by
  have HV := Lib.hid hv
  clear hv
  have hmk := run_make_vers vs.length hn
  go_enter Try.func191, Try.ntmps191
  go_wp2_with fail
  go_loopw [4] (fun i wr => ∃ k : Nat, k ≤ vs.length ∧ i = .int .i64 k ∧ Below w.heap.size w wr ∧ Row w.heap.size (vs.length * 3) wr ∧ VerRow w.heap.size vs k wr) (fun i _ => vs.length - (intOf i).toNat)
  case atStart => exact ⟨0, Nat.zero_le _, rfl, (Below.refl _ _).alloc (Nat.le_refl _) _, Row.made _ _ _ w, fun _ _ h => absurd h (by omega)⟩
  case round =>
    obtain ⟨k, hk, rfl, hB, hR, hP⟩ := hrel
    have HW := Lib.hid hB
    have HR := Lib.hid hR
    have HP := Lib.hid hP
    clear hB hR hP hmk
    by_cases hlt : k < vs.length
    · rcases HV.out.below HW.out with hnil | ⟨b1, o1, rfl, hb1, hc1⟩
      · rw [hnil] at hlt; simp at hlt
      obtain ⟨c0, c1, c2⟩ := hc1 k hlt
      clear hc1
      go_wp2_with fail
      with_reducible refine (toVer_any _ _ _ _).mono ?_
      rintro e w2 ⟨rfl, hw2⟩
      have HR2 := Lib.hid (HR.out.below hw2)
      have HP2 := Lib.hid (HP.out.below HR.out.1 hw2)
      have HW2 := Lib.hid (HW.out.trans (hw2.mono HW.out.size))
      obtain ⟨v0, d0⟩ := (HR2.out.2 (k * 3) (by omega)).1
      obtain ⟨v1, d1⟩ := (HR2.out.2 (k * 3 + 1) (by omega)).1
      obtain ⟨v2, d2⟩ := (HR2.out.2 (k * 3 + 2) (by omega)).1
      have f0 := (HR2.out.2 (k * 3) (by omega)).2
      have f1 := (HR2.out.2 (k * 3 + 1) (by omega)).2
      have f2 := (HR2.out.2 (k * 3 + 2) (by omega)).2
      clear hw2 c0 c1 c2
      go_wp2_with fail
      go_roundw
      case rel => exact ⟨k + 1, by omega, by go_num, ((HW2.out.setCell (p := ⟨w.heap.size, k * 3, none⟩) (Nat.le_refl _) _).setCell (p := ⟨w.heap.size, k * 3 + 1, none⟩) (Nat.le_refl _) _).setCell (p := ⟨w.heap.size, k * 3 + 2, none⟩) (Nat.le_refl _) _, ((HR2.out.set).set).set, HP2.out.step HR2.out hlt⟩
      case measure => simp [intOf]; omega
    · go_wp2_with fail
      go_ret
      obtain rfl : k = vs.length := by omega
      refine ⟨rfl, .inr ⟨w.heap.size, 0, rfl, HR.out.1, fun i hi => ?_⟩, .inr ⟨w.heap.size, 0, rfl, HR.out.1, fun i hi => ?_⟩, HW.out, HR.out.1⟩
      · have := HP.out i hi hi
        simpa using this
      · have := HR.out.2 i hi
        simpa using this
end Go.Proofs.Ytjijichgoodocaa
