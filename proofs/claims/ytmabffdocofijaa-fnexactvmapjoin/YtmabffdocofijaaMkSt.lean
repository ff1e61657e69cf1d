/- Marks, cell by cell. -/
import Derived.Test.YtmabffdocofijaaStrsM
namespace Go.Proofs.Ytmabffdocofijaa
open Go.RowKit

/-- The first q of N cells of a block have been marked; of what was there only blocks of S have turned. -/
structure MkSt (f : Nat → Value) (S : Nat → Prop) (w : World) (b off N q : Nat) (u : World) : Prop where
  turned : Turned S w u
  lt : b < u.heap.size
  free : ∀ i, i < N → (∃ v, u.cell? ⟨b, off + i, none⟩ = some v) ∧ u.frozen? ⟨b, off + i, none⟩ = false
  done : ∀ i, i < q → u.cell? ⟨b, off + i, none⟩ = some (f i)
theorem MkSt.below {f : Nat → Value} {S : Nat → Prop} {w : World} {b off N q : Nat} {u v : World} (h : MkSt f S w b off N q u) (hb : Below u.heap.size u v) : MkSt f S w b off N q v :=
  ⟨h.turned.trans (Turned.of_below hb), Nat.lt_of_lt_of_le h.lt hb.size, fun i hi => ⟨by obtain ⟨x, hx⟩ := (h.free i hi).1; exact ⟨x, (hb.cell (p := ⟨b, off + i, none⟩) h.lt).trans hx⟩, (hb.frozen (p := ⟨b, off + i, none⟩) h.lt).trans (h.free i hi).2⟩, fun i hi => (hb.cell (p := ⟨b, off + i, none⟩) h.lt).trans (h.done i hi)⟩
theorem MkSt.set {f : Nat → Value} {S : Nat → Prop} {w : World} {b off N q : Nat} {u : World} (h : MkSt f S w b off N q u) (hq : q < N) (hS : S b) {p : Addr} {x : Value} (hp : p = ⟨b, off + q, none⟩) (hx : x = f q) : MkSt f S w b off N (q + 1) (u.setCell p x) := by
  subst hp hx
  refine ⟨h.turned.setCell hS _, by simpa using h.lt, fun i hi => ⟨?_, by rw [World.frozen?_setCell]; exact (h.free i hi).2⟩, fun i hi => ?_⟩
  · obtain ⟨y, hy⟩ := (h.free i hi).1
    exact cell?_setCell_some hy
  · by_cases e : i = q
    · subst e
      obtain ⟨y, hy⟩ := (h.free i hq).1
      exact World.cell?_setCell_same _ _ _ hy
    · rw [cell_off (by omega)]; exact h.done i (by omega)
theorem MkSt.at0 {f : Nat → Value} {S : Nat → Prop} {w : World} {b off N q : Nat} {u : World} (h : MkSt f S w b off N q u) (i : Nat) (hi : i < N) : ∃ v, u.cell? ⟨b, off + i, none⟩ = some v := (h.free i hi).1
theorem MkSt.fz0 {f : Nat → Value} {S : Nat → Prop} {w : World} {b off N q : Nat} {u : World} (h : MkSt f S w b off N q u) (i : Nat) (hi : i < N) : u.frozen? ⟨b, off + i, none⟩ = false := (h.free i hi).2
theorem MkSt.start {f : Nat → Value} {S : Nat → Prop} {w : World} {b off N : Nat} (hb : b < w.heap.size) (hc : ∀ i, i < N → (∃ v, w.cell? ⟨b, off + i, none⟩ = some v) ∧ w.frozen? ⟨b, off + i, none⟩ = false) : MkSt f S w b off N 0 w :=
  ⟨Turned.refl _ _, hb, hc, fun i hi => absurd hi (by omega)⟩
theorem markText_at {z : Int} (k : Nat) (hz : z = (k : Int)) (w : World) (h1 : 1 ≤ k) (h2 : k ≤ 100000000) :
    Calls Try.prog 159 #[.int .i64 z] w fun e w' => e = .returned (.string (mtext k)) ∧ Below w.heap.size w w' := hz ▸ markText_any k w h1 h2
end Go.Proofs.Ytmabffdocofijaa
