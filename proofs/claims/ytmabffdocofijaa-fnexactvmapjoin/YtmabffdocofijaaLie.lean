/- Where slices lie that a call owns; what a call has made by appends. -/
import Derived.Test.YtmabffdocofijaaStrsM
import Derived.Lib.SmallJoins
import Derived.Deep.AppendLies
namespace Go.Proofs.Ytmabffdocofijaa
open Go.RowKit

/-- This slice lies in blocks from lo up to hi. -/
def Lies (lo hi : Nat) (a : Option Addr) : Prop := ∀ b off, a = some ⟨b, off, none⟩ → lo ≤ b ∧ b < hi
def Apart (a b : Option Addr) : Prop := ∀ x o y p, a = some ⟨x, o, none⟩ → b = some ⟨y, p, none⟩ → x ≠ y
theorem Lies.off {lo hi : Nat} {a : Option Addr} {S : Nat → Prop} (h : Lies lo hi a) (hS : ∀ b, lo ≤ b → b < hi → ¬ S b) : OffS S a := fun b off e => hS b (h b off e).1 (h b off e).2
theorem Lies.mono {lo hi lo' hi' : Nat} {a : Option Addr} (h : Lies lo hi a) (h1 : lo' ≤ lo) (h2 : hi ≤ hi') : Lies lo' hi' a := fun b off e => ⟨Nat.le_trans h1 (h b off e).1, Nat.lt_of_lt_of_le (h b off e).2 h2⟩

/-! What a call has made by appends. -/
theorem flat_len {α : Type} (c : α → List Value) (m : Nat) (hc : ∀ v, (c v).length = m) (vs : List α) : (vs.flatMap c).length = vs.length * m := by
  induction vs with
  | nil => simp
  | cons v vs ih => rw [List.flatMap_cons, List.length_append, ih, hc, List.length_cons, Nat.succ_mul, Nat.add_comm]
theorem flat_at {α : Type} (c : α → List Value) (m : Nat) (hc : ∀ v, (c v).length = m) : ∀ (vs : List α) (i j : Nat) (h : i < vs.length), j < m → (vs.flatMap c)[i * m + j]? = (c vs[i])[j]?
  | v :: vs, 0, j, _, hj => by
    rw [List.flatMap_cons, List.getElem?_append_left (by rw [hc]; omega)]; simp
  | v :: vs, i + 1, j, h, hj => by
    rw [List.flatMap_cons, List.getElem?_append_right (by rw [hc, Nat.succ_mul]; omega), hc, show (i + 1) * m + j - m = i * m + j by rw [Nat.succ_mul]; omega, flat_at c m hc vs i j (by simpa using h) hj]
    simp
theorem own_free {w : World} {base size n cap : Nat} {e : TypeId} {g : Nat} {xs : List Value} (h : w.ownsRow base e size (.slice (some ⟨g, 0, none⟩) n cap) n xs) : Free w (some ⟨g, 0, none⟩) (n * size) :=
  .inr ⟨g, 0, rfl, (h.lt g rfl).2, fun i hi => by
    rw [Nat.zero_add]
    refine ⟨?_, h.frozenAt i⟩
    rw [h.cellAt i hi]
    have hl := h.1
    exact ⟨xs[i]'(by omega), List.getElem?_eq_getElem (by omega)⟩⟩

theorem Turned.cellS {lo hi : Nat} {w w' : World} (h : Turned (fun b => lo ≤ b ∧ b < hi) w w') {p : Addr} (hp : p.block < w.heap.size) (hn : ¬ (lo ≤ p.block ∧ p.block < hi)) : w'.cell? p = w.cell? p := h.cell hp hn
theorem step_turned {B lo hi : Nat} {a w w' : World} (h : Below B a w) (ht : Turned (fun b => lo ≤ b ∧ b < hi) w w') (h1 : B ≤ lo) (h2 : B ≤ w.heap.size) : Below B a w' := h.trans (ht.below (fun k hk => Nat.le_trans h1 hk.1) h2)
theorem ownsRow_of_below {w w' : World} {base size n : Nat} {e : TypeId} {v : Value} {xs : List Value} (h : w.ownsRow base e size v n xs) (hb : Below w.heap.size w w') : w'.ownsRow base e size v n xs := by
  refine ⟨h.1, h.2.elim .inl fun ⟨g, cap, cur, hv, hg, hh, r⟩ => .inr ⟨g, cap, cur, hv, hg, ?_, r⟩⟩
  have hlt : g < w.heap.size := by
    rcases Nat.lt_or_ge g w.heap.size with q | q
    · exact q
    · rw [Array.getElem?_eq_none q] at hh; cases hh
  exact (hb.block g hlt).trans hh
end Go.Proofs.Ytmabffdocofijaa
