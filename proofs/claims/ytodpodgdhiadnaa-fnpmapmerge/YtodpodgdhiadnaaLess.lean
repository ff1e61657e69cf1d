/- Maps of parts in memory that belong to a call: where they lie, copies, equality, marks. -/
import Derived.Test.YtodpodgdhiadnaaLie
import Derived.Test.YtodpodgdhiadnaaRows
import Derived.WalkKit
namespace Go.Proofs.Ytodpodgdhiadnaa
open Go.RowKit

structure PmAt (w : World) (lo hi : Nat) (a : Option Addr) (vs : List RowD) : Prop where
  in1 : RowsIn w a vs
  fr1 : Free w a (vs.length * 2)
  l1 : Lies lo hi a
  le : hi ≤ w.heap.size
theorem PmAt.below {w w' : World} {lo hi : Nat} {a : Option Addr} {vs : List RowD} (h : PmAt w lo hi a vs) (hb : Below w.heap.size w w') : PmAt w' lo hi a vs := ⟨h.in1.below hb, h.fr1.below hb, h.l1, Nat.le_trans h.le hb.size⟩
theorem PmAt.turned {S : Nat → Prop} {w w' : World} {lo hi : Nat} {a : Option Addr} {vs : List RowD} (h : PmAt w lo hi a vs) (hS : ∀ b, lo ≤ b → b < hi → ¬ S b) (ht : Turned S w w') : PmAt w' lo hi a vs :=
  ⟨h.in1.turned (h.l1.off hS) ht, h.fr1.turned (h.l1.off hS) ht, h.l1, Nat.le_trans h.le ht.size⟩

theorem PmAt.drewAt {w : World} {lo hi : Nat} {a : Option Addr} {vs : List RowD} (h : PmAt w lo hi a vs) : PmAt w.drew lo hi a vs := ⟨h.in1, h.fr1, h.l1, h.le⟩

def PmOut (ep : Int) (vs : List RowD) (w : World) (e : Ending) (w' : World) : Prop :=
  ∃ a c, e = .returned (.agg #[.int .i64 ep, .slice a vs.length c]) ∧ PmAt w' w.heap.size w'.heap.size a vs ∧ Below w.heap.size w w' ∧ vs.length ≤ c ∧ c ≤ maxLen
/-- .. beside a bool. -/
def PmOutB (ep : Int) (vs : List RowD) (b : Bool) (w : World) (e : Ending) (w' : World) : Prop :=
  ∃ a c, e = .returned (.tuple #[.agg #[.int .i64 ep, .slice a vs.length c], .bool b]) ∧ PmAt w' w.heap.size w'.heap.size a vs ∧ Below w.heap.size w w'

def PmMarked (lo hi : Nat) (a : Option Addr) (k n : Nat) (w : World) (e : Ending) (w' : World) : Prop :=
  e = .returned (.int .i64 ((k + n * 2 : Nat) : Int)) ∧ PmAt w' lo hi a (Rowmarks k n) ∧ Turned (fun b => lo ≤ b ∧ b < hi) w w'

def rowCells (v : RowD) : List Value := [.string v.f0, .int .i64 v.f1]
theorem own_rows {w : World} {base : Nat} {v : Value} {vs : List RowD} (h : w.ownsRow base 102 2 v vs.length (vs.flatMap rowCells)) :
    ∃ a cap, v = .slice a vs.length cap ∧ RowsIn w a vs ∧ Free w a (vs.length * 2) ∧ Lies base w.heap.size a ∧ vs.length ≤ cap ∧ cap ≤ maxLen := by
  have hcap := h.2
  rcases Joins.ownsRow_forms h with ⟨rfl, h0⟩ | ⟨g, cap, rfl⟩
  · have : vs = [] := List.eq_nil_of_length_eq_zero h0
    subst this
    exact ⟨none, 0, rfl, .inl rfl, .inl rfl, (fun b off e => by cases e), Nat.le_refl _, Nat.zero_le _⟩
  · have hg := h.lt g rfl
    refine ⟨some ⟨g, 0, none⟩, cap, rfl, .inr ⟨g, 0, rfl, hg.2, fun i hi => ?_⟩, own_free h, (fun b off e => by cases e; exact hg), ?_⟩
    case refine_2 =>
      rcases hcap with ⟨e, _⟩ | ⟨g', c', cur, e, _, _, q1, q2, _⟩
      · cases e
      · cases e; exact ⟨q1, q2⟩
    have e0 := h.cellAt (i * 2) (by omega)
    have e1 := h.cellAt (i * 2 + 1) (by omega)
    have f0 := flat_at rowCells 2 (fun _ => rfl) vs i 0 hi (by omega)
    have f1 := flat_at rowCells 2 (fun _ => rfl) vs i 1 hi (by omega)
    rw [Nat.add_zero] at f0
    simp only [Nat.zero_add]
    exact ⟨e0.trans f0, e1.trans f1⟩
/-- The cells of a slice, as an append takes them. -/
theorem rows_news {w : World} {b off : Nat} {vs : List RowD} (hc : ∀ i (h : i < vs.length), w.cell? ⟨b, off + i * 2, none⟩ = some (.string vs[i].f0) ∧ w.cell? ⟨b, off + i * 2 + 1, none⟩ = some (.int .i64 vs[i].f1)) :
    ∀ j u, (vs.flatMap rowCells)[j]? = some u → w.cell? ((⟨b, off, none⟩ : Addr).add j) = some u := fun j u hu => by
  have hadd : (⟨b, off, none⟩ : Addr).add j = ⟨b, off + j, none⟩ := by unfold Addr.add; split <;> simp_all
  have hl := flat_len rowCells 2 (fun _ => rfl) vs
  have hj : j < vs.length * 2 := by
    rcases Nat.lt_or_ge j (vs.length * 2) with h | h
    · exact h
    · rw [List.getElem?_eq_none (by omega)] at hu; cases hu
  have hi : j / 2 < vs.length := by omega
  rw [hadd]
  have hat := flat_at rowCells 2 (fun _ => rfl) vs (j / 2) (j % 2) hi (by omega)
  rw [show j / 2 * 2 + j % 2 = j by omega, hu] at hat
  rcases Nat.mod_two_eq_zero_or_one j with h0 | h0
  · rw [h0] at hat
    have := (hc (j / 2) hi).1
    rw [show off + j / 2 * 2 = off + j by omega] at this
    rw [this]; simpa [rowCells] using hat.symm
  · rw [h0] at hat
    have := (hc (j / 2) hi).2
    rw [show off + j / 2 * 2 + 1 = off + j by omega] at this
    rw [this]; simpa [rowCells] using hat.symm
theorem rows_one (vs : List RowD) : ∀ u ∈ vs.flatMap rowCells, u.oneCell' = true := fun u hu => by
  obtain ⟨v, _, h⟩ := List.mem_flatMap.1 hu
  simp [rowCells] at h
  rcases h with rfl | rfl <;> rfl
end Go.Proofs.Ytodpodgdhiadnaa

/- The order of strings, byte by byte: it is List's own. -/
namespace Go.Proofs.Ytodpodgdhiadnaa
open Go.RowKit

theorem bytesLess_eq : ∀ (x y : List UInt8), Op.bytesLess x y = decide (x < y)
  | [], [] => by simp [Op.bytesLess]
  | _ :: _, [] => by simp [Op.bytesLess]
  | [], _ :: _ => by simp [Op.bytesLess]
  | a :: x, b :: y => by
    rw [Op.bytesLess, bytesLess_eq x y]
    simp only [List.cons_lt_cons_iff]
    by_cases h1 : a < b <;> by_cases h2 : a = b <;> by_cases h3 : x < y <;> simp [h1, h2, h3]

theorem bytesLess_le (x y : List UInt8) : (Op.bytesLess x y || x == y) = !(Op.bytesLess y x) := by
  rw [bytesLess_eq, bytesLess_eq, Bool.eq_iff_iff]
  simp only [Bool.or_eq_true, decide_eq_true_eq, beq_iff_eq, Bool.not_eq_true', decide_eq_false_iff_not]
  constructor
  · rintro (h | rfl)
    · exact List.lt_asymm h
    · exact List.lt_irrefl _
  · intro h
    by_cases e : x = y
    · exact .inr e
    · exact .inl (Decidable.byContradiction fun k => e (List.le_antisymm (List.not_lt.1 h) (List.not_lt.1 k)))
end Go.Proofs.Ytodpodgdhiadnaa
