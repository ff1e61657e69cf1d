/- A row parted: what comes of it. -/
import Derived.Test.YtodpodgdhiadnaaLess
import Derived.Test.YtodpodgdhiadnaaRowOrd
import Derived.Test.YtodpodgdhiadnaaPmFindI
import Derived.Test.YtodpodgdhiadnaaAtF
namespace Go.Proofs.Ytodpodgdhiadnaa
open Go.RowKit

theorem leB_iff (x y : ByteArray) : leB x y = true ↔ ¬ y.toList < x.toList := by rw [leB_not, ← less_iff]; simp
theorem leB_no (x y : ByteArray) : leB x y = false ↔ y.toList < x.toList := by rw [leB_not, ← less_iff]; simp
theorem pmap_next {ep : Int} {vs : List RowD} (h : PmapOkP ep vs) {i : Nat} (hi : i + 1 < vs.length) : vs[i].f0.toList < vs[i + 1].f0.toList := by
  have := (h.1 (i + 1) hi hi).2.2.1 i (by omega) rfl
  exact (leB_no _ _).1 this
theorem pmap_lt {ep : Int} {vs : List RowD} (h : PmapOkP ep vs) : ∀ (d i : Nat) (hi : i < vs.length) (hj : i + d + 1 < vs.length), vs[i].f0.toList < vs[i + d + 1].f0.toList
  | 0, i, hi, hj => pmap_next h hj
  | d + 1, i, hi, hj => List.lt_trans (pmap_lt h d i hi (by omega)) (pmap_next h (i := i + d + 1) (by omega))
theorem pmap_mono {ep : Int} {vs : List RowD} (h : PmapOkP ep vs) {i j : Nat} (hi : i < vs.length) (hj : j < vs.length) (hij : i < j) : vs[i].f0.toList < vs[j].f0.toList := by
  obtain ⟨d, rfl⟩ : ∃ d, j = i + d + 1 := ⟨j - i - 1, by omega⟩
  exact pmap_lt h d i hi hj
theorem pmap_first {ep : Int} {vs : List RowD} (h : PmapOkP ep vs) (h0 : 0 < vs.length) : vs[0].f0.toList = [] := by
  have := (h.1 0 h0 h0).2.1 rfl
  simpa using this

/-- Whether a row begins at that key. -/
def hasRow (vs : List RowD) (key : ByteArray) : Prop := ∃ i, ∃ h : i < vs.length, vs[i].f0.toList = key.toList
def CanSplit (ep : Int) (vs : List RowD) (key : ByteArray) (node : Int) : Prop := keyOkB key = true ∧ inB node 0 2 = true ∧ vs.length < 5 ∧ ep < 99 ∧ ¬ hasRow vs key
def splitAt (vs : List RowD) (key : ByteArray) (node : Int) (k : Nat) : List RowD := vs.take (k + 1) ++ (⟨key, node⟩ :: vs.drop (k + 1))
def PmapSplitRel (ep : Int) (vs : List RowD) (key : ByteArray) (node : Int) (ep' : Int) (vs' : List RowD) (b : Bool) : Prop :=
  (¬ PmapOkP ep vs ∧ ep' = 0 ∧ vs' = [] ∧ b = false) ∨ (PmapOkP ep vs ∧ ¬ CanSplit ep vs key node ∧ ep' = ep ∧ vs' = vs ∧ b = false) ∨ (PmapOkP ep vs ∧ CanSplit ep vs key node ∧ ep' = ep + 1 ∧ (∃ k, FindAt vs key k ∧ vs' = splitAt vs key node k) ∧ b = true)
theorem PmapSplitRel_unique {ep : Int} {vs : List RowD} {key : ByteArray} {node e1 e2 : Int} {v1 v2 : List RowD} {b1 b2 : Bool} (h : PmapSplitRel ep vs key node e1 v1 b1) (g : PmapSplitRel ep vs key node e2 v2 b2) : e1 = e2 ∧ v1 = v2 ∧ b1 = b2 := by
  rcases h with ⟨h1, rfl, rfl, rfl⟩ | ⟨h1, h2, rfl, rfl, rfl⟩ | ⟨h1, h2, rfl, ⟨k1, f1, rfl⟩, rfl⟩ <;> rcases g with ⟨g1, rfl, rfl, rfl⟩ | ⟨g1, g2, rfl, rfl, rfl⟩ | ⟨g1, g2, rfl, ⟨k2, f2, rfl⟩, rfl⟩ <;> first | exact ⟨rfl, rfl, rfl⟩ | exact absurd h1 g1 | exact absurd g1 h1 | exact absurd h2 g2 | exact absurd g2 h2 | exact ⟨rfl, by rw [f1.unique f2], rfl⟩
theorem splitAt_len {vs : List RowD} {key : ByteArray} {node : Int} {k : Nat} (h : k < vs.length) : (splitAt vs key node k).length = vs.length + 1 := by
  simp [splitAt]; omega
theorem PmapSplitRel_len {ep : Int} {vs : List RowD} {key : ByteArray} {node e1 : Int} {v1 : List RowD} {b1 : Bool} (h : PmapSplitRel ep vs key node e1 v1 b1) : v1.length ≤ vs.length + 1 := by
  rcases h with ⟨_, _, rfl, _⟩ | ⟨_, _, _, rfl, _⟩ | ⟨_, _, _, ⟨k, f, rfl⟩, _⟩
  · simp
  · omega
  · rw [splitAt_len f.1.1]; exact Nat.le_refl _
def PmapSplitPost (ep : Int) (vs : List RowD) (key : ByteArray) (node : Int) (w : World) (e : Ending) (w' : World) : Prop := ∃ ep' vs' b, PmapSplitRel ep vs key node ep' vs' b ∧ PmOutB ep' vs' b w e w'

theorem hasRow_find {ep : Int} {vs : List RowD} {key : ByteArray} {k : Nat} (hP : PmapOkP ep vs) (hF : FindAt vs key k) : hasRow vs key ↔ (vs[k]'hF.1.1).f0.toList = key.toList := by
  have hk := hF.1.1
  constructor
  · rintro ⟨i, hi, e⟩
    rcases Nat.lt_trichotomy i k with h | rfl | h
    · have h1 := pmap_mono hP hi hk h
      have h2 := hF.1.2 k (by omega) (Nat.le_refl _)
      rw [loOf_lt hk, leB_iff, ← e] at h2
      exact absurd h1 h2
    · exact e
    · have h2 := hF.2 (by omega)
      rw [loOf_lt (by omega), leB_no] at h2
      by_cases he : k + 1 = i
      · subst he; rw [e] at h2; exact absurd h2 (List.lt_irrefl _)
      · have h3 := List.lt_trans h2 (pmap_mono hP (i := k + 1) (j := i) (by omega) hi (by omega))
        rw [e] at h3; exact absurd h3 (List.lt_irrefl _)
  · intro e; exact ⟨k, hk, e⟩
end Go.Proofs.Ytodpodgdhiadnaa
