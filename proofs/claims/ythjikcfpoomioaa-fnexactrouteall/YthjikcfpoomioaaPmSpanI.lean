/- The span of a row, as the program tells it. -/
import Derived.Test.YthjikcfpoomioaaSpRows
namespace Go.Proofs.Ythjikcfpoomioaa
open Go.RowKit

theorem spCells_len (vs : List RowD) (n : Nat) : (spCells vs n).length = n * 3 := by
  induction n with
  | zero => rfl
  | succ n ih => rw [spCells_succ, List.length_append, ih]; simp [srCells]; omega
theorem spCells_at (vs : List RowD) (n i : Nat) (h : i < n) : (spCells vs n)[i * 3]? = some (.string (loOf vs i)) ∧ (spCells vs n)[i * 3 + 1]? = some (.string (hiOf vs i)) ∧ (spCells vs n)[i * 3 + 2]? = some (.int .i64 (i : Int)) := by
  induction n with
  | zero => omega
  | succ n ih =>
    have hl := spCells_len vs n
    rw [spCells_succ]
    by_cases e : i = n
    · subst e
      refine ⟨?_, ?_, ?_⟩
      all_goals (rw [List.getElem?_append_right (by omega)]; simp [hl, srCells])
    · obtain ⟨h1, h2, h3⟩ := ih (by omega)
      refine ⟨?_, ?_, ?_⟩
      all_goals (rw [List.getElem?_append_left (by omega)]; assumption)

def PmSpanPost (ep : Int) (vs : List RowD) (k : Int) (w : World) (e : Ending) (w' : World) : Prop :=
  ∃ b : Bool, (b = true ↔ PmapOkP ep vs ∧ 0 ≤ k ∧ k < vs.length) ∧ e = .returned (.tuple #[.agg #[.string (if b then loOf vs k.toNat else ⟨#[]⟩), .string (if b then hiOf vs k.toNat else ⟨#[]⟩)], .bool b]) ∧ Below w.heap.size w w'
theorem PmSpanPost.no {ep : Int} {vs : List RowD} {k : Int} {w w' : World} (h : ¬ (PmapOkP ep vs ∧ 0 ≤ k ∧ k < vs.length)) (hb : Below w.heap.size w w') : PmSpanPost ep vs k w (.returned (.tuple #[.agg #[.string ⟨#[]⟩, .string ⟨#[]⟩], .bool false])) w' :=
  ⟨false, by simpa using h, rfl, hb⟩
theorem PmSpanPost.yes {ep : Int} {vs : List RowD} {j : Nat} {w w' : World} (h : PmapOkP ep vs) (hj : j < vs.length) (hb : Below w.heap.size w w') : PmSpanPost ep vs (j : Int) w (.returned (.tuple #[.agg #[.string (loOf vs j), .string (hiOf vs j)], .bool true])) w' :=
  ⟨true, by simp [h]; omega, by simp, hb⟩
end Go.Proofs.Ythjikcfpoomioaa
