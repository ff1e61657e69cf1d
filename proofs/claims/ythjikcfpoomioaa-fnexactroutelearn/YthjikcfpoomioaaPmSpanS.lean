/- The span of a row, as the program tells it. -/
import Derived.Test.YthjikcfpoomioaaSpRows
namespace Go.Proofs.Ythjikcfpoomioaa
open Go.RowKit

theorem spCells_len (vs : List RowD) (n : Nat) : (spCells vs n).length = n * 3 := by
  induction n with
  | zero => rfl
  | succ n ih => rw [spCells_succ, List.length_append, ih]; simp [srCells]; omega
theorem spCells_at (vs : List RowD) (n i : Nat) (h : i < n) : (spCells vs n)[i * 3]? = some (.string (loOf vs i)) ∧ (spCells vs n)[i * 3 + 1]? = some (.string (hiOf vs i)) ∧ (spCells vs n)[i * 3 + 2]? = some (.int .i64 (i : Int)) := by
  induction n with
  | zero => omega
  | succ n ih =>
    have hl := spCells_len vs n
    rw [spCells_succ]
    by_cases e : i = n
    · subst e
      refine ⟨?_, ?_, ?_⟩
      all_goals (rw [List.getElem?_append_right (by omega)]; simp [hl, srCells])
    · obtain ⟨h1, h2, h3⟩ := ih (by omega)
      refine ⟨?_, ?_, ?_⟩
      all_goals (rw [List.getElem?_append_left (by omega)]; assumption)

def PmSpanPost (ep : Int) (vs : List RowD) (k : Int) (w : World) (e : Ending) (w' : World) : Prop :=
  ∃ b : Bool, (b = true ↔ PmapOkP ep vs ∧ 0 ≤ k ∧ k < vs.length) ∧ e = .returned (.tuple #[.agg #[.string (if b then loOf vs k.toNat else ⟨#[]⟩), .string (if b then hiOf vs k.toNat else ⟨#[]⟩)], .bool b]) ∧ Below w.heap.size w w'
theorem PmSpanPost.no {ep : Int} {vs : List RowD} {k : Int} {w w' : World} (h : ¬ (PmapOkP ep vs ∧ 0 ≤ k ∧ k < vs.length)) (hb : Below w.heap.size w w') : PmSpanPost ep vs k w (.returned (.tuple #[.agg #[.string ⟨#[]⟩, .string ⟨#[]⟩], .bool false])) w' :=
  ⟨false, by simpa using h, rfl, hb⟩
theorem PmSpanPost.yes {ep : Int} {vs : List RowD} {j : Nat} {w w' : World} (h : PmapOkP ep vs) (hj : j < vs.length) (hb : Below w.heap.size w w') : PmSpanPost ep vs (j : Int) w (.returned (.tuple #[.agg #[.string (loOf vs j), .string (hiOf vs j)], .bool true])) w' :=
  ⟨true, by simp [h]; omega, by simp, hb⟩
end Go.Proofs.Ythjikcfpoomioaa

/- The span of a row, as the model tells it. -/
namespace Go.Proofs.Ythjikcfpoomioaa
open Go.RowKit

set_option maxRecDepth 100000 in
set_option maxHeartbeats 1000000 in
theorem l5Span_any (ep : Int) (a : Option Addr) (vs : List RowD) (cap : Nat) (j : Nat) (w : World) (hv : RowsIn w a vs) (hj : j < vs.length) (hlen : vs.length ≤ 1048576) :
    Calls Try.prog 93 #[.agg #[.int .i64 ep, .slice a vs.length cap], .int .i64 (j : Int)] w fun e w' => e = .returned (.agg #[.string (loOf vs j), .string (hiOf vs j)]) ∧ Below w.heap.size w w' := by
  rcases hv with hnil | ⟨b1, o1, rfl, hb1, hc1⟩
  · rw [hnil] at hj; simp at hj
  obtain ⟨c0, c1⟩ := hc1 j hj
  have hb2 : b1 < w.heap.size + 1 := by omega
  have hb3 : b1 < w.heap.size + 1 + 1 := by omega
  by_cases hl2 : j + 1 < vs.length
  · obtain ⟨e0, _⟩ := hc1 (j + 1) hl2
    clear hc1 c1
    go_enter Try.func93, Try.ntmps93
    go_wp2_with fail
    change bodyPost _ _ _ _ _ _
    exact bodyPost_ret (v := .agg #[.string vs[j].f0, .string vs[j + 1].f0]) (by simp [results, Try.results93, go_sem]) rfl ⟨by rw [loOf_lt hj, hiOf_lt hl2], by exact (((Below.refl _ _).alloc (Nat.le_refl _) _).alloc (by simp) _).alloc (by simp; omega) _⟩
  · clear hc1 c1
    go_enter Try.func93, Try.ntmps93
    go_wp2_with fail
    change bodyPost _ _ _ _ _ _
    exact bodyPost_ret (v := .agg #[.string vs[j].f0, .string ⟨#[]⟩]) (by simp [results, Try.results93, go_sem]) rfl ⟨by rw [loOf_lt hj, hiOf_ge hl2], by exact (((Below.refl _ _).alloc (Nat.le_refl _) _).alloc (by simp) _).alloc (by simp; omega) _⟩
end Go.Proofs.Ythjikcfpoomioaa
