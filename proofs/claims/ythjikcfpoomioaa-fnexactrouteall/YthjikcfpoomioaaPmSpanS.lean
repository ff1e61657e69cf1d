/- The span of a row, as the model tells it. -/
import Derived.Test.YthjikcfpoomioaaPmSpanI
namespace Go.Proofs.Ythjikcfpoomioaa
open Go.RowKit

set_option maxRecDepth 100000 in
set_option maxHeartbeats 1000000 in
theorem l5Span_any (ep : Int) (a : Option Addr) (vs : List RowD) (cap : Nat) (j : Nat) (w : World) (hv : RowsIn w a vs) (hj : j < vs.length) (hlen : vs.length ≤ 1048576) :
    Calls Try.prog 93 #[.agg #[.int .i64 ep, .slice a vs.length cap], .int .i64 (j : Int)] w fun e w' => e = .returned (.agg #[.string (loOf vs j), .string (hiOf vs j)]) ∧ Below w.heap.size w w' := by
  rcases hv with hnil | ⟨b1, o1, rfl, hb1, hc1⟩
  · rw [hnil] at hj; simp at hj
  obtain ⟨c0, c1⟩ := hc1 j hj
  have hb2 : b1 < w.heap.size + 1 := by omega
  have hb3 : b1 < w.heap.size + 1 + 1 := by omega
  by_cases hl2 : j + 1 < vs.length
  · obtain ⟨e0, _⟩ := hc1 (j + 1) hl2
    clear hc1 c1
    go_enter Try.func93, Try.ntmps93
    go_wp2_with fail
    change bodyPost _ _ _ _ _ _
    exact bodyPost_ret (v := .agg #[.string vs[j].f0, .string vs[j + 1].f0]) (by simp [results, Try.results93, go_sem]) rfl ⟨by rw [loOf_lt hj, hiOf_lt hl2], by exact (((Below.refl _ _).alloc (Nat.le_refl _) _).alloc (by simp) _).alloc (by simp; omega) _⟩
  · clear hc1 c1
    go_enter Try.func93, Try.ntmps93
    go_wp2_with fail
    change bodyPost _ _ _ _ _ _
    exact bodyPost_ret (v := .agg #[.string vs[j].f0, .string ⟨#[]⟩]) (by simp [results, Try.results93, go_sem]) rfl ⟨by rw [loOf_lt hj, hiOf_ge hl2], by exact (((Below.refl _ _).alloc (Nat.le_refl _) _).alloc (by simp) _).alloc (by simp; omega) _⟩
end Go.Proofs.Ythjikcfpoomioaa
