/- The table, as it is made. -/
import Derived.Test.YtncipibjlpfkhaaCrcT
namespace Go.Proofs.Ytncipibjlpfkhaa
open Go.RowKit

set_option maxRecDepth 100000 in
set_option maxHeartbeats 4000000 in
theorem newCrcTable_any (w : World) :
    Calls Try.prog 67 #[] w fun e w' => e = .returned (.agg (tbl 256)) ∧ w' = w.alloc (.cells (tbl 256) 112) := by
  have hmf : ∀ (fn : Fn) (first cap : Array Value) (w : World), (Instr.makeFunc fn first cap).run Try.prog w = .ok (.func fn first cap) w := fun _ _ _ _ => rfl
  have hz : ∀ w, (zeroValue 112).run Try.prog w = .ok (.agg (tbl 0)) w := by
    intro w
    kernel_rfl
  have hst := run_storeCells_new (P := Try.prog) w 112 (tbl 0) (tbl 0) (by rw [tbl_size]; kernel_rfl) rfl (tbl_one 0)
  go_enter_defers Try.func67, Try.ntmps67
  go_wp2
  refine wp_load_row 112 _ rfl w.heap.size rfl 112 (tbl 0) (0, 0) _ (heap_alloc_last w _) Try.underlying112 rfl (by rw [tbl_size]; kernel_rfl) ?_
  go_wp2
  trace_state
  refine leaves_cons (f := 149) (args := #[.pointer (some ⟨w.heap.size, 0, none⟩)]) (by simp) (by simp [go_sem]) ?_
  refine (fill_deferred w .returning).mono ?_
  rintro e u' w'' ⟨rfl, rfl, rfl⟩
  exact ⟨_, results_cell_row (p := 0) (ty := 112) rfl _ _ w.heap.size 112 (tbl 256) (0, 0) _ rfl (heap_alloc_last w _) Try.underlying112 rfl (by rw [tbl_size]; kernel_rfl), rfl, rfl⟩
end Go.Proofs.Ytncipibjlpfkhaa
