/- When a map is ok, as the model says it. -/
import Derived.Test.YthjikcfpoomioaaVm
import Derived.Test.YthjikcfpoomioaaText
namespace Go.Proofs.Ythjikcfpoomioaa
open Go.RowKit

def inB (n lo hi : Int) : Bool := decide (lo ≤ n) && decide (n ≤ hi)
def verOkB (i : Int) (s : ByteArray) (g : Bool) : Bool := inB i 1 9999 && (okB textB 8 s && (!g || s.toList.isEmpty))

set_option maxHeartbeats 400000 in
theorem l1In_any (n lo hi : Int) (w : World) :
    Calls Try.prog 144 #[.int .i64 n, .int .i64 lo, .int .i64 hi] w fun e w' => e = .returned (.bool (inB n lo hi)) ∧ w = w' := by
  by_cases h1 : lo ≤ n <;> by_cases h2 : n ≤ hi
  all_goals
    go_enter Try.func144, Try.ntmps144
    go_wp2
    go_ret
    exact ⟨ret_bool (by simp [inB, h1, h2]), rfl⟩
end Go.Proofs.Ythjikcfpoomioaa
