/- When a map is ok, as the model says it. -/
import Derived.Test.YtodpodgdhiadnaaVm
import Derived.Test.YtodpodgdhiadnaaText
namespace Go.Proofs.Ytodpodgdhiadnaa
open Go.RowKit

def inB (n lo hi : Int) : Bool := decide (lo ≤ n) && decide (n ≤ hi)
def verOkB (i : Int) (s : ByteArray) (g : Bool) : Bool := inB i 1 9999 && (okB textB 8 s && (!g || s.toList.isEmpty))

set_option maxHeartbeats 400000 in
theorem l1In_any (n lo hi : Int) (w : World) :
    Calls Try.prog 136 #[.int .i64 n, .int .i64 lo, .int .i64 hi] w fun e w' => e = .returned (.bool (inB n lo hi)) ∧ w = w' := by
  by_cases h1 : lo ≤ n <;> by_cases h2 : n ≤ hi
  all_goals
    go_enter Try.func136, Try.ntmps136
    go_wp2
    go_ret
    exact ⟨ret_bool (by simp [inB, h1, h2]), rfl⟩

set_option maxHeartbeats 1000000 in
theorem l2VerOk_any (i : Int) (s : ByteArray) (g : Bool) (w : World) (hs : s.size ≤ maxLen) :
    Calls Try.prog 84 #[.agg #[.int .i64 i, .string s, .bool g]] w fun e w' => e = .returned (.bool (verOkB i s g)) ∧ Below w.heap.size w w' := by
  cases hI : inB i 1 9999 <;> cases hT : okB textB 8 s <;> cases g <;> cases hz : s.toList.isEmpty
  all_goals
    go_enter Try.func84, Try.ntmps84
    go_wp2_with first
      | (go_at_call 136; refine (l1In_any _ _ _ _).mono ?_; rintro e w' ⟨rfl, rfl⟩; rw [hI])
      | (go_at_call 173; refine (l1Text_any _ _ hs).mono ?_; rintro e w' ⟨rfl, rfl⟩; rw [hT])
    go_ret
    exact ⟨ret_bool (by simp [verOkB, hI, hT, hz]), (Below.refl _ _).alloc (Nat.le_refl _) _⟩
end Go.Proofs.Ytodpodgdhiadnaa
