/- The iterator over versions: its contract for every loop body. -/
import Derived.RangeFuncNested
import Derived.RangeFuncBound
import Derived.RangeFuncCalls
import Derived.RangeFuncLeaves
import Derived.Shelf.Abstract
import Derived.Shelf.RegionOpen
import Derived.WalkKit
import Derived.OwnWalkIn
import Derived.TacticsInMore
import Derived.LoopNIn
import Derived.LoopIn
import Derived.Test.YthjikcfpoomioaaIter
namespace Go.Proofs.Ythjikcfpoomioaa
open Go.RowKit Go.Shelf
attribute [local go_sem] Oper.semAt_some

set_option maxHeartbeats 400000 in
theorem verRank_is (i : Int) (s : ByteArray) (g : Bool) (w : World) :
    Calls Try.prog 245 #[.agg #[.int .i64 i, .string s, .bool g]] w fun e w' => e = .returned (.int .i64 i) ∧ w' = w.alloc (.cells #[.int .i64 i, .string s, .bool g] 282) := by
  go_enter Try.func245, Try.ntmps245
  go_wp2
  go_ret
  exact ⟨rfl, rfl⟩

def verArgs (v : VerD) : Array Value := #[.int .i64 v.id, .agg #[.int .i64 v.id, .string v.text, .bool v.gone]]
end Go.Proofs.Ythjikcfpoomioaa
