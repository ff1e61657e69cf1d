/- The closed facts of the row of FnVmapJoin. -/
import Derived.Test.YtjijichgoodocaaRows
import Derived.WalkKit
import Derived.ProofKit
import Derived.OpenShut
namespace Go.Proofs.Ytjijichgoodocaa.fnVmapJoin
open Go.ChangeShapes Go.WideShapes Go.ChangeAt Go.RowKit

set_option maxRecDepth 100000 in
theorem closed : joinedFacts Try.pinned.checked.prog 7 Try.f7 Rows.fnVmapJoinSpec Rows.fnVmapJoinRow = true := by kernel_rfl
end Go.Proofs.Ytjijichgoodocaa.fnVmapJoin
