/- The closed facts of the row of FnExactVmapJoin. -/
import Derived.Test.YtmabffdocofijaaRows
import Derived.WalkKit
import Derived.ProofKit
import Derived.OpenShut
namespace Go.Proofs.Ytmabffdocofijaa.fnExactVmapJoin
open Go.ChangeShapes Go.WideShapes Go.ChangeAt Go.RowKit

set_option maxRecDepth 100000 in
theorem closed : joinedFacts Try.pinned.checked.prog 4 Try.f4 Rows.fnExactVmapJoinSpec Rows.fnExactVmapJoinRow = true := by kernel_rfl
end Go.Proofs.Ytmabffdocofijaa.fnExactVmapJoin
