/- The closed facts of the row of FnVmapAt. -/
import Derived.Test.YtjijichgoodocaaRows
import Derived.WalkKit
import Derived.ProofKit
import Derived.OpenShut
namespace Go.Proofs.Ytjijichgoodocaa.fnVmapAt
open Go.ChangeShapes Go.WideShapes Go.ChangeAt Go.RowKit

set_option maxRecDepth 100000 in
theorem closed : joinedFacts Try.pinned.checked.prog 4 Try.f4 Rows.fnVmapAtSpec Rows.fnVmapAtRow = true := by kernel_rfl
end Go.Proofs.Ytjijichgoodocaa.fnVmapAt
