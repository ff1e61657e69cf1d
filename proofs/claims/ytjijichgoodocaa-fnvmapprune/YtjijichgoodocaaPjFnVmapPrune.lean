/- The closed facts of the row of FnVmapPrune. -/
import Derived.Test.YtjijichgoodocaaRows
import Derived.WalkKit
import Derived.ProofKit
import Derived.OpenShut
namespace Go.Proofs.Ytjijichgoodocaa.fnVmapPrune
open Go.ChangeShapes Go.WideShapes Go.ChangeAt Go.RowKit

set_option maxRecDepth 100000 in
theorem closed : joinedFacts Try.pinned.checked.prog 8 Try.f8 Rows.fnVmapPruneSpec Rows.fnVmapPruneRow = true := by kernel_rfl
end Go.Proofs.Ytjijichgoodocaa.fnVmapPrune
