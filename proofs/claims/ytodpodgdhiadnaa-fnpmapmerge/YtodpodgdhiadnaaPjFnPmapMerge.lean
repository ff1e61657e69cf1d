/- The closed facts of the row of FnPmapMerge. -/
import Derived.Test.YtodpodgdhiadnaaRows
import Derived.WalkKit
import Derived.ProofKit
import Derived.OpenShut
namespace Go.Proofs.Ytodpodgdhiadnaa.fnPmapMerge
open Go.ChangeShapes Go.WideShapes Go.ChangeAt Go.RowKit

set_option maxRecDepth 100000 in
theorem closed : joinedFacts Try.pinned.checked.prog 11 Try.f11 Rows.fnPmapMergeSpec Rows.fnPmapMergeRow = true := by kernel_rfl
end Go.Proofs.Ytodpodgdhiadnaa.fnPmapMerge
