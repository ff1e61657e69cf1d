/- The closed facts of the row of FnPmapFind. -/
import Derived.Test.YtodpodgdhiadnaaRows
import Derived.WalkKit
import Derived.ProofKit
import Derived.OpenShut
namespace Go.Proofs.Ytodpodgdhiadnaa.fnPmapFind
open Go.ChangeShapes Go.WideShapes Go.ChangeAt Go.RowKit

set_option maxRecDepth 100000 in
theorem closed : joinedFacts Try.pinned.checked.prog 10 Try.f10 Rows.fnPmapFindSpec Rows.fnPmapFindRow = true := by kernel_rfl
end Go.Proofs.Ytodpodgdhiadnaa.fnPmapFind
