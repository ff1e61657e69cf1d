/- The closed facts of the row of FnPmapSpan. -/
import Derived.Test.YtodpodgdhiadnaaRows
import Derived.WalkKit
import Derived.ProofKit
import Derived.OpenShut
namespace Go.Proofs.Ytodpodgdhiadnaa.fnPmapSpan
open Go.ChangeShapes Go.WideShapes Go.ChangeAt Go.RowKit

set_option maxRecDepth 100000 in
theorem closed : joinedFacts Try.pinned.checked.prog 9 Try.f9 Rows.fnPmapSpanSpec Rows.fnPmapSpanRow = true := by kernel_rfl
end Go.Proofs.Ytodpodgdhiadnaa.fnPmapSpan
