/- The closed facts of the row of FnExactTxnKeys. -/
import Derived.Test.YthjikcfpoomioaaRows
import Derived.WalkKit
import Derived.ProofKit
import Derived.OpenShut
namespace Go.Proofs.Ythjikcfpoomioaa.fnExactTxnKeys
open Go.ChangeShapes Go.WideShapes Go.ChangeAt Go.RowKit

set_option maxRecDepth 100000 in
theorem closed : joinedFacts Try.pinned.checked.prog 12 Try.f12 Rows.fnExactTxnKeysSpec Rows.fnExactTxnKeysRow = true := by kernel_rfl
end Go.Proofs.Ythjikcfpoomioaa.fnExactTxnKeys
