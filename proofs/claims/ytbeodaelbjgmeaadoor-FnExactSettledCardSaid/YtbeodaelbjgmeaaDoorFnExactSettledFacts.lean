/-
  The closed facts of the row of FnExactSettled, by the kernel, in a text of their own.
-/
import Derived.Test.YtbeodaelbjgmeaaDoorChecked
import Derived.Test.YtbeodaelbjgmeaaDoorRows
import Derived.JoinedOf
import Derived.WalkKit
set_option maxRecDepth 100000
namespace Go.Proofs.YtbeodaelbjgmeaaDoor.fnExactSettled
open Go
theorem facts : joinedFacts Tryd.pinned.checked.prog 9 Tryd.f9 Rows.fnExactSettledSpec Rows.fnExactSettledRow = true := by kernel_rfl
end Go.Proofs.YtbeodaelbjgmeaaDoor.fnExactSettled
