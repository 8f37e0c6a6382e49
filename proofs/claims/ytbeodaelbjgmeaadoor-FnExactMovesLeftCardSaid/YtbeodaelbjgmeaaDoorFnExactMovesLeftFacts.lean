/-
  The closed facts of the row of FnExactMovesLeft, by the kernel, in a text of their own.
-/
import Derived.Test.YtbeodaelbjgmeaaDoorChecked
import Derived.Test.YtbeodaelbjgmeaaDoorRows
import Derived.JoinedOf
import Derived.WalkKit
set_option maxRecDepth 100000
namespace Go.Proofs.YtbeodaelbjgmeaaDoor.fnExactMovesLeft
open Go
theorem facts : joinedFacts Tryd.pinned.checked.prog 6 Tryd.f6 Rows.fnExactMovesLeftSpec Rows.fnExactMovesLeftRow = true := by kernel_rfl
end Go.Proofs.YtbeodaelbjgmeaaDoor.fnExactMovesLeft
