/-
  The closed facts of the row of FnExactWinner, by the kernel, in a text of their own.
-/
import Derived.Test.YtbeodaelbjgmeaaDoorChecked
import Derived.Test.YtbeodaelbjgmeaaDoorRows
import Derived.JoinedOf
import Derived.WalkKit
set_option maxRecDepth 100000
namespace Go.Proofs.YtbeodaelbjgmeaaDoor.fnExactWinner
open Go
theorem facts : joinedFacts Tryd.pinned.checked.prog 4 Tryd.f4 Rows.fnExactWinnerSpec Rows.fnExactWinnerRow = true := by kernel_rfl
end Go.Proofs.YtbeodaelbjgmeaaDoor.fnExactWinner
