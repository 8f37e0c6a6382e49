/-
  The closed facts of the row of FnExactSwapHidden, by the kernel, in a text of their own.
-/
import Derived.Test.YtbojhbhniollaaaDoorChecked
import Derived.Test.YtbojhbhniollaaaDoorRows
import Derived.JoinedOf
import Derived.WalkKit
set_option maxRecDepth 100000
namespace Go.Proofs.YtbojhbhniollaaaDoor.fnExactSwapHidden
open Go
theorem facts : joinedFacts Tryd.pinned.checked.prog 4 Tryd.f4 Rows.fnExactSwapHiddenSpec Rows.fnExactSwapHiddenRow = true := by kernel_rfl
end Go.Proofs.YtbojhbhniollaaaDoor.fnExactSwapHidden
