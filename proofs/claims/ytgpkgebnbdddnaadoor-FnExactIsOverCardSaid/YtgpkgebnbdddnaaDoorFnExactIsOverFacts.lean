/-
  The closed facts of the row of FnExactIsOver, by the kernel, in a text of their own.
-/
import Derived.Test.YtgpkgebnbdddnaaDoorChecked
import Derived.Test.YtgpkgebnbdddnaaDoorRows
import Derived.JoinedOf
import Derived.WalkKit
set_option maxRecDepth 100000
namespace Go.Proofs.YtgpkgebnbdddnaaDoor.fnExactIsOver
open Go
theorem facts : joinedFacts Tryd.pinned.checked.prog 15 Tryd.f15 Rows.fnExactIsOverSpec Rows.fnExactIsOverRow = true := by kernel_rfl
end Go.Proofs.YtgpkgebnbdddnaaDoor.fnExactIsOver
