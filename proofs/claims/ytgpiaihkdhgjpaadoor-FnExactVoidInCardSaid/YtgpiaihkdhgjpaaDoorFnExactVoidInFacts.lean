/-
  The closed facts of the row of FnExactVoidIn, by the kernel, in a text of their own.
-/
import Derived.Test.YtgpiaihkdhgjpaaDoorChecked
import Derived.Test.YtgpiaihkdhgjpaaDoorRows
import Derived.JoinedOf
import Derived.WalkKit
set_option maxRecDepth 100000
namespace Go.Proofs.YtgpiaihkdhgjpaaDoor.fnExactVoidIn
open Go
theorem facts : joinedFacts Tryd.pinned.checked.prog 3 Tryd.f3 Rows.fnExactVoidInSpec Rows.fnExactVoidInRow = true := by kernel_rfl
end Go.Proofs.YtgpiaihkdhgjpaaDoor.fnExactVoidIn
