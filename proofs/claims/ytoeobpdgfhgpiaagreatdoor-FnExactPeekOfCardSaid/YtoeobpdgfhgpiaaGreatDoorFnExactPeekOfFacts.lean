/-
  The closed facts of the row of FnExactPeekOf, by the kernel, in a text of their own.
-/
import Derived.Test.YtoeobpdgfhgpiaaGreatDoorChecked
import Derived.Test.YtoeobpdgfhgpiaaGreatDoorRows
import Derived.JoinedOf
import Derived.WalkKit
set_option maxRecDepth 100000
namespace Go.Proofs.YtoeobpdgfhgpiaaGreatDoor.fnExactPeekOf
open Go
theorem facts : joinedFacts Tryz.pinned.checked.prog 3 Tryz.f3 Rows.fnExactPeekOfSpec Rows.fnExactPeekOfRow = true := by kernel_rfl
end Go.Proofs.YtoeobpdgfhgpiaaGreatDoor.fnExactPeekOf
