/-
  The closed facts of the row of FnExactPlayable, by the kernel, in a text of their own.
-/
import Derived.Test.YtijdhpkeojkphaaGreatDoorChecked
import Derived.Test.YtijdhpkeojkphaaGreatDoorRows
import Derived.JoinedOf
import Derived.WalkKit
set_option maxRecDepth 100000
namespace Go.Proofs.YtijdhpkeojkphaaGreatDoor.fnExactPlayable
open Go
theorem facts : joinedFacts Tryz.pinned.checked.prog 3 Tryz.f3 Rows.fnExactPlayableSpec Rows.fnExactPlayableRow = true := by kernel_rfl
end Go.Proofs.YtijdhpkeojkphaaGreatDoor.fnExactPlayable
