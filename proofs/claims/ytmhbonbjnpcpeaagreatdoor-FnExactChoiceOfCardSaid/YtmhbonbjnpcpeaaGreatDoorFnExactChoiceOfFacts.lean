/-
  The closed facts of the row of FnExactChoiceOf, by the kernel, in a text of their own.
-/
import Derived.Test.YtmhbonbjnpcpeaaGreatDoorChecked
import Derived.Test.YtmhbonbjnpcpeaaGreatDoorRows
import Derived.JoinedOf
import Derived.WalkKit
set_option maxRecDepth 100000
namespace Go.Proofs.YtmhbonbjnpcpeaaGreatDoor.fnExactChoiceOf
open Go
theorem facts : joinedFacts Tryz.pinned.checked.prog 3 Tryz.f3 Rows.fnExactChoiceOfSpec Rows.fnExactChoiceOfRow = true := by kernel_rfl
end Go.Proofs.YtmhbonbjnpcpeaaGreatDoor.fnExactChoiceOf
