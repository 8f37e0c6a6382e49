/-
  The closed facts of the row of FnExactSightOf, by the kernel, in a text of their own.
-/
import Derived.Test.YtbojhbhniollaaaDoorChecked
import Derived.Test.YtbojhbhniollaaaDoorRows
import Derived.JoinedOf
import Derived.WalkKit
set_option maxRecDepth 100000
namespace Go.Proofs.YtbojhbhniollaaaDoor.fnExactSightOf
open Go
theorem facts : joinedFacts Tryd.pinned.checked.prog 3 Tryd.f3 Rows.fnExactSightOfSpec Rows.fnExactSightOfRow = true := by kernel_rfl
end Go.Proofs.YtbojhbhniollaaaDoor.fnExactSightOf
