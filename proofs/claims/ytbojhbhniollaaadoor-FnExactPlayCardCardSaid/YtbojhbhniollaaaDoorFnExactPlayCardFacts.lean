/-
  The closed facts of the row of FnExactPlayCard, by the kernel, in a text of their own.
-/
import Derived.Test.YtbojhbhniollaaaDoorChecked
import Derived.Test.YtbojhbhniollaaaDoorRows
import Derived.JoinedOf
import Derived.WalkKit
set_option maxRecDepth 100000
namespace Go.Proofs.YtbojhbhniollaaaDoor.fnExactPlayCard
open Go
theorem facts : joinedFacts Tryd.pinned.checked.prog 5 Tryd.f5 Rows.fnExactPlayCardSpec Rows.fnExactPlayCardRow = true := by kernel_rfl
end Go.Proofs.YtbojhbhniollaaaDoor.fnExactPlayCard
