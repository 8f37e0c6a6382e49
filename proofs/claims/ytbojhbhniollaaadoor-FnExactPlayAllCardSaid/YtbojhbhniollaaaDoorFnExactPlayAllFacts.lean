/-
  The closed facts of the row of FnExactPlayAll, by the kernel, in a text of their own.
-/
import Derived.Test.YtbojhbhniollaaaDoorChecked
import Derived.Test.YtbojhbhniollaaaDoorRows
import Derived.JoinedOf
import Derived.WalkKit
set_option maxRecDepth 100000
namespace Go.Proofs.YtbojhbhniollaaaDoor.fnExactPlayAll
open Go
theorem facts : joinedFacts Tryd.pinned.checked.prog 6 Tryd.f6 Rows.fnExactPlayAllSpec Rows.fnExactPlayAllRow = true := by kernel_rfl
end Go.Proofs.YtbojhbhniollaaaDoor.fnExactPlayAll
