/-
  The closed facts of the row of FnExactDoesSkip, by the kernel, in a text of their own.
-/
import Derived.Test.YtonpdjgokmedjaaDoorChecked
import Derived.Test.YtonpdjgokmedjaaDoorRows
import Derived.JoinedOf
import Derived.WalkKit
set_option maxRecDepth 100000
namespace Go.Proofs.YtonpdjgokmedjaaDoor.fnExactDoesSkip
open Go
theorem facts : joinedFacts Tryd.pinned.checked.prog 5 Tryd.f5 Rows.fnExactDoesSkipSpec Rows.fnExactDoesSkipRow = true := by kernel_rfl
end Go.Proofs.YtonpdjgokmedjaaDoor.fnExactDoesSkip
