/-
  The closed facts of the row of FnExactSkipsIn, by the kernel, in a text of their own.
-/
import Derived.Test.YtonpdjgokmedjaaDoorChecked
import Derived.Test.YtonpdjgokmedjaaDoorRows
import Derived.JoinedOf
import Derived.WalkKit
set_option maxRecDepth 100000
namespace Go.Proofs.YtonpdjgokmedjaaDoor.fnExactSkipsIn
open Go
theorem facts : joinedFacts Tryd.pinned.checked.prog 8 Tryd.f8 Rows.fnExactSkipsInSpec Rows.fnExactSkipsInRow = true := by kernel_rfl
end Go.Proofs.YtonpdjgokmedjaaDoor.fnExactSkipsIn
