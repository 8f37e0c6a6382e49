/-
  The closed facts of the row of FnExactFitCount, by the kernel, in a text of their own.
-/
import Derived.Test.YtonpdjgokmedjaaDoorChecked
import Derived.Test.YtonpdjgokmedjaaDoorRows
import Derived.JoinedOf
import Derived.WalkKit
set_option maxRecDepth 100000
namespace Go.Proofs.YtonpdjgokmedjaaDoor.fnExactFitCount
open Go
theorem facts : joinedFacts Tryd.pinned.checked.prog 7 Tryd.f7 Rows.fnExactFitCountSpec Rows.fnExactFitCountRow = true := by kernel_rfl
end Go.Proofs.YtonpdjgokmedjaaDoor.fnExactFitCount
