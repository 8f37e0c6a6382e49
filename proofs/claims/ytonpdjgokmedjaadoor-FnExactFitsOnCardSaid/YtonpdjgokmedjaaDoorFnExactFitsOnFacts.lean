/-
  The closed facts of the row of FnExactFitsOn, by the kernel, in a text of their own.
-/
import Derived.Test.YtonpdjgokmedjaaDoorChecked
import Derived.Test.YtonpdjgokmedjaaDoorRows
import Derived.JoinedOf
import Derived.WalkKit
set_option maxRecDepth 100000
namespace Go.Proofs.YtonpdjgokmedjaaDoor.fnExactFitsOn
open Go
theorem facts : joinedFacts Tryd.pinned.checked.prog 6 Tryd.f6 Rows.fnExactFitsOnSpec Rows.fnExactFitsOnRow = true := by kernel_rfl
end Go.Proofs.YtonpdjgokmedjaaDoor.fnExactFitsOn
