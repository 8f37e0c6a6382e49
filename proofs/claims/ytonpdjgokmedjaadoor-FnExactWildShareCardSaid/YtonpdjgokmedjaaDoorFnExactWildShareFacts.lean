/-
  The closed facts of the row of FnExactWildShare, by the kernel, in a text of their own.
-/
import Derived.Test.YtonpdjgokmedjaaDoorChecked
import Derived.Test.YtonpdjgokmedjaaDoorRows
import Derived.JoinedOf
import Derived.WalkKit
set_option maxRecDepth 100000
namespace Go.Proofs.YtonpdjgokmedjaaDoor.fnExactWildShare
open Go
theorem facts : joinedFacts Tryd.pinned.checked.prog 9 Tryd.f9 Rows.fnExactWildShareSpec Rows.fnExactWildShareRow = true := by kernel_rfl
end Go.Proofs.YtonpdjgokmedjaaDoor.fnExactWildShare
