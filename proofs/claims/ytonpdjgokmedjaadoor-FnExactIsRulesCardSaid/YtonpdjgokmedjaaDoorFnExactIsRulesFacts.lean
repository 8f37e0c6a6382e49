/-
  The closed facts of the row of FnExactIsRules, by the kernel, in a text of their own.
-/
import Derived.Test.YtonpdjgokmedjaaDoorChecked
import Derived.Test.YtonpdjgokmedjaaDoorRows
import Derived.JoinedOf
import Derived.WalkKit
set_option maxRecDepth 100000
namespace Go.Proofs.YtonpdjgokmedjaaDoor.fnExactIsRules
open Go
theorem facts : joinedFacts Tryd.pinned.checked.prog 4 Tryd.f4 Rows.fnExactIsRulesSpec Rows.fnExactIsRulesRow = true := by kernel_rfl
end Go.Proofs.YtonpdjgokmedjaaDoor.fnExactIsRules
