/-
  The closed facts of the row of FnExactAlikePatterns, by the kernel, in a text of their own.
-/
import Derived.Test.YtonpdjgokmedjaaDoorChecked
import Derived.Test.YtonpdjgokmedjaaDoorRows
import Derived.JoinedOf
import Derived.WalkKit
set_option maxRecDepth 100000
namespace Go.Proofs.YtonpdjgokmedjaaDoor.fnExactAlikePatterns
open Go
theorem facts : joinedFacts Tryd.pinned.checked.prog 3 Tryd.f3 Rows.fnExactAlikePatternsSpec Rows.fnExactAlikePatternsRow = true := by kernel_rfl
end Go.Proofs.YtonpdjgokmedjaaDoor.fnExactAlikePatterns
