/-
  The closed facts of the row of FnExactMatchSet, by the kernel, in a text of their own.
-/
import Derived.Test.YtgpkgebnbdddnaaDoorChecked
import Derived.Test.YtgpkgebnbdddnaaDoorRows
import Derived.JoinedOf
import Derived.WalkKit
set_option maxRecDepth 100000
namespace Go.Proofs.YtgpkgebnbdddnaaDoor.fnExactMatchSet
open Go
theorem facts : joinedFacts Tryd.pinned.checked.prog 6 Tryd.f6 Rows.fnExactMatchSetSpec Rows.fnExactMatchSetRow = true := by kernel_rfl
end Go.Proofs.YtgpkgebnbdddnaaDoor.fnExactMatchSet
