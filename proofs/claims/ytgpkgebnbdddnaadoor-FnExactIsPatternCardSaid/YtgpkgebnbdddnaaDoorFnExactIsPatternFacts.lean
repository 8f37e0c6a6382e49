/-
  The closed facts of the row of FnExactIsPattern, by the kernel, in a text of their own.
-/
import Derived.Test.YtgpkgebnbdddnaaDoorChecked
import Derived.Test.YtgpkgebnbdddnaaDoorRows
import Derived.JoinedOf
import Derived.WalkKit
set_option maxRecDepth 100000
namespace Go.Proofs.YtgpkgebnbdddnaaDoor.fnExactIsPattern
open Go
theorem facts : joinedFacts Tryd.pinned.checked.prog 3 Tryd.f3 Rows.fnExactIsPatternSpec Rows.fnExactIsPatternRow = true := by kernel_rfl
end Go.Proofs.YtgpkgebnbdddnaaDoor.fnExactIsPattern
