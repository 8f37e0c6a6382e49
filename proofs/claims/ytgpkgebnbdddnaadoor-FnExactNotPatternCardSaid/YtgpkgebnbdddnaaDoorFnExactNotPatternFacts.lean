/-
  The closed facts of the row of FnExactNotPattern, by the kernel, in a text of their own.
-/
import Derived.Test.YtgpkgebnbdddnaaDoorChecked
import Derived.Test.YtgpkgebnbdddnaaDoorRows
import Derived.JoinedOf
import Derived.WalkKit
set_option maxRecDepth 100000
namespace Go.Proofs.YtgpkgebnbdddnaaDoor.fnExactNotPattern
open Go
theorem facts : joinedFacts Tryd.pinned.checked.prog 7 Tryd.f7 Rows.fnExactNotPatternSpec Rows.fnExactNotPatternRow = true := by kernel_rfl
end Go.Proofs.YtgpkgebnbdddnaaDoor.fnExactNotPattern
