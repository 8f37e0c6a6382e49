/-
  The closed facts of the row of FnExactCountMatches, by the kernel, in a text of their own.
-/
import Derived.Test.YtgpkgebnbdddnaaDoorChecked
import Derived.Test.YtgpkgebnbdddnaaDoorRows
import Derived.JoinedOf
import Derived.WalkKit
set_option maxRecDepth 100000
namespace Go.Proofs.YtgpkgebnbdddnaaDoor.fnExactCountMatches
open Go
theorem facts : joinedFacts Tryd.pinned.checked.prog 5 Tryd.f5 Rows.fnExactCountMatchesSpec Rows.fnExactCountMatchesRow = true := by kernel_rfl
end Go.Proofs.YtgpkgebnbdddnaaDoor.fnExactCountMatches
