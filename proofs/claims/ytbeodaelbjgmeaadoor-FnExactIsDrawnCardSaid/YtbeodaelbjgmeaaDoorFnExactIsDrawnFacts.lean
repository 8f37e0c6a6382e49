/-
  The closed facts of the row of FnExactIsDrawn, by the kernel, in a text of their own.
-/
import Derived.Test.YtbeodaelbjgmeaaDoorChecked
import Derived.Test.YtbeodaelbjgmeaaDoorRows
import Derived.JoinedOf
import Derived.WalkKit
set_option maxRecDepth 100000
namespace Go.Proofs.YtbeodaelbjgmeaaDoor.fnExactIsDrawn
open Go
theorem facts : joinedFacts Tryd.pinned.checked.prog 7 Tryd.f7 Rows.fnExactIsDrawnSpec Rows.fnExactIsDrawnRow = true := by kernel_rfl
end Go.Proofs.YtbeodaelbjgmeaaDoor.fnExactIsDrawn
