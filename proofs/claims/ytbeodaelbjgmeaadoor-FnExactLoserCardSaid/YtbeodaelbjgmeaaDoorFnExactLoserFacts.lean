/-
  The closed facts of the row of FnExactLoser, by the kernel, in a text of their own.
-/
import Derived.Test.YtbeodaelbjgmeaaDoorChecked
import Derived.Test.YtbeodaelbjgmeaaDoorRows
import Derived.JoinedOf
import Derived.WalkKit
set_option maxRecDepth 100000
namespace Go.Proofs.YtbeodaelbjgmeaaDoor.fnExactLoser
open Go
theorem facts : joinedFacts Tryd.pinned.checked.prog 8 Tryd.f8 Rows.fnExactLoserSpec Rows.fnExactLoserRow = true := by kernel_rfl
end Go.Proofs.YtbeodaelbjgmeaaDoor.fnExactLoser
