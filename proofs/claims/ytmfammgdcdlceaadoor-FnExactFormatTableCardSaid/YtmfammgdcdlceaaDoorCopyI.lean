/-
  copyInts by contract.
-/
import Derived.Test.YtmfammgdcdlceaaDoorMarksI
namespace Go.Proofs.YtmfammgdcdlceaaDoor
open Go.RowKit
set_option linter.unusedVariables false
set_option linter.unusedSimpArgs false

end Go.Proofs.YtmfammgdcdlceaaDoor
