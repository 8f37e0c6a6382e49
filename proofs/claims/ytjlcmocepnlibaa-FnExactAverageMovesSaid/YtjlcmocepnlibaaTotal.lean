/-
  TotalCards by contract, both sides.
-/
import Derived.Test.YtjlcmocepnlibaaIntRows
namespace Go.Proofs.Ytjlcmocepnlibaa
open Go.RowKit

end Go.Proofs.Ytjlcmocepnlibaa
