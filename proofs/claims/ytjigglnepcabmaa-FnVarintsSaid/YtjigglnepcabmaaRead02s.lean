/-
  The model's ReadBytes by contract.
-/
import Derived.Test.YtjigglnepcabmaaRead02
namespace Go.Proofs.Ytjigglnepcabmaa
open Go.RowKit

end Go.Proofs.Ytjigglnepcabmaa
