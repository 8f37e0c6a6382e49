/-
  Contracts of the model's functions of chapters 4 and 5: cards and hands.
-/
import Derived.Test.YthmbfkgahkihfaaMarksI
import Derived.Test.YthmbfkgahkihfaaCard
namespace Go.Proofs.Ythmbfkgahkihfaa
open Go.RowKit

def hasI (zs : List Int) (c : Int) : Bool := decide (c ∈ zs)
/-- All are cards, and none is there twice: told from the front, as the model looks. -/
def isHand (zs : List Int) : Bool := decide (∀ j (h : j < zs.length), isCard zs[j] = true ∧ zs[j] ∉ zs.take j)


end Go.Proofs.Ythmbfkgahkihfaa
