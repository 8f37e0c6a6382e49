/-
  AllApart by contract, both sides.
-/
import Derived.Test.YtmfammgdcdlceaaDoorSetOf
import Derived.Test.YtmfammgdcdlceaaDoorIntRows
namespace Go.Proofs.YtmfammgdcdlceaaDoor
open Go.RowKit
set_option linter.unusedVariables false
set_option linter.unusedSimpArgs false

def apart (zss : List (List Int)) : Bool := isHand zss.flatten
theorem flat_take (zss : List (List Int)) (k : Nat) (h : k < zss.length) : (zss.take (k + 1)).flatten = (zss.take k).flatten ++ zss[k] := by
  rw [List.take_succ_eq_append_getElem h, List.flatten_append]; simp
theorem flat_pre (zss : List (List Int)) (k : Nat) : zss.flatten = (zss.take k).flatten ++ (zss.drop k).flatten := by
  rw [← List.flatten_append, List.take_append_drop]
theorem flat_len (zss : List (List Int)) : zss.flatten.length = sumLen zss := by unfold sumLen; rw [List.length_flatten]
theorem apart_no {zss : List (List Int)} {k : Nat} (h : isHand (zss.take k).flatten = false) : apart zss = false := by
  unfold apart; rw [flat_pre zss k]; exact isHand_pre h

end Go.Proofs.YtmfammgdcdlceaaDoor
