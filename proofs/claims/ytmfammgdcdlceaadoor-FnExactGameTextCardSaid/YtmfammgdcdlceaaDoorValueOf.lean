/-
  ValueOf, both sides.
-/
import Derived.Test.YtmfammgdcdlceaaDoorCard
namespace Go.Proofs.YtmfammgdcdlceaaDoor
open Go.RowKit
set_option linter.unusedVariables false
set_option linter.unusedSimpArgs false

def valueOf (c : Int) : Int := if isCard c then (if c % 13 = 12 then 1 else if 8 < c % 13 then 10 else c % 13 + 2) else 0
theorem value_out {c : Int} (h : isCard c = false) : valueOf c = 0 := by simp [valueOf, h]
theorem value_ace {c : Int} (h : isCard c = true) (h2 : c % 13 = 12) : valueOf c = 1 := by simp [valueOf, h, h2]
theorem value_pic {c : Int} (h : isCard c = true) (h2 : ¬ c % 13 = 12) (h3 : 8 < c % 13) : valueOf c = 10 := by simp [valueOf, h, h2, h3]
theorem value_num {c : Int} (h : isCard c = true) (h3 : ¬ 8 < c % 13) : valueOf c = c % 13 + 2 := by
  have : ¬ c % 13 = 12 := by omega
  simp [valueOf, h, this, h3]
end Go.Proofs.YtmfammgdcdlceaaDoor
