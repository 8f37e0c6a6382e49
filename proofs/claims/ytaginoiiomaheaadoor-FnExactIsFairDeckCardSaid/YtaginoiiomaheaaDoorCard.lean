/-
  Cards: IsCard, SuitOf, RankOf by contract, the program's and the model's.
-/
import Derived.Test.YtaginoiiomaheaaDoorRows
import Derived.WalkKit
import Derived.WalkLawsBesides
import Derived.WalkSpells
import Derived.LoopTactic
import Derived.Lib.Hide
namespace Go.Proofs.YtaginoiiomaheaaDoor
open Go.RowKit

def isCard (c : Int) : Bool := decide (0 ≤ c ∧ c ≤ 51)
def suitOf (c : Int) : Int := if isCard c then c / 13 else -1
def rankOf (c : Int) : Int := if isCard c then c % 13 else -1
theorem isCard_t {c : Int} (h : isCard c = true) : 0 ≤ c ∧ c ≤ 51 := by unfold isCard at h; simpa using h
theorem isCard_f {c : Int} (h : isCard c = false) : c < 0 ∨ 51 < c := by unfold isCard at h; simp at h; omega
theorem suit_in {c : Int} (h : isCard c = true) : suitOf c = c / 13 := by unfold suitOf; rw [h]; rfl
theorem rank_in {c : Int} (h : isCard c = true) : rankOf c = c % 13 := by unfold rankOf; rw [h]; rfl
theorem suit_out {c : Int} (h : isCard c = false) : suitOf c = -1 := by unfold suitOf; rw [h]; rfl
theorem rank_out {c : Int} (h : isCard c = false) : rankOf c = -1 := by unfold rankOf; rw [h]; rfl
theorem isCard_yes {c : Int} (h : 0 ≤ c ∧ c ≤ 51) : isCard c = true := by unfold isCard; simpa using h
theorem isCard_no {c : Int} (h : ¬ (0 ≤ c ∧ c ≤ 51)) : isCard c = false := by unfold isCard; simp; omega
end Go.Proofs.YtaginoiiomaheaaDoor
