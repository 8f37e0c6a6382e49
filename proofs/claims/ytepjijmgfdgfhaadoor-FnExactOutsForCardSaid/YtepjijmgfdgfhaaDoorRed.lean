/-
  IsRed by contract, both sides; a card that may lie on another.
-/
import Derived.Test.YtepjijmgfdgfhaaDoorCard
namespace Go.Proofs.YtepjijmgfdgfhaaDoor
open Go.RowKit

def redB (c : Int) : Bool := decide (suitOf c = 1 ∨ suitOf c = 2)
theorem red_0 {c : Int} (h : suitOf c = 0) : redB c = false := by unfold redB; rw [h]; decide
theorem red_1 {c : Int} (h : suitOf c = 1) : redB c = true := by unfold redB; rw [h]; decide
theorem red_2 {c : Int} (h : suitOf c = 2) : redB c = true := by unfold redB; rw [h]; decide
theorem red_3 {c : Int} (h : suitOf c = 3) : redB c = false := by unfold redB; rw [h]; decide
theorem red_n {c : Int} (h : suitOf c = -1) : redB c = false := by unfold redB; rw [h]; decide

set_option maxRecDepth 100000 in
theorem sIsRed_r (c : Int) (w : World) (r : Bool) (hr : redB c = r) :
    Calls Tryd.prog 42 #[.int .i64 c] w fun e w' => e = .returned (.bool r) ∧ w = w' := by
  subst hr
  by_cases h0 : 0 ≤ c
  · by_cases h1 : c ≤ 51
    · have e : suitOf c = c / 13 := by exact suit_in (isCard_yes ⟨h0, h1⟩)
      have hc : c / 13 = 0 ∨ c / 13 = 1 ∨ c / 13 = 2 ∨ c / 13 = 3 := by omega
      rcases hc with hc | hc | hc | hc
      · rw [red_0 (e.trans hc)]; clear e
        go_enter Tryd.func42, Tryd.ntmps42
        go_wp2
        go_ret
        exact ⟨rfl, rfl⟩
      · rw [red_1 (e.trans hc)]; clear e
        go_enter Tryd.func42, Tryd.ntmps42
        go_wp2
        go_ret
        exact ⟨rfl, rfl⟩
      · rw [red_2 (e.trans hc)]; clear e
        go_enter Tryd.func42, Tryd.ntmps42
        go_wp2
        go_ret
        exact ⟨rfl, rfl⟩
      · rw [red_3 (e.trans hc)]; clear e
        go_enter Tryd.func42, Tryd.ntmps42
        go_wp2
        go_ret
        exact ⟨rfl, rfl⟩
    · rw [red_n (suit_out (isCard_no (by omega)))]
      have hd : decide (c ≤ 51) = false := by simp; omega
      go_enter Tryd.func42, Tryd.ntmps42
      go_wp2
      go_ret
      exact ⟨rfl, rfl⟩
  · rw [red_n (suit_out (isCard_no (by omega)))]
    go_enter Tryd.func42, Tryd.ntmps42
    go_wp2
    go_ret
    exact ⟨rfl, rfl⟩
/-- b may lie on a. -/
def stepB (a b : Int) : Bool := decide (rankOf a = rankOf b + 1) && (redB a != redB b)
theorem step_r0 {a b : Int} (h : ¬ rankOf a = rankOf b + 1) : stepB a b = false := by unfold stepB; rw [decide_eq_false h]; rfl
theorem step_r1 {a b : Int} (h : rankOf a = rankOf b + 1) : stepB a b = (redB a != redB b) := by unfold stepB; rw [decide_eq_true h]; rfl
theorem rank_bd (c : Int) : -1 ≤ rankOf c ∧ rankOf c ≤ 12 := by
  unfold rankOf
  split <;> omega

end Go.Proofs.YtepjijmgfdgfhaaDoor
