/-
  Cards: IsCard, SuitOf, RankOf by contract, the program's and the model's.
-/
import Derived.Test.YtcafbnddbddijaaRows
import Derived.WalkKit
import Derived.WalkLawsBesides
import Derived.WalkSpells
import Derived.LoopTactic
import Derived.Lib.Hide
namespace Go.Proofs.Ytcafbnddbddijaa
open Go.RowKit
set_option linter.unusedVariables false
set_option linter.unusedSimpArgs false

def isCard (c : Int) : Bool := decide (0 ≤ c ∧ c ≤ 51)
def suitOf (c : Int) : Int := if isCard c then c / 13 else -1
def rankOf (c : Int) : Int := if isCard c then c % 13 else -1
theorem isCard_t {c : Int} (h : isCard c = true) : 0 ≤ c ∧ c ≤ 51 := by unfold isCard at h; simpa using h
theorem isCard_f {c : Int} (h : isCard c = false) : c < 0 ∨ 51 < c := by unfold isCard at h; simp at h; omega
theorem suit_in {c : Int} (h : isCard c = true) : suitOf c = c / 13 := by unfold suitOf; rw [h]; rfl
theorem rank_in {c : Int} (h : isCard c = true) : rankOf c = c % 13 := by unfold rankOf; rw [h]; rfl
theorem suit_out {c : Int} (h : isCard c = false) : suitOf c = -1 := by unfold suitOf; rw [h]; rfl
theorem rank_out {c : Int} (h : isCard c = false) : rankOf c = -1 := by unfold rankOf; rw [h]; rfl
theorem isCard_yes {c : Int} (h : 0 ≤ c ∧ c ≤ 51) : isCard c = true := by unfold isCard; simpa using h
theorem isCard_no {c : Int} (h : ¬ (0 ≤ c ∧ c ≤ 51)) : isCard c = false := by unfold isCard; simp; omega
theorem sIsCard_r (c : Int) (w : World) (r : Bool) (hr : isCard c = r) :
    Calls Try.prog 52 #[.int .i64 c] w fun e w' => e = .returned (.bool r) ∧ w = w' := by
  subst hr
  by_cases h0 : 0 ≤ c
  · by_cases h1 : c ≤ 51
    · have e : isCard c = true := by exact isCard_yes ⟨h0, h1⟩
      rw [e]; clear e
      go_enter Try.func52, Try.ntmps52
      go_wp2
      go_ret
      exact ⟨rfl, rfl⟩
    · have e : isCard c = false := by exact isCard_no (by omega)
      have hd : decide (c ≤ 51) = false := by simp; omega
      rw [e]; clear e
      go_enter Try.func52, Try.ntmps52
      go_wp2
      go_ret
      exact ⟨rfl, rfl⟩
  · have e : isCard c = false := by exact isCard_no (by omega)
    rw [e]; clear e
    go_enter Try.func52, Try.ntmps52
    go_wp2
    go_ret
    exact ⟨rfl, rfl⟩
theorem sSuitOf_r (c : Int) (w : World) (r : Int) (hr : suitOf c = r) :
    Calls Try.prog 61 #[.int .i64 c] w fun e w' => e = .returned (.int .i64 r) ∧ w = w' := by
  subst hr
  by_cases h0 : 0 ≤ c
  · by_cases h1 : c ≤ 51
    · have e : suitOf c = c / 13 := by exact suit_in (isCard_yes ⟨h0, h1⟩)
      rw [e]; clear e
      go_enter Try.func61, Try.ntmps61
      go_wp2
      go_ret
      exact ⟨rfl, rfl⟩
    · have e : suitOf c = -1 := by exact suit_out (isCard_no (by omega))
      have hd : decide (c ≤ 51) = false := by simp; omega
      rw [e]; clear e
      go_enter Try.func61, Try.ntmps61
      go_wp2
      go_ret
      exact ⟨rfl, rfl⟩
  · have e : suitOf c = -1 := by exact suit_out (isCard_no (by omega))
    rw [e]; clear e
    go_enter Try.func61, Try.ntmps61
    go_wp2
    go_ret
    exact ⟨rfl, rfl⟩
theorem sRankOf_r (c : Int) (w : World) (r : Int) (hr : rankOf c = r) :
    Calls Try.prog 60 #[.int .i64 c] w fun e w' => e = .returned (.int .i64 r) ∧ w = w' := by
  subst hr
  by_cases h0 : 0 ≤ c
  · by_cases h1 : c ≤ 51
    · have e : rankOf c = c % 13 := by exact rank_in (isCard_yes ⟨h0, h1⟩)
      rw [e]; clear e
      go_enter Try.func60, Try.ntmps60
      go_wp2
      go_ret
      exact ⟨rfl, rfl⟩
    · have e : rankOf c = -1 := by exact rank_out (isCard_no (by omega))
      have hd : decide (c ≤ 51) = false := by simp; omega
      rw [e]; clear e
      go_enter Try.func60, Try.ntmps60
      go_wp2
      go_ret
      exact ⟨rfl, rfl⟩
  · have e : rankOf c = -1 := by exact rank_out (isCard_no (by omega))
    rw [e]; clear e
    go_enter Try.func60, Try.ntmps60
    go_wp2
    go_ret
    exact ⟨rfl, rfl⟩
theorem isCard_r (c : Int) (w : World) (r : Bool) (hr : isCard c = r) :
    Calls Try.prog 81 #[.int .i64 c] w fun e w' => e = .returned (.bool r) ∧ w = w' := by
  subst hr
  by_cases h0 : 0 ≤ c
  · by_cases h1 : c ≤ 51
    · have e : isCard c = true := by exact isCard_yes ⟨h0, h1⟩
      rw [e]; clear e
      go_enter Try.func81, Try.ntmps81
      go_wp2
      go_ret
      exact ⟨rfl, rfl⟩
    · have e : isCard c = false := by exact isCard_no (by omega)
      have hd : decide (c ≤ 51) = false := by simp; omega
      rw [e]; clear e
      go_enter Try.func81, Try.ntmps81
      go_wp2
      go_ret
      exact ⟨rfl, rfl⟩
  · have e : isCard c = false := by exact isCard_no (by omega)
    rw [e]; clear e
    go_enter Try.func81, Try.ntmps81
    go_wp2
    go_ret
    exact ⟨rfl, rfl⟩
theorem suitOf_r (c : Int) (w : World) (r : Int) (hr : suitOf c = r) :
    Calls Try.prog 77 #[.int .i64 c] w fun e w' => e = .returned (.int .i64 r) ∧ w = w' := by
  subst hr
  by_cases h0 : 0 ≤ c
  · by_cases h1 : c ≤ 51
    · have e : suitOf c = c / 13 := by exact suit_in (isCard_yes ⟨h0, h1⟩)
      rw [e]; clear e
      go_enter Try.func77, Try.ntmps77
      go_wp2
      go_ret
      exact ⟨rfl, rfl⟩
    · have e : suitOf c = -1 := by exact suit_out (isCard_no (by omega))
      have hd : decide (c ≤ 51) = false := by simp; omega
      rw [e]; clear e
      go_enter Try.func77, Try.ntmps77
      go_wp2
      go_ret
      exact ⟨rfl, rfl⟩
  · have e : suitOf c = -1 := by exact suit_out (isCard_no (by omega))
    rw [e]; clear e
    go_enter Try.func77, Try.ntmps77
    go_wp2
    go_ret
    exact ⟨rfl, rfl⟩
theorem rankOf_r (c : Int) (w : World) (r : Int) (hr : rankOf c = r) :
    Calls Try.prog 71 #[.int .i64 c] w fun e w' => e = .returned (.int .i64 r) ∧ w = w' := by
  subst hr
  by_cases h0 : 0 ≤ c
  · by_cases h1 : c ≤ 51
    · have e : rankOf c = c % 13 := by exact rank_in (isCard_yes ⟨h0, h1⟩)
      rw [e]; clear e
      go_enter Try.func71, Try.ntmps71
      go_wp2
      go_ret
      exact ⟨rfl, rfl⟩
    · have e : rankOf c = -1 := by exact rank_out (isCard_no (by omega))
      have hd : decide (c ≤ 51) = false := by simp; omega
      rw [e]; clear e
      go_enter Try.func71, Try.ntmps71
      go_wp2
      go_ret
      exact ⟨rfl, rfl⟩
  · have e : rankOf c = -1 := by exact rank_out (isCard_no (by omega))
    rw [e]; clear e
    go_enter Try.func71, Try.ntmps71
    go_wp2
    go_ret
    exact ⟨rfl, rfl⟩
theorem sIsCard_any (c : Int) (w : World) :
    Calls Try.prog 52 #[.int .i64 c] w fun e w' => e = .returned (.bool (isCard c)) ∧ w = w' := sIsCard_r c w _ rfl
end Go.Proofs.Ytcafbnddbddijaa
