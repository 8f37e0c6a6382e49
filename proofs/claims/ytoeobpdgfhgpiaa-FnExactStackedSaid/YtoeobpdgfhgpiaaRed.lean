/-
  IsRed by contract, both sides; a card that may lie on another.
-/
import Derived.Test.YtoeobpdgfhgpiaaCard
namespace Go.Proofs.Ytoeobpdgfhgpiaa
open Go.RowKit

def redB (c : Int) : Bool := decide (suitOf c = 1 ∨ suitOf c = 2)
theorem red_0 {c : Int} (h : suitOf c = 0) : redB c = false := by unfold redB; rw [h]; decide
theorem red_1 {c : Int} (h : suitOf c = 1) : redB c = true := by unfold redB; rw [h]; decide
theorem red_2 {c : Int} (h : suitOf c = 2) : redB c = true := by unfold redB; rw [h]; decide
theorem red_3 {c : Int} (h : suitOf c = 3) : redB c = false := by unfold redB; rw [h]; decide
theorem red_n {c : Int} (h : suitOf c = -1) : redB c = false := by unfold redB; rw [h]; decide

set_option maxRecDepth 100000 in
theorem isRed_r (c : Int) (w : World) (r : Bool) (hr : redB c = r) :
    Calls Try.prog 66 #[.int .i64 c] w fun e w' => e = .returned (.bool r) ∧ w = w' := by
  subst hr
  by_cases h0 : 0 ≤ c
  · by_cases h1 : c ≤ 51
    · have e : suitOf c = c / 13 := by exact suit_in (isCard_yes ⟨h0, h1⟩)
      have hc : c / 13 = 0 ∨ c / 13 = 1 ∨ c / 13 = 2 ∨ c / 13 = 3 := by omega
      rcases hc with hc | hc | hc | hc
      · rw [red_0 (e.trans hc)]; clear e
        go_enter Try.func66, Try.ntmps66
        go_wp2
        go_ret
        exact ⟨rfl, rfl⟩
      · rw [red_1 (e.trans hc)]; clear e
        go_enter Try.func66, Try.ntmps66
        go_wp2
        go_ret
        exact ⟨rfl, rfl⟩
      · rw [red_2 (e.trans hc)]; clear e
        go_enter Try.func66, Try.ntmps66
        go_wp2
        go_ret
        exact ⟨rfl, rfl⟩
      · rw [red_3 (e.trans hc)]; clear e
        go_enter Try.func66, Try.ntmps66
        go_wp2
        go_ret
        exact ⟨rfl, rfl⟩
    · rw [red_n (suit_out (isCard_no (by omega)))]
      have hd : decide (c ≤ 51) = false := by simp; omega
      go_enter Try.func66, Try.ntmps66
      go_wp2
      go_ret
      exact ⟨rfl, rfl⟩
  · rw [red_n (suit_out (isCard_no (by omega)))]
    go_enter Try.func66, Try.ntmps66
    go_wp2
    go_ret
    exact ⟨rfl, rfl⟩
set_option maxRecDepth 100000 in
theorem sIsRed_r (c : Int) (w : World) (r : Bool) (hr : redB c = r) :
    Calls Try.prog 52 #[.int .i64 c] w fun e w' => e = .returned (.bool r) ∧ w = w' := by
  subst hr
  by_cases h0 : 0 ≤ c
  · by_cases h1 : c ≤ 51
    · have e : suitOf c = c / 13 := by exact suit_in (isCard_yes ⟨h0, h1⟩)
      have hc : c / 13 = 0 ∨ c / 13 = 1 ∨ c / 13 = 2 ∨ c / 13 = 3 := by omega
      rcases hc with hc | hc | hc | hc
      · rw [red_0 (e.trans hc)]; clear e
        go_enter Try.func52, Try.ntmps52
        go_wp2
        go_ret
        exact ⟨rfl, rfl⟩
      · rw [red_1 (e.trans hc)]; clear e
        go_enter Try.func52, Try.ntmps52
        go_wp2
        go_ret
        exact ⟨rfl, rfl⟩
      · rw [red_2 (e.trans hc)]; clear e
        go_enter Try.func52, Try.ntmps52
        go_wp2
        go_ret
        exact ⟨rfl, rfl⟩
      · rw [red_3 (e.trans hc)]; clear e
        go_enter Try.func52, Try.ntmps52
        go_wp2
        go_ret
        exact ⟨rfl, rfl⟩
    · rw [red_n (suit_out (isCard_no (by omega)))]
      have hd : decide (c ≤ 51) = false := by simp; omega
      go_enter Try.func52, Try.ntmps52
      go_wp2
      go_ret
      exact ⟨rfl, rfl⟩
  · rw [red_n (suit_out (isCard_no (by omega)))]
    go_enter Try.func52, Try.ntmps52
    go_wp2
    go_ret
    exact ⟨rfl, rfl⟩
/-- b may lie on a. -/
def stepB (a b : Int) : Bool := decide (rankOf a = rankOf b + 1) && (redB a != redB b)
theorem step_r0 {a b : Int} (h : ¬ rankOf a = rankOf b + 1) : stepB a b = false := by unfold stepB; rw [decide_eq_false h]; rfl
theorem step_r1 {a b : Int} (h : rankOf a = rankOf b + 1) : stepB a b = (redB a != redB b) := by unfold stepB; rw [decide_eq_true h]; rfl
theorem rank_bd (c : Int) : -1 ≤ rankOf c ∧ rankOf c ≤ 12 := by
  unfold rankOf
  split <;> omega

set_option maxRecDepth 100000 in
theorem sStep_r (a b : Int) (w : World) (r : Bool) (hr : stepB a b = r) :
    Calls Try.prog 40 #[.int .i64 a, .int .i64 b] w fun e w' => e = .returned (.bool r) ∧ w = w' := by
  obtain ⟨x, hx⟩ : ∃ x, rankOf a = x := ⟨_, rfl⟩
  obtain ⟨y, hy⟩ : ∃ y, rankOf b = y := ⟨_, rfl⟩
  have hxb := rank_bd a
  have hyb := rank_bd b
  rw [hx] at hxb
  rw [hy] at hyb
  obtain ⟨hx0, hx1⟩ := hxb
  obtain ⟨hy0, hy1⟩ := hyb
  have HX := Lib.hid hx
  have HY := Lib.hid hy
  by_cases h : x = y + 1
  · have hq : (x == y + 1) = true := by simp; omega
    obtain ⟨p, hp⟩ : ∃ p, redB a = p := ⟨_, rfl⟩
    obtain ⟨q, hq2⟩ : ∃ q, redB b = q := ⟨_, rfl⟩
    have HP := Lib.hid hp
    have HQ := Lib.hid hq2
    have hr2 : r = (p != q) := by rw [← hr, step_r1 (by rw [hx, hy]; exact h), hp, hq2]
    clear hr hx hy hp hq2 h
    cases p <;> cases q
    all_goals
      obtain rfl := hr2
      go_enter Try.func40, Try.ntmps40
      go_wp2_with fail
      refine (sRankOf_r _ _ _ HX.out).mono ?_
      rintro e _w ⟨rfl, rfl⟩
      go_wp2_with fail
      refine (sRankOf_r _ _ _ HY.out).mono ?_
      rintro e _w ⟨rfl, rfl⟩
      go_wp2_with fail
      refine (sIsRed_r _ _ _ HP.out).mono ?_
      rintro e _w ⟨rfl, rfl⟩
      go_wp2_with fail
      refine (sIsRed_r _ _ _ HQ.out).mono ?_
      rintro e _w ⟨rfl, rfl⟩
      go_wp2_with fail
      go_ret
      exact ⟨rfl, rfl⟩
  · have hq : (x == y + 1) = false := by simp; omega
    obtain rfl : r = false := by rw [← hr, step_r0 (by rw [hx, hy]; exact h)]
    clear hr hx hy h
    go_enter Try.func40, Try.ntmps40
    go_wp2_with fail
    refine (sRankOf_r _ _ _ HX.out).mono ?_
    rintro e _w ⟨rfl, rfl⟩
    go_wp2_with fail
    refine (sRankOf_r _ _ _ HY.out).mono ?_
    rintro e _w ⟨rfl, rfl⟩
    go_wp2_with fail
    go_ret
    exact ⟨rfl, rfl⟩
set_option maxRecDepth 100000 in
theorem liesOn_r (a b : Int) (w : World) (r : Bool) (hr : stepB a b = r) :
    Calls Try.prog 57 #[.int .i64 b, .int .i64 a] w fun e w' => e = .returned (.bool r) ∧ w = w' := by
  obtain ⟨x, hx⟩ : ∃ x, rankOf a = x := ⟨_, rfl⟩
  obtain ⟨y, hy⟩ : ∃ y, rankOf b = y := ⟨_, rfl⟩
  have hxb := rank_bd a
  have hyb := rank_bd b
  rw [hx] at hxb
  rw [hy] at hyb
  obtain ⟨hx0, hx1⟩ := hxb
  obtain ⟨hy0, hy1⟩ := hyb
  have HX := Lib.hid hx
  have HY := Lib.hid hy
  by_cases h : x = y + 1
  · have hq : (y == x - 1) = true := by simp; omega
    obtain ⟨p, hp⟩ : ∃ p, redB a = p := ⟨_, rfl⟩
    obtain ⟨q, hq2⟩ : ∃ q, redB b = q := ⟨_, rfl⟩
    have HP := Lib.hid hp
    have HQ := Lib.hid hq2
    have hr2 : r = (p != q) := by rw [← hr, step_r1 (by rw [hx, hy]; exact h), hp, hq2]
    clear hr hx hy hp hq2 h
    cases p <;> cases q
    all_goals
      obtain rfl := hr2
      go_enter Try.func57, Try.ntmps57
      go_wp2_with fail
      refine (rankOf_r _ _ _ HY.out).mono ?_
      rintro e _w ⟨rfl, rfl⟩
      go_wp2_with fail
      refine (rankOf_r _ _ _ HX.out).mono ?_
      rintro e _w ⟨rfl, rfl⟩
      go_wp2_with fail
      refine (isRed_r _ _ _ HQ.out).mono ?_
      rintro e _w ⟨rfl, rfl⟩
      go_wp2_with fail
      refine (isRed_r _ _ _ HP.out).mono ?_
      rintro e _w ⟨rfl, rfl⟩
      go_wp2_with fail
      go_ret
      exact ⟨rfl, rfl⟩
  · have hq : (y == x - 1) = false := by simp; omega
    obtain rfl : r = false := by rw [← hr, step_r0 (by rw [hx, hy]; exact h)]
    clear hr hx hy h
    go_enter Try.func57, Try.ntmps57
    go_wp2_with fail
    refine (rankOf_r _ _ _ HY.out).mono ?_
    rintro e _w ⟨rfl, rfl⟩
    go_wp2_with fail
    refine (rankOf_r _ _ _ HX.out).mono ?_
    rintro e _w ⟨rfl, rfl⟩
    go_wp2_with fail
    go_ret
    exact ⟨rfl, rfl⟩
end Go.Proofs.Ytoeobpdgfhgpiaa
