/-
  The two functions that ask whether a number lies within bounds.
-/
import Derived.Test.YtbojhbhniollaaaDoorMarksI
namespace Go.Proofs.YtbojhbhniollaaaDoor
open Go.RowKit

theorem inR_any (n lo hi : Int) (w : World) (r : Bool) (hr : r = decide (lo ≤ n ∧ n ≤ hi)) :
    Calls Tryd.prog 38 #[.int .i64 n, .int .i64 lo, .int .i64 hi] w fun e w' => e = .returned (.bool r) ∧ w = w' := by
  by_cases h0 : lo ≤ n
  · by_cases h1 : n ≤ hi
    · have e : r = true := by rw [hr]; simp; omega
      subst e; clear hr
      go_enter Tryd.func38, Tryd.ntmps38
      go_wp2
      go_ret
      exact ⟨rfl, rfl⟩
    · have e : r = false := by rw [hr]; simp; omega
      have hd : decide (n ≤ hi) = false := by simp; omega
      subst e; clear hr
      go_enter Tryd.func38, Tryd.ntmps38
      go_wp2
      go_ret
      exact ⟨rfl, rfl⟩
  · have e : r = false := by rw [hr]; simp; omega
    subst e; clear hr
    go_enter Tryd.func38, Tryd.ntmps38
    go_wp2
    go_ret
    exact ⟨rfl, rfl⟩
theorem inM_any (n lo hi : Int) (w : World) (r : Bool) (hr : r = decide (lo ≤ n ∧ n ≤ hi)) :
    Calls Tryd.prog 34 #[.int .i64 n, .int .i64 lo, .int .i64 hi] w fun e w' => e = .returned (.bool r) ∧ w = w' := by
  by_cases h0 : lo ≤ n
  · by_cases h1 : n ≤ hi
    · have e : r = true := by rw [hr]; simp; omega
      subst e; clear hr
      go_enter Tryd.func34, Tryd.ntmps34
      go_wp2
      go_ret
      exact ⟨rfl, rfl⟩
    · have e : r = false := by rw [hr]; simp; omega
      have hd : decide (n ≤ hi) = false := by simp; omega
      subst e; clear hr
      go_enter Tryd.func34, Tryd.ntmps34
      go_wp2
      go_ret
      exact ⟨rfl, rfl⟩
  · have e : r = false := by rw [hr]; simp; omega
    subst e; clear hr
    go_enter Tryd.func34, Tryd.ntmps34
    go_wp2
    go_ret
    exact ⟨rfl, rfl⟩
end Go.Proofs.YtbojhbhniollaaaDoor
