/-
  Contracts of Min, Max and extremes, and of the model's Min and Max: for all ints.
-/
import Derived.Test.YtmfammgdcdlceaaRows
import Derived.WalkKit
import Derived.WalkLawsBesides
import Derived.WalkSpells
namespace Go.Proofs.Ytmfammgdcdlceaa
open Go.RowKit
set_option linter.unusedVariables false
set_option linter.unusedSimpArgs false

def minI (a b : Int) : Int := if b < a then b else a
def maxI (a b : Int) : Int := if a < b then b else a

theorem extremes_one (a b : Int) (blk : Nat) (w : World) (hc : w.cell? ⟨blk, 0, none⟩ = some (.int .i64 b)) :
    Calls Try.prog 20 #[.int .i64 a, .slice (some ⟨blk, 0, none⟩) 1 1] w fun e w' => e = .returned (.tuple #[.int .i64 (minI a b), .int .i64 (maxI a b)]) ∧ w = w' := by
  by_cases h1 : b < a
  · have h2 : ¬ a < b := by omega
    have e1 : minI a b = b := if_pos h1
    have e2 : maxI a b = a := if_neg h2
    rw [e1, e2]
    clear e1 e2
    go_enter Try.func20, Try.ntmps20
    go_wp2
    refine wp_loop_rounds 2 ?_
    rw [rounds_succ]
    go_wp2
    rw [rounds_succ]
    go_wp2
    go_ret2
    exact ⟨rfl, rfl⟩
  · by_cases h2 : a < b
    · have e1 : minI a b = a := if_neg h1
      have e2 : maxI a b = b := if_pos h2
      rw [e1, e2]
      clear e1 e2
      go_enter Try.func20, Try.ntmps20
      go_wp2
      refine wp_loop_rounds 2 ?_
      rw [rounds_succ]
      go_wp2
      rw [rounds_succ]
      go_wp2
      go_ret2
      exact ⟨rfl, rfl⟩
    · have e1 : minI a b = a := if_neg h1
      have e2 : maxI a b = a := if_neg h2
      rw [e1, e2]
      clear e1 e2
      go_enter Try.func20, Try.ntmps20
      go_wp2
      refine wp_loop_rounds 2 ?_
      rw [rounds_succ]
      go_wp2
      rw [rounds_succ]
      go_wp2
      go_ret2
      exact ⟨rfl, rfl⟩

theorem min_any (a b : Int) (w : World) :
    Calls Try.prog 14 #[.int .i64 a, .int .i64 b] w fun e w' => e = .returned (.int .i64 (minI a b)) ∧ Below w.heap.size w w' := by
  go_enter Try.func14, Try.ntmps14
  go_wp2_with fail
  refine (extremes_one _ _ _ _ (by rw [World.cell?_alloc_new]; rfl)).mono ?_
  rintro e w' ⟨rfl, rfl⟩
  go_wp2
  go_ret
  exact ⟨rfl, (Below.refl _ _).alloc (Nat.le_refl _) _⟩




end Go.Proofs.Ytmfammgdcdlceaa
