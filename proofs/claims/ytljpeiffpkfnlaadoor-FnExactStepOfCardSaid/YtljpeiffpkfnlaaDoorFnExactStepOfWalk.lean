/-
  The walk of the law FnExactStepOf, out of the contracts of both sides.
-/
import Derived.Test.YtljpeiffpkfnlaaDoorStep
namespace Go.Proofs.YtljpeiffpkfnlaaDoor
open Go.RowKit

set_option linter.unusedVariables false in
set_option maxRecDepth 100000 in
set_option maxHeartbeats 4000000 in
theorem fnExactStepOf_walk (a0 : Int) (w : World) (wf0 : (Lit.int .i64 a0).wf = true) (sa sb : Addr) (hS : Sent sa sb w) :
    Calls Tryd.prog 3 #[.int .i64 a0] w fun e w' => e = .returned (.bool true) ∧ Below w.heap.size w w' := by
  go_enter Tryd.func3, Tryd.ntmps3
  have B : Below w.heap.size w w := Below.refl _ _
  go_wp2_with fail
  refine (sStepOf_any a0 _).mono ?_
  rintro e _w ⟨rfl, rfl⟩
  go_wp2_with fail
  refine (stepOf_any sa sb a0 _ (hS.below B (Nat.le_refl _))).mono ?_
  rintro e _w ⟨rfl, rfl⟩
  go_wp2_with fail
  go_ret
  exact ⟨rfl, B⟩

end Go.Proofs.YtljpeiffpkfnlaaDoor
