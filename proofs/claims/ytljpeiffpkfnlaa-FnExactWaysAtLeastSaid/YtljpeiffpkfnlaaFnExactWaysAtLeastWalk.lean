/-
  The walk of the law FnExactWaysAtLeast, out of the contracts of both sides.
-/
import Derived.Test.YtljpeiffpkfnlaaChance
namespace Go.Proofs.Ytljpeiffpkfnlaa
open Go.RowKit

set_option linter.unusedVariables false in
set_option maxRecDepth 100000 in
set_option maxHeartbeats 4000000 in
theorem fnExactWaysAtLeast_walk (a0 : Int) (a1 : Int) (a2 : Int) (a3 : Int) (w : World) (wf0 : (Lit.int .i64 a0).wf = true) (wf1 : (Lit.int .i64 a1).wf = true) (wf2 : (Lit.int .i64 a2).wf = true) (wf3 : (Lit.int .i64 a3).wf = true)  :
    Calls Try.prog 10 #[.int .i64 a0, .int .i64 a1, .int .i64 a2, .int .i64 a3] w fun e w' => e = .returned (.bool true) ∧ Below w.heap.size w w' := by
  go_enter Try.func10, Try.ntmps10
  have B : Below w.heap.size w w := Below.refl _ _
  go_wp2_with fail
  refine (sWaysAtLeast_any a0 a1 a2 a3 _ wf3).mono ?_
  rintro e w1 ⟨rfl, bw1⟩
  have qw1 := bw1.size
  replace B := B.trans (bw1.mono B.size)
  clear bw1
  go_wp2_with fail
  refine (waysAtLeast_any a0 a1 a2 a3 _).mono ?_
  rintro e w2 ⟨rfl, bw2⟩
  have qw2 := bw2.size
  replace B := B.trans (bw2.mono B.size)
  clear bw2
  go_wp2_with fail
  go_ret
  exact ⟨rfl, B⟩

end Go.Proofs.Ytljpeiffpkfnlaa
