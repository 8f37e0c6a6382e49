/-
  The walk of the law FnExactChoose, out of the contracts of both sides.
-/
import Derived.Test.YtljpeiffpkfnlaaChoose
namespace Go.Proofs.Ytljpeiffpkfnlaa
open Go.RowKit

set_option linter.unusedVariables false in
set_option maxRecDepth 100000 in
set_option maxHeartbeats 4000000 in
theorem fnExactChoose_walk (a0 : Int) (a1 : Int) (w : World) (wf0 : (Lit.int .i64 a0).wf = true) (wf1 : (Lit.int .i64 a1).wf = true)  :
    Calls Try.prog 8 #[.int .i64 a0, .int .i64 a1] w fun e w' => e = .returned (.bool true) ∧ Below w.heap.size w w' := by
  go_enter Try.func8, Try.ntmps8
  have B : Below w.heap.size w w := Below.refl _ _
  go_wp2_with fail
  refine (sChoose_any a0 a1 _).mono ?_
  rintro e w1 ⟨rfl, bw1⟩
  have qw1 := bw1.size
  replace B := B.trans (bw1.mono B.size)
  clear bw1
  go_wp2_with fail
  refine (choose_any a0 a1 _).mono ?_
  rintro e w2 ⟨rfl, bw2⟩
  have qw2 := bw2.size
  replace B := B.trans (bw2.mono B.size)
  clear bw2
  go_wp2_with fail
  go_ret
  exact ⟨rfl, B⟩

end Go.Proofs.Ytljpeiffpkfnlaa
