/-
  The walk of the law FnExactIsOpened, out of the contracts of both sides.
-/
import Derived.Test.YtljpeiffpkfnlaaDoorOpened
namespace Go.Proofs.YtljpeiffpkfnlaaDoor
open Go.RowKit

set_option linter.unusedVariables false in
set_option maxRecDepth 100000 in
set_option maxHeartbeats 4000000 in
theorem fnExactIsOpened_walk (a0 : Int) (a1 : Int) (a2 : Int) (a3 : Int) (w : World) (wf0 : (Lit.int .i64 a0).wf = true) (wf1 : (Lit.int .i64 a1).wf = true) (wf2 : (Lit.int .i64 a2).wf = true) (wf3 : (Lit.int .i64 a3).wf = true) (sa sb : Addr) (hS : Sent sa sb w) :
    Calls Tryd.prog 9 #[.int .i64 a0, .int .i64 a1, .int .i64 a2, .int .i64 a3] w fun e w' => e = .returned (.bool true) ∧ Below w.heap.size w w' := by
  go_enter Tryd.func9, Tryd.ntmps9
  have B : Below w.heap.size w w := Below.refl _ _
  go_wp2_with fail
  refine (sIsOpened_r a0 a1 a2 a3 _ wf0 wf1 wf2 _ rfl).mono ?_
  rintro e w1 ⟨rfl, bw1⟩
  have qw1 := bw1.size
  replace B := B.trans (bw1.mono B.size)
  clear bw1
  go_wp2_with fail
  refine (isOpened_r sa sb a0 a1 a2 a3 _ wf0 wf1 wf2 (hS.below B (Nat.le_refl _)) _ rfl).mono ?_
  rintro e w2 ⟨rfl, bw2⟩
  have qw2 := bw2.size
  replace B := B.trans (bw2.mono B.size)
  clear bw2
  go_wp2_with fail
  go_ret
  exact ⟨rfl, B⟩

end Go.Proofs.YtljpeiffpkfnlaaDoor
