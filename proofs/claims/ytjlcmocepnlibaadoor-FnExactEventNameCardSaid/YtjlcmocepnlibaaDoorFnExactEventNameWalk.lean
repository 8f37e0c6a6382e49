/-
  The walk of the law FnExactEventName, out of the contracts of both sides.
-/
import Derived.Test.YtjlcmocepnlibaaDoorEvName
namespace Go.Proofs.YtjlcmocepnlibaaDoor
open Go.RowKit

set_option linter.unusedVariables false in
set_option maxRecDepth 100000 in
set_option maxHeartbeats 4000000 in
theorem fnExactEventName_walk (a0 : Int) (w : World) (wf0 : (Lit.int .i64 a0).wf = true) (hN : EvNames w) :
    Calls Tryd.prog 3 #[.int .i64 a0] w fun e w' => e = .returned (.bool true) ∧ Below w.heap.size w w' := by
  go_enter Tryd.func3, Tryd.ntmps3
  have B : Below w.heap.size w w := Below.refl _ _
  go_wp2_with fail
  refine (sEventName_any a0 _).mono ?_
  rintro e w1 ⟨rfl, bw1⟩
  have qw1 := bw1.size
  replace B := B.trans (bw1.mono B.size)
  clear bw1
  go_wp2_with fail
  refine (eventName_any a0 _ (hN.below B)).mono ?_
  rintro e w2 ⟨rfl, bw2⟩
  have qw2 := bw2.size
  replace B := B.trans (bw2.mono B.size)
  clear bw2
  go_wp2_with fail
  go_ret
  exact ⟨rfl, B⟩

end Go.Proofs.YtjlcmocepnlibaaDoor
