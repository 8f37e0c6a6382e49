/-
  The walk of the law FnExactKindName, out of the contracts of both sides.
-/
import Derived.Test.YtjigglnepcabmaaKindName
namespace Go.Proofs.Ytjigglnepcabmaa
open Go.RowKit

set_option linter.unusedVariables false in
set_option maxRecDepth 100000 in
set_option maxHeartbeats 4000000 in
theorem fnExactKindName_walk (a0 : Int) (w : World) (wf0 : (Lit.int .i64 a0).wf = true)  :
    Calls Try.prog 13 #[.int .i64 a0] w fun e w' => e = .returned (.bool true) ∧ Below w.heap.size w w' := by
  go_enter Try.func13, Try.ntmps13
  have B : Below w.heap.size w w := Below.refl _ _
  go_wp2_with fail
  refine (sKindName_any a0 _).mono ?_
  rintro e w1 ⟨rfl, bw1⟩
  have qw1 := bw1.size
  replace B := B.trans (bw1.mono B.size)
  clear bw1
  go_wp2_with fail
  refine (kindName_any a0 _).mono ?_
  rintro e w2 ⟨rfl, bw2⟩
  have qw2 := bw2.size
  replace B := B.trans (bw2.mono B.size)
  clear bw2
  go_wp2_with fail
  go_ret
  exact ⟨rfl, B⟩

end Go.Proofs.Ytjigglnepcabmaa
