/-
  The walk of the law FnExactDeriveFromString, out of the contracts of both sides.
-/
import Derived.Test.YtchpkpajnjcnbaaDoorDerive
namespace Go.Proofs.YtchpkpajnjcnbaaDoor
open Go.RowKit

set_option linter.unusedVariables false in
set_option maxRecDepth 100000 in
set_option maxHeartbeats 4000000 in
theorem fnExactDeriveFromString_walk (a0 : Int) (a1 : ByteArray) (w : World) (wf0 : (Lit.int .i64 a0).wf = true) (wf1 : a1.size ≤ maxLen) (sa sb : Addr) (hS : Sent sa sb w) :
    Calls Tryd.prog 7 #[.int .i64 a0, .string a1] w fun e w' => e = .returned (.bool true) ∧ Below w.heap.size w w' := by
  by_cases hbig1 : 1048576 < a1.size
  · skip
    go_enter Tryd.func7, Tryd.ntmps7
    go_wp2_with fail
    go_ret
    exact ⟨rfl, Below.refl _ _⟩
  have hl1 : a1.size ≤ 1048576 := by omega
  clear hbig1
  go_enter Tryd.func7, Tryd.ntmps7
  have B : Below w.heap.size w w := Below.refl _ _
  go_wp2_with fail
  refine (sDerive_any a0 a1 _ hl1 wf0).mono ?_
  rintro e w1 ⟨rfl, bw1⟩
  have qw1 := bw1.size
  replace B := B.trans (bw1.mono B.size)
  clear bw1
  go_wp2_with fail
  refine (derive_any sa sb a0 a1 _ hl1 wf0 (hS.below B (Nat.le_refl _))).mono ?_
  rintro e w2 ⟨rfl, bw2⟩
  have qw2 := bw2.size
  replace B := B.trans (bw2.mono B.size)
  clear bw2
  go_wp2_with fail
  go_ret
  exact ⟨rfl, B⟩

end Go.Proofs.YtchpkpajnjcnbaaDoor
