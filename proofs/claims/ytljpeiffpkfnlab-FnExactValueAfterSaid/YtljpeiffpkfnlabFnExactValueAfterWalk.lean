/-
  The walk of the law FnExactValueAfter, out of the contracts of both sides.
-/
import Derived.Test.YtljpeiffpkfnlabValAfter
namespace Go.Proofs.Ytljpeiffpkfnlab
open Go.RowKit

set_option linter.unusedVariables false in
set_option maxRecDepth 100000 in
set_option maxHeartbeats 4000000 in
theorem fnExactValueAfter_walk (a0 : ByteArray) (a1 : ByteArray) (w : World) (wf0 : a0.size ≤ maxLen) (wf1 : a1.size ≤ maxLen)  :
    Calls Try.prog 4 #[.string a0, .string a1] w fun e w' => e = .returned (.bool true) ∧ Below w.heap.size w w' := by
  by_cases hbig0 : 1048576 < a0.size
  · skip
    go_enter Try.func4, Try.ntmps4
    go_wp2_with fail
    go_ret
    exact ⟨rfl, Below.refl _ _⟩
  by_cases hbig1 : 1048576 < a1.size
  · skip
    have hn0 : ¬ (1048576 < (a0.size : Int)) := by omega
    go_enter Try.func4, Try.ntmps4
    go_wp2_with fail
    go_ret
    exact ⟨rfl, Below.refl _ _⟩
  have hl0 : a0.size ≤ 1048576 := by omega
  clear hbig0
  have hl1 : a1.size ≤ 1048576 := by omega
  clear hbig1
  go_enter Try.func4, Try.ntmps4
  have B : Below w.heap.size w w := Below.refl _ _
  go_wp2_with fail
  refine (sValueAfter_any a0 a1 _ hl0 hl1).mono ?_
  rintro e _w ⟨rfl, rfl⟩
  go_wp2_with fail
  refine (valueAfter_any a0 a1 _ hl0 hl1).mono ?_
  rintro e _w ⟨rfl, rfl⟩
  go_wp2_with fail
  go_ret
  exact ⟨rfl, B⟩

end Go.Proofs.Ytljpeiffpkfnlab
