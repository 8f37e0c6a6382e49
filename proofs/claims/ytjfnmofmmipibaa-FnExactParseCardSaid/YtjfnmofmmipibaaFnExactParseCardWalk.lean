/-
  The walk of the law FnExactParseCard, out of the contracts of both sides.
-/
import Derived.Test.YtjfnmofmmipibaaParseCard
namespace Go.Proofs.Ytjfnmofmmipibaa
open Go.RowKit

set_option linter.unusedVariables false in
set_option maxRecDepth 100000 in
set_option maxHeartbeats 4000000 in
theorem fnExactParseCard_walk (a0 : ByteArray) (w : World) (wf0 : a0.size ≤ maxLen)  :
    Calls Try.prog 16 #[.string a0] w fun e w' => e = .returned (.bool true) ∧ Below w.heap.size w w' := by
  by_cases hbig0 : 1048576 < a0.size
  · skip
    go_enter Try.func16, Try.ntmps16
    go_wp2_with fail
    go_ret
    exact ⟨rfl, Below.refl _ _⟩
  have hl0 : a0.size ≤ 1048576 := by omega
  clear hbig0
  go_enter Try.func16, Try.ntmps16
  have B : Below w.heap.size w w := Below.refl _ _
  go_wp2_with fail
  refine (sParseCard_any a0 _).mono ?_
  rintro e w1 ⟨rfl, bw1⟩
  have qw1 := bw1.size
  replace B := B.trans (bw1.mono B.size)
  clear bw1
  go_wp2_with fail
  refine (parseCard_any a0 _).mono ?_
  rintro e _w ⟨rfl, rfl⟩
  go_wp2_with fail
  go_ret
  exact ⟨rfl, B⟩

end Go.Proofs.Ytjfnmofmmipibaa
