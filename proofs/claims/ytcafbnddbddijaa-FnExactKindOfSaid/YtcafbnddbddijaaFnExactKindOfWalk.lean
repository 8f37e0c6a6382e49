/-
  The walk of the law FnExactKindOf, out of the contracts of both sides.
-/
import Derived.Test.YtcafbnddbddijaaFiveP
namespace Go.Proofs.Ytcafbnddbddijaa
open Go.RowKit

set_option linter.unusedVariables false in
set_option maxRecDepth 100000 in
set_option maxHeartbeats 4000000 in
theorem fnExactKindOf_walk (v0 : Value) (z0 : List Int) (b0 : Nat) (w : World) (h0 : RdAt .i64 w v0 z0 b0)  :
    Calls Try.prog 5 #[v0] w fun e w' => e = .returned (.bool true) ∧ Below w.heap.size w w' := by
  by_cases hbig0 : 1048576 < z0.length
  · skip
    obtain ⟨p0, cap0, hv0, -⟩ := id h0
    go_enter Try.func5, Try.ntmps5
    subst hv0
    go_wp2_with fail
    go_ret
    exact ⟨rfl, by first | exact Below.refl _ _ | exact (Below.refl _ _).alloc (Nat.le_refl _) _ | exact ((Below.refl _ _).alloc (Nat.le_refl _) _).alloc (by simp) _⟩
  have hl0 : z0.length ≤ 1048576 := by omega
  have hL0 : z0.length ≤ 1099511627776 := by omega
  clear hbig0
  obtain ⟨p0, cap0, hv0, -⟩ := id h0
  go_enter Try.func5, Try.ntmps5
  subst hv0
  have B : Below w.heap.size w w := Below.refl _ _
  go_wp2_with fail
  refine (toIntS_any _ z0 b0 _ (h0.below B) hL0).mono ?_
  rintro e w1 ⟨m0v, rfl, m0, bw1, lw1⟩
  have qw1 := bw1.size
  replace B := B.trans (bw1.mono B.size)
  clear bw1
  go_wp2_with fail
  refine (sKindOf_any _ z0 _ _ m0.rd hl0).mono ?_
  rintro e w2 ⟨rfl, bw2⟩
  replace m0 := m0.below bw2
  have qw2 := bw2.size
  replace B := B.trans (bw2.mono B.size)
  clear bw2
  clear m0
  go_wp2_with fail
  refine (toIntS_any _ z0 b0 _ (h0.below B) hL0).mono ?_
  rintro e w3 ⟨x0v, rfl, x0, bw3, lw3⟩
  have qw3 := bw3.size
  replace B := B.trans (bw3.mono B.size)
  clear bw3
  go_wp2_with fail
  refine (kindOf_any _ z0 _ _ x0.rd hl0).mono ?_
  rintro e w4 ⟨rfl, bw4⟩
  replace x0 := x0.below bw4
  have qw4 := bw4.size
  replace B := B.trans (bw4.mono B.size)
  clear bw4
  go_wp2_with fail
  refine (toIntS_any _ z0 b0 _ (h0.below B) hL0).mono ?_
  rintro e w5 ⟨y0v, rfl, y0, bw5, lw5⟩
  replace x0 := x0.below bw5
  have qw5 := bw5.size
  replace B := B.trans (bw5.mono B.size)
  clear bw5
  go_wp2_with fail
  refine (eqIntS_t _ _ _ _ _ _ x0.rd y0.rd hL0).mono ?_
  rintro e w6 ⟨rfl, bw6⟩
  replace x0 := x0.below bw6
  replace y0 := y0.below bw6
  have qw6 := bw6.size
  replace B := B.trans (bw6.mono B.size)
  clear bw6
  clear y0
  go_wp2_with fail
  go_ret
  exact ⟨rfl, B⟩

end Go.Proofs.Ytcafbnddbddijaa
