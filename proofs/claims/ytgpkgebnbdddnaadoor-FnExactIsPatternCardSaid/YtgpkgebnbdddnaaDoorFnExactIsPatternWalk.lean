/-
  The walk of the law FnExactIsPattern, out of the contracts of both sides.
-/
import Derived.Test.YtgpkgebnbdddnaaDoorPatG
import Derived.Test.YtgpkgebnbdddnaaDoorPatS
namespace Go.Proofs.YtgpkgebnbdddnaaDoor
open Go.RowKit

set_option linter.unusedVariables false in
set_option maxRecDepth 100000 in
set_option maxHeartbeats 4000000 in
theorem fnExactIsPattern_walk (v0 : Value) (z0 : List Int) (b0 : Nat) (w : World) (h0 : RdAt .i64 w v0 z0 b0) (hG : Grps w) :
    Calls Tryd.prog 3 #[v0] w fun e w' => e = .returned (.bool true) ∧ Below w.heap.size w w' := by
  by_cases hbig0 : 1048576 < z0.length
  · skip
    obtain ⟨p0, cap0, hv0, -⟩ := id h0
    go_enter Tryd.func3, Tryd.ntmps3
    subst hv0
    go_wp2_with fail
    go_ret
    exact ⟨rfl, Below.refl _ _⟩
  have hl0 : z0.length ≤ 1048576 := by omega
  have hL0 : z0.length ≤ 1099511627776 := by omega
  clear hbig0
  obtain ⟨p0, cap0, hv0, -⟩ := id h0
  go_enter Tryd.func3, Tryd.ntmps3
  subst hv0
  have B : Below w.heap.size w w := Below.refl _ _
  go_wp2_with fail
  refine (toIntS_any _ z0 b0 _ (h0.below B) hL0).mono ?_
  rintro e w1 ⟨m0v, rfl, m0, bw1, lw1⟩
  have qw1 := bw1.size
  replace B := B.trans (bw1.mono B.size)
  clear bw1
  go_wp2_with fail
  refine (sIsPattern_any _ z0 _ _ m0.rd hl0 _ rfl).mono ?_
  rintro e _w ⟨rfl, rfl⟩
  clear m0
  go_wp2_with fail
  refine (toIntS_any _ z0 b0 _ (h0.below B) hL0).mono ?_
  rintro e w2 ⟨x0v, rfl, x0, bw2, lw2⟩
  have qw2 := bw2.size
  replace B := B.trans (bw2.mono B.size)
  clear bw2
  go_wp2_with fail
  refine (isPattern_any _ z0 _ _ x0.rd hl0 (hG.below B) _ rfl).mono ?_
  rintro e w3 ⟨rfl, bw3⟩
  replace x0 := x0.below bw3
  have qw3 := bw3.size
  replace B := B.trans (bw3.mono B.size)
  clear bw3
  go_wp2_with fail
  refine (toIntS_any _ z0 b0 _ (h0.below B) hL0).mono ?_
  rintro e w4 ⟨y0v, rfl, y0, bw4, lw4⟩
  replace x0 := x0.below bw4
  have qw4 := bw4.size
  replace B := B.trans (bw4.mono B.size)
  clear bw4
  go_wp2_with fail
  refine (eqIntS_t _ _ _ _ _ _ x0.rd y0.rd hL0).mono ?_
  rintro e w5 ⟨rfl, bw5⟩
  replace x0 := x0.below bw5
  replace y0 := y0.below bw5
  have qw5 := bw5.size
  replace B := B.trans (bw5.mono B.size)
  clear bw5
  clear y0
  go_wp2_with fail
  go_ret
  exact ⟨rfl, B⟩

end Go.Proofs.YtgpkgebnbdddnaaDoor
