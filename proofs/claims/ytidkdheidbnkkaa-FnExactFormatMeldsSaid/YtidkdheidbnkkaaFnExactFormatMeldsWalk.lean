/-
  The walk of the law FnExactFormatMelds, out of the contracts of both sides.
-/
import Derived.Test.YtidkdheidbnkkaaFMelds
namespace Go.Proofs.Ytidkdheidbnkkaa
open Go.RowKit

set_option linter.unusedVariables false in
set_option maxRecDepth 100000 in
set_option maxHeartbeats 4000000 in
theorem fnExactFormatMelds_walk (v0 : Value) (z0 : List (List Int)) (w : World) (h0 : RdRows .i64 w v0 z0)  :
    Calls Try.prog 6 #[v0] w fun e w' => e = .returned (.bool true) ∧ Below w.heap.size w w' := by
  obtain ⟨p0, cap0, hv0, -⟩ := id h0
  go_enter Try.func6, Try.ntmps6
  subst hv0
  have B : Below w.heap.size w w := Below.refl _ _
  go_wp2_with fail
  refine (szIntSS_any _ z0 _ _ h0 (by omega) (by omega)).mono ?_
  rintro e _w ⟨⟨r0, rfl, rn0, rm0, hr0⟩, rfl⟩
  by_cases hneg0 : r0 < 0
  · go_wp2_with fail
    go_ret
    exact ⟨rfl, B⟩
  have hl0 : z0.length ≤ 1048576 := by have := hr0 (by omega); omega
  have hm0 : sumLen z0 ≤ 1048576 := by have := hr0 (by omega); omega
  clear hr0
  go_wp2_with fail
  refine (toIntSS_any _ z0 _ (h0.below B) hl0 hm0).mono ?_
  rintro e w1 ⟨m0v, rfl, m0, bw1⟩
  obtain ⟨pm0, cm0, em0, -⟩ := id m0.rd
  subst em0
  have qw1 := bw1.size
  replace B := B.trans (bw1.mono B.size)
  clear bw1
  replace m0 := m0.rd
  go_wp2_with fail
  refine (sFormatMelds_any _ z0 _ m0 hl0 hm0).mono ?_
  rintro e w2 ⟨rfl, bw2⟩
  replace m0 := m0.below bw2
  have qw2 := bw2.size
  replace B := B.trans (bw2.mono B.size)
  clear bw2
  clear m0
  go_wp2_with fail
  refine (toIntSS_any _ z0 _ (h0.below B) hl0 hm0).mono ?_
  rintro e w3 ⟨x0v, rfl, x0, bw3⟩
  obtain ⟨px0, cx0, ex0, -⟩ := id x0.rd
  subst ex0
  have qw3 := bw3.size
  replace B := B.trans (bw3.mono B.size)
  clear bw3
  replace x0 := x0.rd
  go_wp2_with fail
  refine (formatMelds_any _ z0 _ x0 hl0 hm0).mono ?_
  rintro e w4 ⟨rfl, bw4⟩
  replace x0 := x0.below bw4
  have qw4 := bw4.size
  replace B := B.trans (bw4.mono B.size)
  clear bw4
  go_wp2_with fail
  refine (toIntSS_any _ z0 _ (h0.below B) hl0 hm0).mono ?_
  rintro e w5 ⟨y0v, rfl, y0, bw5⟩
  obtain ⟨py0, cy0, ey0, -⟩ := id y0.rd
  subst ey0
  replace x0 := x0.below bw5
  have qw5 := bw5.size
  replace B := B.trans (bw5.mono B.size)
  clear bw5
  replace y0 := y0.rd
  go_wp2_with fail
  refine (eqIntSS_t _ _ _ _ x0 y0 hl0 hm0).mono ?_
  rintro e w6 ⟨rfl, bw6⟩
  replace x0 := x0.below bw6
  replace y0 := y0.below bw6
  have qw6 := bw6.size
  replace B := B.trans (bw6.mono B.size)
  clear bw6
  clear y0
  go_wp2_with fail
  go_ret
  exact ⟨rfl, B⟩

end Go.Proofs.Ytidkdheidbnkkaa
