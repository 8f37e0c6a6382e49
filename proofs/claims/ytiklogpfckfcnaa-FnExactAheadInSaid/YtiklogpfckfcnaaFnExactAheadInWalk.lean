/-
  The walk of the law FnExactAheadIn, out of the contracts of both sides.
-/
import Derived.Test.YtiklogpfckfcnaaSheetL
import Derived.Test.YtiklogpfckfcnaaSheetS
namespace Go.Proofs.Ytiklogpfckfcnaa
open Go.RowKit

set_option linter.unusedVariables false in
set_option maxRecDepth 100000 in
set_option maxHeartbeats 4000000 in
theorem fnExactAheadIn_walk (a0 : Int) (v1 : Value) (z1 : List (List Int)) (w : World) (wf0 : (Lit.int .i64 a0).wf = true) (h1 : RdRows .i64 w v1 z1)  :
    Calls Try.prog 5 #[.int .i64 a0, v1] w fun e w' => e = .returned (.bool true) ∧ Below w.heap.size w w' := by
  obtain ⟨p1, cap1, hv1, -⟩ := id h1
  go_enter Try.func5, Try.ntmps5
  subst hv1
  have B : Below w.heap.size w w := Below.refl _ _
  go_wp2_with fail
  refine (szIntSS_any _ z1 _ _ h1 (by omega) (by omega)).mono ?_
  rintro e _w ⟨⟨r1, rfl, rn1, rm1, hr1⟩, rfl⟩
  by_cases hneg1 : r1 < 0
  · go_wp2_with fail
    go_ret
    exact ⟨rfl, B⟩
  have hl1 : z1.length ≤ 1048576 := by have := hr1 (by omega); omega
  have hm1 : sumLen z1 ≤ 1048576 := by have := hr1 (by omega); omega
  clear hr1
  go_wp2_with fail
  refine (toIntSS_any _ z1 _ (h1.below B) hl1 hm1).mono ?_
  rintro e w1 ⟨m1v, rfl, m1, bw1⟩
  obtain ⟨pm1, cm1, em1, -⟩ := id m1.rd
  subst em1
  have qw1 := bw1.size
  replace B := B.trans (bw1.mono B.size)
  clear bw1
  replace m1 := m1.rd
  go_wp2_with fail
  refine (sAheadIn_any a0 _ z1 _ m1 hl1 hm1).mono ?_
  rintro e _w ⟨rfl, rfl⟩
  clear m1
  go_wp2_with fail
  refine (toIntSS_any _ z1 _ (h1.below B) hl1 hm1).mono ?_
  rintro e w2 ⟨x1v, rfl, x1, bw2⟩
  obtain ⟨px1, cx1, ex1, -⟩ := id x1.rd
  subst ex1
  have qw2 := bw2.size
  replace B := B.trans (bw2.mono B.size)
  clear bw2
  replace x1 := x1.rd
  go_wp2_with fail
  refine (aheadIn_any a0 _ z1 _ x1 hl1 hm1).mono ?_
  rintro e w3 ⟨rfl, bw3⟩
  replace x1 := x1.below bw3
  have qw3 := bw3.size
  replace B := B.trans (bw3.mono B.size)
  clear bw3
  go_wp2_with fail
  refine (toIntSS_any _ z1 _ (h1.below B) hl1 hm1).mono ?_
  rintro e w4 ⟨y1v, rfl, y1, bw4⟩
  obtain ⟨py1, cy1, ey1, -⟩ := id y1.rd
  subst ey1
  replace x1 := x1.below bw4
  have qw4 := bw4.size
  replace B := B.trans (bw4.mono B.size)
  clear bw4
  replace y1 := y1.rd
  go_wp2_with fail
  refine (eqIntSS_t _ _ _ _ x1 y1 hl1 hm1).mono ?_
  rintro e w5 ⟨rfl, bw5⟩
  replace x1 := x1.below bw5
  replace y1 := y1.below bw5
  have qw5 := bw5.size
  replace B := B.trans (bw5.mono B.size)
  clear bw5
  clear y1
  go_wp2_with fail
  go_ret
  exact ⟨rfl, B⟩

end Go.Proofs.Ytiklogpfckfcnaa
