/-
  The walk of the law FnExactSheetText, out of the contracts of both sides.
-/
import Derived.Test.YtmfammgdcdlceaaDoorSheetT
namespace Go.Proofs.YtmfammgdcdlceaaDoor
open Go.RowKit

set_option linter.unusedVariables false in
set_option maxRecDepth 100000 in
set_option maxHeartbeats 4000000 in
theorem fnExactSheetText_walk (a0 : Int) (v1 : Value) (z1 : List (List Int)) (w : World) (wf0 : (Lit.int .i64 a0).wf = true) (h1 : RdRows .i64 w v1 z1) (hP : Pow w) :
    Calls Tryd.prog 3 #[.int .i64 a0, v1] w fun e w' => e = .returned (.bool true) ∧ Below w.heap.size w w' := by
  obtain ⟨p1, cap1, hv1, -⟩ := id h1
  go_enter Tryd.func3, Tryd.ntmps3
  subst hv1
  have B : Below w.heap.size w w := Below.refl _ _
  go_wp2_with fail
  refine (szIntSS_any _ z1 _ _ h1 (by omega) (by omega)).mono ?_
  rintro e _w ⟨⟨r1, rfl, rn1, rm1, hr1⟩, rfl⟩
  by_cases hneg1 : r1 < 0
  · go_wp2_with fail
    go_ret
    exact ⟨rfl, B⟩
  have hl1 : z1.length ≤ 1048576 := by have := hr1 (by omega); omega
  have hm1 : sumLen z1 ≤ 1048576 := by have := hr1 (by omega); omega
  clear hr1
  go_wp2_with fail
  refine (toIntSS_any _ z1 _ (h1.below B) hl1 hm1).mono ?_
  rintro e w1 ⟨m1v, rfl, m1, bw1⟩
  obtain ⟨pm1, cm1, em1, -⟩ := id m1.rd
  subst em1
  have qw1 := bw1.size
  replace B := B.trans (bw1.mono B.size)
  clear bw1
  replace m1 := m1.rd
  go_wp2_with fail
  refine (sSheetText_any a0 _ z1 _ m1 hl1 hm1).mono ?_
  rintro e w2 ⟨rfl, bw2⟩
  replace m1 := m1.below bw2
  have qw2 := bw2.size
  replace B := B.trans (bw2.mono B.size)
  clear bw2
  clear m1
  go_wp2_with fail
  refine (toIntSS_any _ z1 _ (h1.below B) hl1 hm1).mono ?_
  rintro e w3 ⟨x1v, rfl, x1, bw3⟩
  obtain ⟨px1, cx1, ex1, -⟩ := id x1.rd
  subst ex1
  have qw3 := bw3.size
  replace B := B.trans (bw3.mono B.size)
  clear bw3
  replace x1 := x1.rd
  go_wp2_with fail
  refine (sheetText_any a0 _ z1 _ x1 hl1 hm1 (hP.below B (Nat.le_refl _))).mono ?_
  rintro e w4 ⟨rfl, bw4⟩
  replace x1 := x1.below bw4
  have qw4 := bw4.size
  replace B := B.trans (bw4.mono B.size)
  clear bw4
  go_wp2_with fail
  refine (toIntSS_any _ z1 _ (h1.below B) hl1 hm1).mono ?_
  rintro e w5 ⟨y1v, rfl, y1, bw5⟩
  obtain ⟨py1, cy1, ey1, -⟩ := id y1.rd
  subst ey1
  replace x1 := x1.below bw5
  have qw5 := bw5.size
  replace B := B.trans (bw5.mono B.size)
  clear bw5
  replace y1 := y1.rd
  go_wp2_with fail
  refine (eqIntSS_t _ _ _ _ x1 y1 hl1 hm1).mono ?_
  rintro e w6 ⟨rfl, bw6⟩
  replace x1 := x1.below bw6
  replace y1 := y1.below bw6
  have qw6 := bw6.size
  replace B := B.trans (bw6.mono B.size)
  clear bw6
  clear y1
  go_wp2_with fail
  go_ret
  exact ⟨rfl, B⟩

end Go.Proofs.YtmfammgdcdlceaaDoor
