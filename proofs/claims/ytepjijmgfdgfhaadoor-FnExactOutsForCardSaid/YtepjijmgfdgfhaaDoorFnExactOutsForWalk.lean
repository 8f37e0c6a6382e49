/-
  The walk of the law FnExactOutsFor, out of the contracts of both sides.
-/
import Derived.Test.YtepjijmgfdgfhaaDoorOuts
namespace Go.Proofs.YtepjijmgfdgfhaaDoor
open Go.RowKit

set_option linter.unusedVariables false in
set_option maxRecDepth 100000 in
set_option maxHeartbeats 4000000 in
theorem fnExactOutsFor_walk (v0 : Value) (z0 : List Int) (b0 : Nat) (v1 : Value) (z1 : List Int) (b1 : Nat) (w : World) (h0 : RdAt .i64 w v0 z0 b0) (h1 : RdAt .i64 w v1 z1 b1) (hG : Grps w) (hZ : TabZ w) :
    Calls Tryd.prog 5 #[v0, v1] w fun e w' => e = .returned (.bool true) ∧ Below w.heap.size w w' := by
  by_cases hbig0 : 1048576 < z0.length
  · skip
    obtain ⟨p0, cap0, hv0, -⟩ := id h0
    obtain ⟨p1, cap1, hv1, -⟩ := id h1
    go_enter Tryd.func5, Tryd.ntmps5
    subst hv0
    subst hv1
    go_wp2_with fail
    go_ret
    exact ⟨rfl, by first | exact Below.refl _ _ | exact (Below.refl _ _).alloc (Nat.le_refl _) _ | exact ((Below.refl _ _).alloc (Nat.le_refl _) _).alloc (by simp) _⟩
  by_cases hbig1 : 1048576 < z1.length
  · skip
    obtain ⟨p0, cap0, hv0, -⟩ := id h0
    obtain ⟨p1, cap1, hv1, -⟩ := id h1
    have hn0 : ¬ (1048576 < (z0.length : Int)) := by omega
    go_enter Tryd.func5, Tryd.ntmps5
    subst hv0
    subst hv1
    go_wp2_with fail
    go_ret
    exact ⟨rfl, by first | exact Below.refl _ _ | exact (Below.refl _ _).alloc (Nat.le_refl _) _ | exact ((Below.refl _ _).alloc (Nat.le_refl _) _).alloc (by simp) _⟩
  have hl0 : z0.length ≤ 1048576 := by omega
  have hL0 : z0.length ≤ 1099511627776 := by omega
  clear hbig0
  have hl1 : z1.length ≤ 1048576 := by omega
  have hL1 : z1.length ≤ 1099511627776 := by omega
  clear hbig1
  obtain ⟨p0, cap0, hv0, -⟩ := id h0
  obtain ⟨p1, cap1, hv1, -⟩ := id h1
  go_enter Tryd.func5, Tryd.ntmps5
  subst hv0
  subst hv1
  have B : Below w.heap.size w w := Below.refl _ _
  go_wp2_with fail
  refine (toIntS_any _ z0 b0 _ (h0.below B) hL0).mono ?_
  rintro e w1 ⟨m0v, rfl, m0, bw1, lw1⟩
  have qw1 := bw1.size
  replace B := B.trans (bw1.mono B.size)
  clear bw1
  go_wp2_with fail
  refine (toIntS_any _ z1 b1 _ (h1.below B) hL1).mono ?_
  rintro e w2 ⟨m1v, rfl, m1, bw2, lw2⟩
  replace m0 := m0.below bw2
  have qw2 := bw2.size
  replace B := B.trans (bw2.mono B.size)
  clear bw2
  go_wp2_with fail
  refine (sOutsFor_any _ _ z0 z1 _ _ _ m0.rd m1.rd hl0 hl1).mono ?_
  rintro e w3 ⟨rfl, bw3⟩
  replace m0 := m0.below bw3
  replace m1 := m1.below bw3
  have qw3 := bw3.size
  replace B := B.trans (bw3.mono B.size)
  clear bw3
  clear m0
  clear m1
  go_wp2_with fail
  refine (toIntS_any _ z0 b0 _ (h0.below B) hL0).mono ?_
  rintro e w4 ⟨x0v, rfl, x0, bw4, lw4⟩
  have qw4 := bw4.size
  replace B := B.trans (bw4.mono B.size)
  clear bw4
  go_wp2_with fail
  refine (toIntS_any _ z1 b1 _ (h1.below B) hL1).mono ?_
  rintro e w5 ⟨x1v, rfl, x1, bw5, lw5⟩
  replace x0 := x0.below bw5
  have qw5 := bw5.size
  replace B := B.trans (bw5.mono B.size)
  clear bw5
  go_wp2_with fail
  refine (outsFor_any _ _ z0 z1 _ _ _ x0.rd x1.rd hl0 hl1 (hG.below B) (hZ.below B)).mono ?_
  rintro e w6 ⟨rfl, bw6⟩
  replace x0 := x0.below bw6
  replace x1 := x1.below bw6
  have qw6 := bw6.size
  replace B := B.trans (bw6.mono B.size)
  clear bw6
  go_wp2_with fail
  refine (toIntS_any _ z0 b0 _ (h0.below B) hL0).mono ?_
  rintro e w7 ⟨y0v, rfl, y0, bw7, lw7⟩
  replace x0 := x0.below bw7
  replace x1 := x1.below bw7
  have qw7 := bw7.size
  replace B := B.trans (bw7.mono B.size)
  clear bw7
  go_wp2_with fail
  refine (eqIntS_t _ _ _ _ _ _ x0.rd y0.rd hL0).mono ?_
  rintro e w8 ⟨rfl, bw8⟩
  replace x0 := x0.below bw8
  replace x1 := x1.below bw8
  replace y0 := y0.below bw8
  have qw8 := bw8.size
  replace B := B.trans (bw8.mono B.size)
  clear bw8
  clear y0
  go_wp2_with fail
  refine (toIntS_any _ z1 b1 _ (h1.below B) hL1).mono ?_
  rintro e w9 ⟨y1v, rfl, y1, bw9, lw9⟩
  replace x0 := x0.below bw9
  replace x1 := x1.below bw9
  have qw9 := bw9.size
  replace B := B.trans (bw9.mono B.size)
  clear bw9
  go_wp2_with fail
  refine (eqIntS_t _ _ _ _ _ _ x1.rd y1.rd hL1).mono ?_
  rintro e w10 ⟨rfl, bw10⟩
  replace x0 := x0.below bw10
  replace x1 := x1.below bw10
  replace y1 := y1.below bw10
  have qw10 := bw10.size
  replace B := B.trans (bw10.mono B.size)
  clear bw10
  clear y1
  go_wp2_with fail
  go_ret
  exact ⟨rfl, B⟩

end Go.Proofs.YtepjijmgfdgfhaaDoor
