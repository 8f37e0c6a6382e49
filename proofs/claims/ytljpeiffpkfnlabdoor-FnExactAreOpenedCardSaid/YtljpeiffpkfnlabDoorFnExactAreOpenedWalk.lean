/-
  The walk of the law FnExactAreOpened, out of the contracts of both sides.
-/
import Derived.Test.YtljpeiffpkfnlabDoorAreOpened
namespace Go.Proofs.YtljpeiffpkfnlabDoor
open Go.RowKit

set_option linter.unusedVariables false in
set_option maxRecDepth 100000 in
set_option maxHeartbeats 4000000 in
theorem fnExactAreOpened_walk (v0 : Value) (z0 : List Int) (b0 : Nat) (v1 : Value) (z1 : List Int) (b1 : Nat) (v2 : Value) (z2 : List Int) (b2 : Nat) (w : World) (h0 : RdAt .i64 w v0 z0 b0) (h1 : RdAt .i64 w v1 z1 b1) (h2 : RdAt .i64 w v2 z2 b2) (sa sb : Addr) (hS : Sent sa sb w) :
    Calls Tryd.prog 3 #[v0, v1, v2] w fun e w' => e = .returned (.bool true) ∧ Below w.heap.size w w' := by
  by_cases hbig0 : 1048576 < z0.length
  · skip
    obtain ⟨p0, cap0, hv0, -⟩ := id h0
    obtain ⟨p1, cap1, hv1, -⟩ := id h1
    obtain ⟨p2, cap2, hv2, -⟩ := id h2
    go_enter Tryd.func3, Tryd.ntmps3
    subst hv0
    subst hv1
    subst hv2
    go_wp2_with fail
    go_ret
    exact ⟨rfl, Below.refl _ _⟩
  by_cases hbig1 : 1048576 < z1.length
  · skip
    obtain ⟨p0, cap0, hv0, -⟩ := id h0
    obtain ⟨p1, cap1, hv1, -⟩ := id h1
    obtain ⟨p2, cap2, hv2, -⟩ := id h2
    have hn0 : ¬ (1048576 < (z0.length : Int)) := by omega
    go_enter Tryd.func3, Tryd.ntmps3
    subst hv0
    subst hv1
    subst hv2
    go_wp2_with fail
    go_ret
    exact ⟨rfl, Below.refl _ _⟩
  by_cases hbig2 : 1048576 < z2.length
  · skip
    obtain ⟨p0, cap0, hv0, -⟩ := id h0
    obtain ⟨p1, cap1, hv1, -⟩ := id h1
    obtain ⟨p2, cap2, hv2, -⟩ := id h2
    have hn0 : ¬ (1048576 < (z0.length : Int)) := by omega
    have hn1 : ¬ (1048576 < (z1.length : Int)) := by omega
    go_enter Tryd.func3, Tryd.ntmps3
    subst hv0
    subst hv1
    subst hv2
    go_wp2_with fail
    go_ret
    exact ⟨rfl, Below.refl _ _⟩
  have hl0 : z0.length ≤ 1048576 := by omega
  have hL0 : z0.length ≤ 1099511627776 := by omega
  clear hbig0
  have hl1 : z1.length ≤ 1048576 := by omega
  have hL1 : z1.length ≤ 1099511627776 := by omega
  clear hbig1
  have hl2 : z2.length ≤ 1048576 := by omega
  have hL2 : z2.length ≤ 1099511627776 := by omega
  clear hbig2
  obtain ⟨p0, cap0, hv0, -⟩ := id h0
  obtain ⟨p1, cap1, hv1, -⟩ := id h1
  obtain ⟨p2, cap2, hv2, -⟩ := id h2
  go_enter Tryd.func3, Tryd.ntmps3
  subst hv0
  subst hv1
  subst hv2
  have B : Below w.heap.size w w := Below.refl _ _
  go_wp2_with fail
  refine (toIntS_any _ z0 b0 _ (h0.below B) hL0).mono ?_
  rintro e w1 ⟨m0v, rfl, m0, bw1, lw1⟩
  have qw1 := bw1.size
  replace B := B.trans (bw1.mono B.size)
  clear bw1
  go_wp2_with fail
  refine (toIntS_any _ z1 b1 _ (h1.below B) hL1).mono ?_
  rintro e w2 ⟨m1v, rfl, m1, bw2, lw2⟩
  replace m0 := m0.below bw2
  have qw2 := bw2.size
  replace B := B.trans (bw2.mono B.size)
  clear bw2
  go_wp2_with fail
  refine (toIntS_any _ z2 b2 _ (h2.below B) hL2).mono ?_
  rintro e w3 ⟨m2v, rfl, m2, bw3, lw3⟩
  replace m0 := m0.below bw3
  replace m1 := m1.below bw3
  have qw3 := bw3.size
  replace B := B.trans (bw3.mono B.size)
  clear bw3
  go_wp2_with fail
  refine (sAreOpened_any _ _ _ z0 z1 z2 _ _ _ _ m0.rd m1.rd m2.rd hl0 hl1 hl2 _ rfl).mono ?_
  rintro e w4 ⟨rfl, bw4⟩
  replace m0 := m0.below bw4
  replace m1 := m1.below bw4
  replace m2 := m2.below bw4
  have qw4 := bw4.size
  replace B := B.trans (bw4.mono B.size)
  clear bw4
  clear m0
  clear m1
  clear m2
  go_wp2_with fail
  refine (toIntS_any _ z0 b0 _ (h0.below B) hL0).mono ?_
  rintro e w5 ⟨x0v, rfl, x0, bw5, lw5⟩
  have qw5 := bw5.size
  replace B := B.trans (bw5.mono B.size)
  clear bw5
  go_wp2_with fail
  refine (toIntS_any _ z1 b1 _ (h1.below B) hL1).mono ?_
  rintro e w6 ⟨x1v, rfl, x1, bw6, lw6⟩
  replace x0 := x0.below bw6
  have qw6 := bw6.size
  replace B := B.trans (bw6.mono B.size)
  clear bw6
  go_wp2_with fail
  refine (toIntS_any _ z2 b2 _ (h2.below B) hL2).mono ?_
  rintro e w7 ⟨x2v, rfl, x2, bw7, lw7⟩
  replace x0 := x0.below bw7
  replace x1 := x1.below bw7
  have qw7 := bw7.size
  replace B := B.trans (bw7.mono B.size)
  clear bw7
  go_wp2_with fail
  refine (areOpened_any sa sb _ _ _ z0 z1 z2 _ _ _ _ x0.rd x1.rd x2.rd hl0 hl1 hl2 (hS.below B (Nat.le_refl _)) _ rfl).mono ?_
  rintro e w8 ⟨rfl, bw8⟩
  replace x0 := x0.below bw8
  replace x1 := x1.below bw8
  replace x2 := x2.below bw8
  have qw8 := bw8.size
  replace B := B.trans (bw8.mono B.size)
  clear bw8
  go_wp2_with fail
  refine (toIntS_any _ z0 b0 _ (h0.below B) hL0).mono ?_
  rintro e w9 ⟨y0v, rfl, y0, bw9, lw9⟩
  replace x0 := x0.below bw9
  replace x1 := x1.below bw9
  replace x2 := x2.below bw9
  have qw9 := bw9.size
  replace B := B.trans (bw9.mono B.size)
  clear bw9
  go_wp2_with fail
  refine (eqIntS_t _ _ _ _ _ _ x0.rd y0.rd hL0).mono ?_
  rintro e w10 ⟨rfl, bw10⟩
  replace x0 := x0.below bw10
  replace x1 := x1.below bw10
  replace x2 := x2.below bw10
  replace y0 := y0.below bw10
  have qw10 := bw10.size
  replace B := B.trans (bw10.mono B.size)
  clear bw10
  clear y0
  go_wp2_with fail
  refine (toIntS_any _ z1 b1 _ (h1.below B) hL1).mono ?_
  rintro e w11 ⟨y1v, rfl, y1, bw11, lw11⟩
  replace x0 := x0.below bw11
  replace x1 := x1.below bw11
  replace x2 := x2.below bw11
  have qw11 := bw11.size
  replace B := B.trans (bw11.mono B.size)
  clear bw11
  go_wp2_with fail
  refine (eqIntS_t _ _ _ _ _ _ x1.rd y1.rd hL1).mono ?_
  rintro e w12 ⟨rfl, bw12⟩
  replace x0 := x0.below bw12
  replace x1 := x1.below bw12
  replace x2 := x2.below bw12
  replace y1 := y1.below bw12
  have qw12 := bw12.size
  replace B := B.trans (bw12.mono B.size)
  clear bw12
  clear y1
  go_wp2_with fail
  refine (toIntS_any _ z2 b2 _ (h2.below B) hL2).mono ?_
  rintro e w13 ⟨y2v, rfl, y2, bw13, lw13⟩
  replace x0 := x0.below bw13
  replace x1 := x1.below bw13
  replace x2 := x2.below bw13
  have qw13 := bw13.size
  replace B := B.trans (bw13.mono B.size)
  clear bw13
  go_wp2_with fail
  refine (eqIntS_t _ _ _ _ _ _ x2.rd y2.rd hL2).mono ?_
  rintro e w14 ⟨rfl, bw14⟩
  replace x0 := x0.below bw14
  replace x1 := x1.below bw14
  replace x2 := x2.below bw14
  replace y2 := y2.below bw14
  have qw14 := bw14.size
  replace B := B.trans (bw14.mono B.size)
  clear bw14
  clear y2
  go_wp2_with fail
  go_ret
  exact ⟨rfl, B⟩

end Go.Proofs.YtljpeiffpkfnlabDoor
