/-
  The walk of the law FnExactIsRound, out of the contracts of both sides.
-/
import Derived.Test.YtbndjhdgoldnhaaIsRound
namespace Go.Proofs.Ytbndjhdgoldnhaa
open Go.RowKit

set_option linter.unusedVariables false in
set_option maxRecDepth 100000 in
set_option maxHeartbeats 4000000 in
theorem fnExactIsRound_walk (a0 : Int) (v1 : Value) (z1 : List Int) (b1 : Nat) (w : World) (wf0 : (Lit.int .i64 a0).wf = true) (h1 : RdAt .i64 w v1 z1 b1)  :
    Calls Try.prog 3 #[.int .i64 a0, v1] w fun e w' => e = .returned (.bool true) ∧ Below w.heap.size w w' := by
  by_cases hbig1 : 1048576 < z1.length
  · skip
    obtain ⟨p1, cap1, hv1, -⟩ := id h1
    go_enter Try.func3, Try.ntmps3
    subst hv1
    go_wp2_with fail
    go_ret
    exact ⟨rfl, Below.refl _ _⟩
  have hl1 : z1.length ≤ 1048576 := by omega
  have hL1 : z1.length ≤ 1099511627776 := by omega
  clear hbig1
  obtain ⟨p1, cap1, hv1, -⟩ := id h1
  go_enter Try.func3, Try.ntmps3
  subst hv1
  have B : Below w.heap.size w w := Below.refl _ _
  go_wp2_with fail
  refine (toIntS_any _ z1 b1 _ (h1.below B) hL1).mono ?_
  rintro e w1 ⟨m1v, rfl, m1, bw1, lw1⟩
  have qw1 := bw1.size
  replace B := B.trans (bw1.mono B.size)
  clear bw1
  go_wp2_with fail
  refine (sIsRound_any a0 _ z1 _ _ m1.rd hL1).mono ?_
  rintro e _w ⟨rfl, rfl⟩
  clear m1
  go_wp2_with fail
  refine (toIntS_any _ z1 b1 _ (h1.below B) hL1).mono ?_
  rintro e w2 ⟨x1v, rfl, x1, bw2, lw2⟩
  have qw2 := bw2.size
  replace B := B.trans (bw2.mono B.size)
  clear bw2
  go_wp2_with fail
  refine (isRound_any a0 _ z1 _ _ x1.rd hL1).mono ?_
  rintro e _w ⟨rfl, rfl⟩
  go_wp2_with fail
  refine (toIntS_any _ z1 b1 _ (h1.below B) hL1).mono ?_
  rintro e w3 ⟨y1v, rfl, y1, bw3, lw3⟩
  replace x1 := x1.below bw3
  have qw3 := bw3.size
  replace B := B.trans (bw3.mono B.size)
  clear bw3
  go_wp2_with fail
  refine (eqIntS_t _ _ _ _ _ _ x1.rd y1.rd hL1).mono ?_
  rintro e w4 ⟨rfl, bw4⟩
  replace x1 := x1.below bw4
  replace y1 := y1.below bw4
  have qw4 := bw4.size
  replace B := B.trans (bw4.mono B.size)
  clear bw4
  clear y1
  go_wp2_with fail
  go_ret
  exact ⟨rfl, B⟩

end Go.Proofs.Ytbndjhdgoldnhaa
