/-
  The walk of the law FnExactKeyOf, out of the contracts of both sides.
-/
import Derived.Test.YtcafbnddbddijaaFiveW
namespace Go.Proofs.Ytcafbnddbddijaa
open Go.RowKit

set_option linter.unusedVariables false in
set_option maxRecDepth 100000 in
set_option maxHeartbeats 4000000 in
theorem fnExactKeyOf_walk (v0 : Value) (z0 : List Int) (b0 : Nat) (w : World) (h0 : RdAt .i64 w v0 z0 b0)  :
    Calls Try.prog 6 #[v0] w fun e w' => e = .returned (.bool true) ∧ Below w.heap.size w w' := by
  by_cases hbig0 : 1048576 < z0.length
  · skip
    obtain ⟨p0, cap0, hv0, -⟩ := id h0
    go_enter Try.func6, Try.ntmps6
    subst hv0
    go_wp2_with fail
    go_ret
    exact ⟨rfl, by first | exact Below.refl _ _ | exact (Below.refl _ _).alloc (Nat.le_refl _) _ | exact ((Below.refl _ _).alloc (Nat.le_refl _) _).alloc (by simp) _⟩
  have hl0 : z0.length ≤ 1048576 := by omega
  have hL0 : z0.length ≤ 1099511627776 := by omega
  clear hbig0
  have hF0 : Hid ((keyI z0).length ≤ 1099511627776) := Lib.hid (by have := keyI_len z0; omega)
  obtain ⟨p0, cap0, hv0, -⟩ := id h0
  go_enter Try.func6, Try.ntmps6
  subst hv0
  have B : Below w.heap.size w w := Below.refl _ _
  go_wp2_with fail
  refine (toIntS_any _ z0 b0 _ (h0.below B) hL0).mono ?_
  rintro e w1 ⟨m0v, rfl, m0, bw1, lw1⟩
  have qw1 := bw1.size
  replace B := B.trans (bw1.mono B.size)
  clear bw1
  go_wp2_with fail
  refine (sKeyOf_any _ z0 _ _ m0.rd hl0).mono ?_
  rintro e w2 ⟨sv0, sr0, rfl, sq0, s0, bw2⟩
  replace m0 := m0.below bw2
  have qw2 := bw2.size
  replace B := B.trans (bw2.mono B.size)
  clear bw2
  have su0 : Hid ((keyI z0) ≠ [] → sr0 < w2.heap.size) := Lib.hid s0.rd.lt
  clear m0
  go_wp2_with fail
  refine (toIntS_any _ z0 b0 _ (h0.below B) hL0).mono ?_
  rintro e w3 ⟨x0v, rfl, x0, bw3, lw3⟩
  replace s0 := s0.below bw3
  have qw3 := bw3.size
  replace B := B.trans (bw3.mono B.size)
  clear bw3
  go_wp2_with fail
  refine (keyOf_any _ z0 _ _ x0.rd hl0).mono ?_
  rintro e w4 ⟨gv0, gr0, rfl, gq0, g0, bw4⟩
  replace s0 := s0.below bw4
  replace x0 := x0.below bw4
  have qw4 := bw4.size
  replace B := B.trans (bw4.mono B.size)
  clear bw4
  have gu0 : Hid ((keyI z0) ≠ [] → gr0 < w4.heap.size) := Lib.hid g0.rd.lt
  go_wp2_with fail
  refine (eqIntS_t _ _ _ _ _ _ g0.rd s0.rd hF0.out).mono ?_
  rintro e w5 ⟨rfl, bw5⟩
  replace s0 := s0.below bw5
  replace x0 := x0.below bw5
  replace g0 := g0.below bw5
  have qw5 := bw5.size
  replace B := B.trans (bw5.mono B.size)
  clear bw5
  go_wp2_with fail
  refine (toIntS_any _ z0 b0 _ (h0.below B) hL0).mono ?_
  rintro e w6 ⟨y0v, rfl, y0, bw6, lw6⟩
  replace s0 := s0.below bw6
  replace x0 := x0.below bw6
  replace g0 := g0.below bw6
  have qw6 := bw6.size
  replace B := B.trans (bw6.mono B.size)
  clear bw6
  go_wp2_with fail
  refine (eqIntS_t _ _ _ _ _ _ x0.rd y0.rd hL0).mono ?_
  rintro e w7 ⟨rfl, bw7⟩
  replace s0 := s0.below bw7
  replace x0 := x0.below bw7
  replace g0 := g0.below bw7
  replace y0 := y0.below bw7
  have qw7 := bw7.size
  replace B := B.trans (bw7.mono B.size)
  clear bw7
  clear y0
  go_wp2_with fail
  refine (markIntS_any _ z0 _ _ _ x0 hL0 (by omega) (by omega)).mono ?_
  rintro e w8 ⟨rfl, -, gw8_, gw8_s⟩
  clear x0
  replace s0 := s0.apart gw8_ (fun hz => by have := su0.out hz; omega)
  replace g0 := g0.apart gw8_ (fun hz => by have := gu0.out hz; omega)
  have qw8 : w7.heap.size ≤ w8.heap.size := gw8_.size
  replace B := below_touch B gw8_ (by omega)
  clear gw8_ gw8_s
  go_wp2_with fail
  refine (eqIntS_t _ _ _ _ _ _ g0.rd s0.rd hF0.out).mono ?_
  rintro e w9 ⟨rfl, bw9⟩
  replace s0 := s0.below bw9
  replace g0 := g0.below bw9
  have qw9 := bw9.size
  replace B := B.trans (bw9.mono B.size)
  clear bw9
  have hG0w10 := hF0.out
  go_wp2_with fail
  refine (markIntS_any _ _ _ _ _ g0 hF0.out (by omega) (by omega)).mono ?_
  rintro e w10 ⟨rfl, k0, gw10_, gw10_s⟩
  clear g0
  replace s0 := s0.apart gw10_ (fun hz => by have := su0.out hz; omega)
  have qw10 : w9.heap.size ≤ w10.heap.size := gw10_.size
  replace B := below_touch B gw10_ (by omega)
  clear gw10_ gw10_s
  go_wp2_with fail
  refine (heldIntS_any _ _ _ _ _ k0.rd hF0.out (by omega) (by omega)).mono ?_
  rintro e _w ⟨rfl, rfl⟩
  go_wp2_with fail
  refine (toIntS_any _ z0 b0 _ (h0.below B) hL0).mono ?_
  rintro e w11 ⟨c0v, rfl, c0, bw11, lw11⟩
  replace s0 := s0.below bw11
  replace k0 := k0.below bw11
  have qw11 := bw11.size
  replace B := B.trans (bw11.mono B.size)
  clear bw11
  go_wp2_with fail
  refine (keyOf_any _ z0 _ _ c0.rd hl0).mono ?_
  rintro e w12 ⟨tv0, tr0, rfl, tq0, t0, bw12⟩
  replace s0 := s0.below bw12
  replace k0 := k0.below bw12
  replace c0 := c0.below bw12
  have qw12 := bw12.size
  replace B := B.trans (bw12.mono B.size)
  clear bw12
  have tu0 : Hid ((keyI z0) ≠ [] → tr0 < w12.heap.size) := Lib.hid t0.rd.lt
  clear c0
  go_wp2_with fail
  refine (eqIntS_t _ _ _ _ _ _ t0.rd s0.rd hF0.out).mono ?_
  rintro e w13 ⟨rfl, bw13⟩
  replace s0 := s0.below bw13
  replace k0 := k0.below bw13
  replace t0 := t0.below bw13
  have qw13 := bw13.size
  replace B := B.trans (bw13.mono B.size)
  clear bw13
  clear t0
  clear s0
  go_wp2_with fail
  refine (heldIntS_any _ _ _ _ _ k0.rd hF0.out (by omega) (by omega)).mono ?_
  rintro e _w ⟨rfl, rfl⟩
  go_wp2_with fail
  go_ret
  exact ⟨rfl, B⟩

end Go.Proofs.Ytcafbnddbddijaa
