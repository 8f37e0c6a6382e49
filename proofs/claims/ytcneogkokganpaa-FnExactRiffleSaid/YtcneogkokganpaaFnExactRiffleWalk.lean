/-
  The walk of the law FnExactRiffle, out of the contracts of both sides.
-/
import Derived.Test.YtcneogkokganpaaRiffle
namespace Go.Proofs.Ytcneogkokganpaa
open Go.RowKit

set_option linter.unusedVariables false in
set_option maxRecDepth 100000 in
set_option maxHeartbeats 4000000 in
theorem fnExactRiffle_walk (v0 : Value) (z0 : List Int) (b0 : Nat) (v1 : Value) (z1 : List Int) (b1 : Nat) (w : World) (h0 : RdAt .i64 w v0 z0 b0) (h1 : RdAt .i64 w v1 z1 b1)  :
    Calls Try.prog 3 #[v0, v1] w fun e w' => e = .returned (.bool true) ∧ Below w.heap.size w w' := by
  by_cases hbig0 : 1048576 < z0.length
  · skip
    obtain ⟨p0, cap0, hv0, -⟩ := id h0
    obtain ⟨p1, cap1, hv1, -⟩ := id h1
    go_enter Try.func3, Try.ntmps3
    subst hv0
    subst hv1
    go_wp2_with fail
    go_ret
    exact ⟨rfl, Below.refl _ _⟩
  by_cases hbig1 : 1048576 < z1.length
  · skip
    obtain ⟨p0, cap0, hv0, -⟩ := id h0
    obtain ⟨p1, cap1, hv1, -⟩ := id h1
    have hn0 : ¬ (1048576 < (z0.length : Int)) := by omega
    go_enter Try.func3, Try.ntmps3
    subst hv0
    subst hv1
    go_wp2_with fail
    go_ret
    exact ⟨rfl, Below.refl _ _⟩
  have hl0 : z0.length ≤ 1048576 := by omega
  have hL0 : z0.length ≤ 1099511627776 := by omega
  clear hbig0
  have hl1 : z1.length ≤ 1048576 := by omega
  have hL1 : z1.length ≤ 1099511627776 := by omega
  clear hbig1
  have hF0 : Hid ((riffle z0 z1).length ≤ 1099511627776) := Lib.hid (by have h1 := rif_len z0 z1 (max z0.length z1.length); unfold riffle; omega)
  obtain ⟨p0, cap0, hv0, -⟩ := id h0
  obtain ⟨p1, cap1, hv1, -⟩ := id h1
  go_enter Try.func3, Try.ntmps3
  subst hv0
  subst hv1
  have B : Below w.heap.size w w := Below.refl _ _
  go_wp2_with fail
  refine (toIntS_any _ z0 b0 _ (h0.below B) hL0).mono ?_
  rintro e w1 ⟨m0v, rfl, m0, bw1, lw1⟩
  have qw1 := bw1.size
  replace B := B.trans (bw1.mono B.size)
  clear bw1
  go_wp2_with fail
  refine (toIntS_any _ z1 b1 _ (h1.below B) hL1).mono ?_
  rintro e w2 ⟨m1v, rfl, m1, bw2, lw2⟩
  replace m0 := m0.below bw2
  have qw2 := bw2.size
  replace B := B.trans (bw2.mono B.size)
  clear bw2
  go_wp2_with fail
  refine (sRiffle_any _ z0 _ _ z1 _ _ m0.rd m1.rd hl0 hl1).mono ?_
  rintro e w3 ⟨sv0, sr0, rfl, sq0, s0, bw3⟩
  replace m0 := m0.below bw3
  replace m1 := m1.below bw3
  have qw3 := bw3.size
  replace B := B.trans (bw3.mono B.size)
  clear bw3
  have su0 : Hid ((riffle z0 z1) ≠ [] → sr0 < w3.heap.size) := Lib.hid s0.rd.lt
  clear m0
  clear m1
  go_wp2_with fail
  refine (toIntS_any _ z0 b0 _ (h0.below B) hL0).mono ?_
  rintro e w4 ⟨x0v, rfl, x0, bw4, lw4⟩
  replace s0 := s0.below bw4
  have qw4 := bw4.size
  replace B := B.trans (bw4.mono B.size)
  clear bw4
  go_wp2_with fail
  refine (toIntS_any _ z1 b1 _ (h1.below B) hL1).mono ?_
  rintro e w5 ⟨x1v, rfl, x1, bw5, lw5⟩
  replace s0 := s0.below bw5
  replace x0 := x0.below bw5
  have qw5 := bw5.size
  replace B := B.trans (bw5.mono B.size)
  clear bw5
  go_wp2_with fail
  refine (riffle_any _ z0 _ _ z1 _ _ x0.rd x1.rd hl0 hl1).mono ?_
  rintro e w6 ⟨gv0, gr0, rfl, gq0, g0, bw6⟩
  replace s0 := s0.below bw6
  replace x0 := x0.below bw6
  replace x1 := x1.below bw6
  have qw6 := bw6.size
  replace B := B.trans (bw6.mono B.size)
  clear bw6
  have gu0 : Hid ((riffle z0 z1) ≠ [] → gr0 < w6.heap.size) := Lib.hid g0.rd.lt
  go_wp2_with fail
  refine (eqIntS_t _ _ _ _ _ _ g0.rd s0.rd hF0.out).mono ?_
  rintro e w7 ⟨rfl, bw7⟩
  replace s0 := s0.below bw7
  replace x0 := x0.below bw7
  replace x1 := x1.below bw7
  replace g0 := g0.below bw7
  have qw7 := bw7.size
  replace B := B.trans (bw7.mono B.size)
  clear bw7
  go_wp2_with fail
  refine (toIntS_any _ z0 b0 _ (h0.below B) hL0).mono ?_
  rintro e w8 ⟨y0v, rfl, y0, bw8, lw8⟩
  replace s0 := s0.below bw8
  replace x0 := x0.below bw8
  replace x1 := x1.below bw8
  replace g0 := g0.below bw8
  have qw8 := bw8.size
  replace B := B.trans (bw8.mono B.size)
  clear bw8
  go_wp2_with fail
  refine (eqIntS_t _ _ _ _ _ _ x0.rd y0.rd hL0).mono ?_
  rintro e w9 ⟨rfl, bw9⟩
  replace s0 := s0.below bw9
  replace x0 := x0.below bw9
  replace x1 := x1.below bw9
  replace g0 := g0.below bw9
  replace y0 := y0.below bw9
  have qw9 := bw9.size
  replace B := B.trans (bw9.mono B.size)
  clear bw9
  clear y0
  go_wp2_with fail
  refine (toIntS_any _ z1 b1 _ (h1.below B) hL1).mono ?_
  rintro e w10 ⟨y1v, rfl, y1, bw10, lw10⟩
  replace s0 := s0.below bw10
  replace x0 := x0.below bw10
  replace x1 := x1.below bw10
  replace g0 := g0.below bw10
  have qw10 := bw10.size
  replace B := B.trans (bw10.mono B.size)
  clear bw10
  go_wp2_with fail
  refine (eqIntS_t _ _ _ _ _ _ x1.rd y1.rd hL1).mono ?_
  rintro e w11 ⟨rfl, bw11⟩
  replace s0 := s0.below bw11
  replace x0 := x0.below bw11
  replace x1 := x1.below bw11
  replace g0 := g0.below bw11
  replace y1 := y1.below bw11
  have qw11 := bw11.size
  replace B := B.trans (bw11.mono B.size)
  clear bw11
  clear y1
  go_wp2_with fail
  refine (markIntS_any _ z0 _ _ _ x0 hL0 (by omega) (by omega)).mono ?_
  rintro e w12 ⟨rfl, -, gw12_, gw12_s⟩
  clear x0
  replace s0 := s0.apart gw12_ (fun hz => by have := su0.out hz; omega)
  replace x1 := x1.apart gw12_ (fun hz => by omega)
  replace g0 := g0.apart gw12_ (fun hz => by have := gu0.out hz; omega)
  have qw12 : w11.heap.size ≤ w12.heap.size := gw12_.size
  replace B := below_touch B gw12_ (by omega)
  clear gw12_ gw12_s
  go_wp2_with fail
  refine (markIntS_any _ z1 _ _ _ x1 hL1 (by omega) (by omega)).mono ?_
  rintro e w13 ⟨rfl, -, gw13_, gw13_s⟩
  clear x1
  replace s0 := s0.apart gw13_ (fun hz => by have := su0.out hz; omega)
  replace g0 := g0.apart gw13_ (fun hz => by have := gu0.out hz; omega)
  have qw13 : w12.heap.size ≤ w13.heap.size := gw13_.size
  replace B := below_touch B gw13_ (by omega)
  clear gw13_ gw13_s
  go_wp2_with fail
  refine (eqIntS_t _ _ _ _ _ _ g0.rd s0.rd hF0.out).mono ?_
  rintro e w14 ⟨rfl, bw14⟩
  replace s0 := s0.below bw14
  replace g0 := g0.below bw14
  have qw14 := bw14.size
  replace B := B.trans (bw14.mono B.size)
  clear bw14
  have hG0w15 := hF0.out
  go_wp2_with fail
  refine (markIntS_any _ _ _ _ _ g0 hF0.out (by omega) (by omega)).mono ?_
  rintro e w15 ⟨rfl, k0, gw15_, gw15_s⟩
  clear g0
  replace s0 := s0.apart gw15_ (fun hz => by have := su0.out hz; omega)
  have qw15 : w14.heap.size ≤ w15.heap.size := gw15_.size
  replace B := below_touch B gw15_ (by omega)
  clear gw15_ gw15_s
  go_wp2_with fail
  refine (heldIntS_any _ _ _ _ _ k0.rd hF0.out (by omega) (by omega)).mono ?_
  rintro e _w ⟨rfl, rfl⟩
  go_wp2_with fail
  refine (toIntS_any _ z0 b0 _ (h0.below B) hL0).mono ?_
  rintro e w16 ⟨c0v, rfl, c0, bw16, lw16⟩
  replace s0 := s0.below bw16
  replace k0 := k0.below bw16
  have qw16 := bw16.size
  replace B := B.trans (bw16.mono B.size)
  clear bw16
  go_wp2_with fail
  refine (toIntS_any _ z1 b1 _ (h1.below B) hL1).mono ?_
  rintro e w17 ⟨c1v, rfl, c1, bw17, lw17⟩
  replace s0 := s0.below bw17
  replace k0 := k0.below bw17
  replace c0 := c0.below bw17
  have qw17 := bw17.size
  replace B := B.trans (bw17.mono B.size)
  clear bw17
  go_wp2_with fail
  refine (riffle_any _ z0 _ _ z1 _ _ c0.rd c1.rd hl0 hl1).mono ?_
  rintro e w18 ⟨tv0, tr0, rfl, tq0, t0, bw18⟩
  replace s0 := s0.below bw18
  replace k0 := k0.below bw18
  replace c0 := c0.below bw18
  replace c1 := c1.below bw18
  have qw18 := bw18.size
  replace B := B.trans (bw18.mono B.size)
  clear bw18
  have tu0 : Hid ((riffle z0 z1) ≠ [] → tr0 < w18.heap.size) := Lib.hid t0.rd.lt
  clear c0
  clear c1
  go_wp2_with fail
  refine (eqIntS_t _ _ _ _ _ _ t0.rd s0.rd hF0.out).mono ?_
  rintro e w19 ⟨rfl, bw19⟩
  replace s0 := s0.below bw19
  replace k0 := k0.below bw19
  replace t0 := t0.below bw19
  have qw19 := bw19.size
  replace B := B.trans (bw19.mono B.size)
  clear bw19
  clear t0
  clear s0
  go_wp2_with fail
  refine (heldIntS_any _ _ _ _ _ k0.rd hF0.out (by omega) (by omega)).mono ?_
  rintro e _w ⟨rfl, rfl⟩
  go_wp2_with fail
  go_ret
  exact ⟨rfl, B⟩

end Go.Proofs.Ytcneogkokganpaa
