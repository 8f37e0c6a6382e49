/-
  The walk of the law FnExactAddRound, out of the contracts of both sides.
-/
import Derived.Test.YtiklogpfckfcnaaAddR
import Derived.Test.YtiklogpfckfcnaaFrX
namespace Go.Proofs.Ytiklogpfckfcnaa
open Go.RowKit
set_option linter.unusedVariables false
set_option linter.unusedSimpArgs false

set_option linter.unusedVariables false in
set_option maxRecDepth 100000 in
set_option maxHeartbeats 4000000 in
theorem fnExactAddRound_walk (a0 : Int) (v1 : Value) (z1 : List (List Int)) (v2 : Value) (z2 : List Int) (b2 : Nat) (w : World) (wf0 : (Lit.int .i64 a0).wf = true) (h1 : RdRows .i64 w v1 z1) (h2 : RdAt .i64 w v2 z2 b2)  :
    Calls Try.prog 8 #[.int .i64 a0, v1, v2] w fun e w' => e = .returned (.bool true) ∧ Below w.heap.size w w' := by
  by_cases hbig2 : 1048576 < z2.length
  · skip
    obtain ⟨p1, cap1, hv1, -⟩ := id h1
    obtain ⟨p2, cap2, hv2, -⟩ := id h2
    subst hv1
    subst hv2
    go_enter Try.func8, Try.ntmps8
    go_wp2_with fail
    go_ret
    exact ⟨rfl, by first | exact Below.refl _ _ | exact (Below.refl _ _).alloc (Nat.le_refl _) _ | exact ((Below.refl _ _).alloc (Nat.le_refl _) _).alloc (by simp) _⟩
  have hl2 : z2.length ≤ 1048576 := by omega
  have hL2 : z2.length ≤ 1099511627776 := by omega
  clear hbig2
  obtain ⟨p1, cap1, hv1, -⟩ := id h1
  obtain ⟨p2, cap2, hv2, -⟩ := id h2
  subst hv1
  subst hv2
  have B : Below w.heap.size w w := Below.refl _ _
  go_enter Try.func8, Try.ntmps8
  go_wp2_with fail
  refine (szIntSS_any _ z1 1048576 _ (h1.below B) (by omega) (by omega)).mono ?_
  rintro e _w ⟨⟨r1, rfl, rn1, rm1, hr1⟩, rfl⟩
  by_cases hneg1 : r1 < 0
  · go_wp2_with fail
    go_ret
    exact ⟨rfl, B⟩
  have hl1 : z1.length ≤ 1048576 := by have := hr1 (by omega); omega
  have hm1 : sumLen z1 ≤ 1048576 := by have := hr1 (by omega); omega
  clear hr1
  have hF0 : Hid ((addedR a0 z1 z2).length ≤ 1048576) := Lib.hid (by exact (added_few a0 z1 z2 hl1 hm1).1)
  have hG0 : Hid (sumLen (addedR a0 z1 z2) ≤ 1048576) := Lib.hid (by exact (added_few a0 z1 z2 hl1 hm1).2)
  have uF0 := hF0.out
  have uG0 := hG0.out
  go_wp2_with fail
  refine (toIntSS_any _ z1 _ (h1.below B) hl1 hm1).mono ?_
  rintro e w1 ⟨m1v, rfl, m1, bw1⟩
  replace m1 := m1.ss
  have qw1 := bw1.size
  replace B := B.trans (bw1.mono B.size)
  clear bw1
  go_wp2_with fail
  refine (toIntS_any _ z2 b2 _ (h2.below B) hL2).mono ?_
  rintro e w2 ⟨m2v, rfl, m2, bw2, -⟩
  replace m2 := WrIn.of m2 (Nat.le_refl _)
  replace m1 := m1.below bw2
  have qw2 := bw2.size
  replace B := B.trans (bw2.mono B.size)
  clear bw2
  go_wp2_with fail
  obtain ⟨km2, rm2⟩ := m2.rd
  refine (sAddRound_any a0 _ _ z1 z2 _ _ m1.rd hl1 hm1 rm2 hl2).mono ?_
  rintro e w3 ⟨sv0, rfl, s0, bw3⟩
  replace m1 := m1.below bw3
  replace m2 := m2.below bw3
  have qw3 := bw3.size
  replace B := B.trans (bw3.mono B.size)
  clear bw3
  clear m1 m2
  go_wp2_with fail
  refine (toIntSS_any _ z1 _ (h1.below B) hl1 hm1).mono ?_
  rintro e w4 ⟨x1v, rfl, x1, bw4⟩
  replace x1 := x1.ss
  replace s0 := s0.below bw4
  have qw4 := bw4.size
  replace B := B.trans (bw4.mono B.size)
  clear bw4
  go_wp2_with fail
  refine (toIntS_any _ z2 b2 _ (h2.below B) hL2).mono ?_
  rintro e w5 ⟨x2v, rfl, x2, bw5, -⟩
  replace x2 := WrIn.of x2 (Nat.le_refl _)
  replace s0 := s0.below bw5
  replace x1 := x1.below bw5
  have qw5 := bw5.size
  replace B := B.trans (bw5.mono B.size)
  clear bw5
  go_wp2_with fail
  obtain ⟨kx2, rx2⟩ := x2.rd
  refine (addRound_any a0 _ _ z1 z2 _ _ x1.rd hl1 hm1 rx2 hl2).mono ?_
  rintro e w6 ⟨gv0, rfl, g0, bw6⟩
  replace s0 := s0.below bw6
  replace x1 := x1.below bw6
  replace x2 := x2.below bw6
  have qw6 := bw6.size
  replace B := B.trans (bw6.mono B.size)
  clear bw6
  skip
  go_wp2_with fail
  refine (eqIntSS_t _ _ _ _ g0.rd s0.rd hF0.out hG0.out).mono ?_
  rintro e w7 ⟨rfl, bw7⟩
  replace s0 := s0.below bw7
  replace x1 := x1.below bw7
  replace x2 := x2.below bw7
  replace g0 := g0.below bw7
  have qw7 := bw7.size
  replace B := B.trans (bw7.mono B.size)
  clear bw7
  go_wp2_with fail
  refine (toIntSS_any _ z1 _ (h1.below B) hl1 hm1).mono ?_
  rintro e w8 ⟨y1v, rfl, y1, bw8⟩
  replace y1 := y1.ss
  replace s0 := s0.below bw8
  replace x1 := x1.below bw8
  replace x2 := x2.below bw8
  replace g0 := g0.below bw8
  have qw8 := bw8.size
  replace B := B.trans (bw8.mono B.size)
  clear bw8
  go_wp2_with fail
  refine (eqIntSS_t _ _ _ _ x1.rd y1.rd hl1 hm1).mono ?_
  rintro e w9 ⟨rfl, bw9⟩
  replace s0 := s0.below bw9
  replace x1 := x1.below bw9
  replace x2 := x2.below bw9
  replace g0 := g0.below bw9
  replace y1 := y1.below bw9
  have qw9 := bw9.size
  replace B := B.trans (bw9.mono B.size)
  clear bw9
  clear y1
  go_wp2_with fail
  refine (toIntS_any _ z2 b2 _ (h2.below B) hL2).mono ?_
  rintro e w10 ⟨y2v, rfl, y2, bw10, -⟩
  replace y2 := WrIn.of y2 (Nat.le_refl _)
  replace s0 := s0.below bw10
  replace x1 := x1.below bw10
  replace x2 := x2.below bw10
  replace g0 := g0.below bw10
  have qw10 := bw10.size
  replace B := B.trans (bw10.mono B.size)
  clear bw10
  go_wp2_with fail
  obtain ⟨kxw11, rxw11⟩ := x2.rd
  obtain ⟨kyw11, ryw11⟩ := y2.rd
  refine (eqIntS_t _ _ _ _ _ _ rxw11 ryw11 hL2).mono ?_
  rintro e w11 ⟨rfl, bw11⟩
  replace s0 := s0.below bw11
  replace x1 := x1.below bw11
  replace x2 := x2.below bw11
  replace g0 := g0.below bw11
  replace y2 := y2.below bw11
  have qw11 := bw11.size
  replace B := B.trans (bw11.mono B.size)
  clear bw11
  clear y2
  go_wp2_with fail
  refine (markIntSS_any _ (z1) (1) _ x1 hl1 hm1 (by omega) (by omega)).mono ?_
  rintro e w12 ⟨rfl, kx1, tw12, -⟩
  replace s0 := s0.touch tw12 (fun b h1 h2 => by have := h1.1; have := h1.2; have := h2.1; have := h2.2; omega)
  replace x2 := x2.touch tw12 (fun b h1 h2 => by have := h1.1; have := h1.2; have := h2.1; have := h2.2; omega)
  replace g0 := g0.touch tw12 (fun b h1 h2 => by have := h1.1; have := h1.2; have := h2.1; have := h2.2; omega)
  have qw12 : w11.heap.size ≤ w12.heap.size := tw12.size
  replace B := Below.thenTouch B tw12 (by omega) (fun b hb => by have := hb.1; have := hb.2; omega)
  clear tw12 x1
  clear kx1
  go_wp2_with fail
  refine (markIn (zs := z2) x2 (k := 1 + (sumLen (z1) : Nat)) (by omega) (by omega) (by omega)).mono ?_
  rintro e w13 ⟨rfl, kx2, tw13, -⟩
  replace s0 := s0.touch tw13 (fun b h1 h2 => by have := h1.1; have := h1.2; have := h2.1; have := h2.2; omega)
  replace g0 := g0.touch tw13 (fun b h1 h2 => by have := h1.1; have := h1.2; have := h2.1; have := h2.2; omega)
  have qw13 : w12.heap.size ≤ w13.heap.size := tw13.size
  replace B := Below.thenTouch B tw13 (by omega) (fun b hb => by have := hb.1; have := hb.2; omega)
  clear tw13 x2
  clear kx2
  go_wp2_with fail
  refine (eqIntSS_t _ _ _ _ g0.rd s0.rd hF0.out hG0.out).mono ?_
  rintro e w14 ⟨rfl, bw14⟩
  replace s0 := s0.below bw14
  replace g0 := g0.below bw14
  have qw14 := bw14.size
  replace B := B.trans (bw14.mono B.size)
  clear bw14
  go_wp2_with fail
  refine (markIntSS_any _ (addedR a0 z1 z2) (1) _ g0 hF0.out hG0.out (by omega) (by omega)).mono ?_
  rintro e w15 ⟨rfl, kg0, tw15, -⟩
  replace s0 := s0.touch tw15 (fun b h1 h2 => by have := h1.1; have := h1.2; have := h2.1; have := h2.2; omega)
  have qw15 : w14.heap.size ≤ w15.heap.size := tw15.size
  replace B := Below.thenTouch B tw15 (by omega) (fun b hb => by have := hb.1; have := hb.2; omega)
  clear tw15 g0
  go_wp2_with fail
  refine (heldIntSS_any _ (addedR a0 z1 z2) (1) _ kg0.rd hF0.out hG0.out (by omega) (by omega)).mono ?_
  rintro e w16 ⟨rfl, bw16⟩
  replace s0 := s0.below bw16
  replace kg0 := kg0.below bw16
  have qw16 := bw16.size
  replace B := B.trans (bw16.mono B.size)
  clear bw16
  go_wp2_with fail
  refine (toIntSS_any _ z1 _ (h1.below B) hl1 hm1).mono ?_
  rintro e w17 ⟨c1v, rfl, c1, bw17⟩
  replace c1 := c1.ss
  replace s0 := s0.below bw17
  replace kg0 := kg0.below bw17
  have qw17 := bw17.size
  replace B := B.trans (bw17.mono B.size)
  clear bw17
  go_wp2_with fail
  refine (toIntS_any _ z2 b2 _ (h2.below B) hL2).mono ?_
  rintro e w18 ⟨c2v, rfl, c2, bw18, -⟩
  replace c2 := WrIn.of c2 (Nat.le_refl _)
  replace s0 := s0.below bw18
  replace kg0 := kg0.below bw18
  replace c1 := c1.below bw18
  have qw18 := bw18.size
  replace B := B.trans (bw18.mono B.size)
  clear bw18
  go_wp2_with fail
  obtain ⟨kc2, rc2⟩ := c2.rd
  refine (addRound_any a0 _ _ z1 z2 _ _ c1.rd hl1 hm1 rc2 hl2).mono ?_
  rintro e w19 ⟨tv0, rfl, t0, bw19⟩
  replace s0 := s0.below bw19
  replace kg0 := kg0.below bw19
  replace c1 := c1.below bw19
  replace c2 := c2.below bw19
  have qw19 := bw19.size
  replace B := B.trans (bw19.mono B.size)
  clear bw19
  clear c1 c2
  go_wp2_with fail
  refine (eqIntSS_t _ _ _ _ t0.rd s0.rd hF0.out hG0.out).mono ?_
  rintro e w20 ⟨rfl, bw20⟩
  replace s0 := s0.below bw20
  replace kg0 := kg0.below bw20
  replace t0 := t0.below bw20
  have qw20 := bw20.size
  replace B := B.trans (bw20.mono B.size)
  clear bw20
  clear t0
  clear s0
  go_wp2_with fail
  refine (heldIntSS_any _ (addedR a0 z1 z2) (1) _ kg0.rd hF0.out hG0.out (by omega) (by omega)).mono ?_
  rintro e w21 ⟨rfl, bw21⟩
  replace kg0 := kg0.below bw21
  have qw21 := bw21.size
  replace B := B.trans (bw21.mono B.size)
  clear bw21
  go_wp2_with fail
  go_ret
  exact ⟨rfl, B⟩

end Go.Proofs.Ytiklogpfckfcnaa
