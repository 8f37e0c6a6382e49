/-
  The walk of the law FnExactCollected, out of the contracts of both sides.
-/
import Derived.Test.YtnkhdgalmpcacaaCollect
import Derived.Test.YtnkhdgalmpcacaaFrX
namespace Go.Proofs.Ytnkhdgalmpcacaa
open Go.RowKit
set_option linter.unusedVariables false
set_option linter.unusedSimpArgs false

set_option linter.unusedVariables false in
set_option maxRecDepth 100000 in
set_option maxHeartbeats 4000000 in
theorem fnExactCollected_walk (v0 : Value) (z0 : List (List Int)) (v1 : Value) (z1 : List Int) (b1 : Nat) (w : World) (h0 : RdRows .i64 w v0 z0) (h1 : RdAt .i64 w v1 z1 b1)  :
    Calls Try.prog 5 #[v0, v1] w fun e w' => e = .returned (.bool true) ∧ Below w.heap.size w w' := by
  by_cases hbig1 : 1048576 < z1.length
  · skip
    obtain ⟨p0, cap0, hv0, -⟩ := id h0
    obtain ⟨p1, cap1, hv1, -⟩ := id h1
    subst hv0
    subst hv1
    go_enter Try.func5, Try.ntmps5
    go_wp2_with fail
    go_ret
    exact ⟨rfl, by first | exact Below.refl _ _ | exact (Below.refl _ _).alloc (Nat.le_refl _) _ | exact ((Below.refl _ _).alloc (Nat.le_refl _) _).alloc (by simp) _⟩
  have hl1 : z1.length ≤ 1048576 := by omega
  have hL1 : z1.length ≤ 1099511627776 := by omega
  clear hbig1
  obtain ⟨p0, cap0, hv0, -⟩ := id h0
  obtain ⟨p1, cap1, hv1, -⟩ := id h1
  subst hv0
  subst hv1
  have B : Below w.heap.size w w := Below.refl _ _
  go_enter Try.func5, Try.ntmps5
  go_wp2_with fail
  refine (szIntSS_any _ z0 1048576 _ (h0.below B) (by omega) (by omega)).mono ?_
  rintro e _w ⟨⟨r0, rfl, rn0, rm0, hr0⟩, rfl⟩
  by_cases hneg0 : r0 < 0
  · go_wp2_with fail
    go_ret
    exact ⟨rfl, B⟩
  have hl0 : z0.length ≤ 1048576 := by have := hr0 (by omega); omega
  have hm0 : sumLen z0 ≤ 1048576 := by have := hr0 (by omega); omega
  clear hr0
  have hF0 : Hid ((collected z0 z1).length ≤ 200000000) := Lib.hid (by exact collected_len z0 z1 hl0 hl1)
  have uF0 := hF0.out
  go_wp2_with fail
  refine (toIntSS_any _ z0 _ (h0.below B) hl0 hm0).mono ?_
  rintro e w1 ⟨m0v, rfl, m0, bw1⟩
  replace m0 := m0.ss
  have qw1 := bw1.size
  replace B := B.trans (bw1.mono B.size)
  clear bw1
  go_wp2_with fail
  refine (toIntS_any _ z1 b1 _ (h1.below B) hL1).mono ?_
  rintro e w2 ⟨m1v, rfl, m1, bw2, -⟩
  replace m1 := WrIn.of m1 (Nat.le_refl _)
  replace m0 := m0.below bw2
  have qw2 := bw2.size
  replace B := B.trans (bw2.mono B.size)
  clear bw2
  go_wp2_with fail
  obtain ⟨km1, rm1⟩ := m1.rd
  refine (sCollected_any _ _ z0 z1 _ _ m0.rd hl0 hm0 rm1 hl1).mono ?_
  rintro e w3 ⟨sv0, rfl, s0, bw3⟩
  replace m0 := m0.below bw3
  replace m1 := m1.below bw3
  have qw3 := bw3.size
  replace B := B.trans (bw3.mono B.size)
  clear bw3
  clear m0 m1
  go_wp2_with fail
  refine (toIntSS_any _ z0 _ (h0.below B) hl0 hm0).mono ?_
  rintro e w4 ⟨x0v, rfl, x0, bw4⟩
  replace x0 := x0.ss
  replace s0 := s0.below bw4
  have qw4 := bw4.size
  replace B := B.trans (bw4.mono B.size)
  clear bw4
  go_wp2_with fail
  refine (toIntS_any _ z1 b1 _ (h1.below B) hL1).mono ?_
  rintro e w5 ⟨x1v, rfl, x1, bw5, -⟩
  replace x1 := WrIn.of x1 (Nat.le_refl _)
  replace s0 := s0.below bw5
  replace x0 := x0.below bw5
  have qw5 := bw5.size
  replace B := B.trans (bw5.mono B.size)
  clear bw5
  go_wp2_with fail
  obtain ⟨kx1, rx1⟩ := x1.rd
  refine (collected_any _ _ z0 z1 _ _ x0.rd hl0 hm0 rx1 hl1).mono ?_
  rintro e w6 ⟨gv0, rfl, g0, bw6⟩
  replace s0 := s0.below bw6
  replace x0 := x0.below bw6
  replace x1 := x1.below bw6
  have qw6 := bw6.size
  replace B := B.trans (bw6.mono B.size)
  clear bw6
  skip
  go_wp2_with fail
  obtain ⟨kxw7, rxw7⟩ := g0.rd
  obtain ⟨kyw7, ryw7⟩ := s0.rd
  refine (eqIntS_t _ _ _ _ _ _ rxw7 ryw7 (by have := hF0.out; omega)).mono ?_
  rintro e w7 ⟨rfl, bw7⟩
  replace s0 := s0.below bw7
  replace x0 := x0.below bw7
  replace x1 := x1.below bw7
  replace g0 := g0.below bw7
  have qw7 := bw7.size
  replace B := B.trans (bw7.mono B.size)
  clear bw7
  go_wp2_with fail
  refine (toIntSS_any _ z0 _ (h0.below B) hl0 hm0).mono ?_
  rintro e w8 ⟨y0v, rfl, y0, bw8⟩
  replace y0 := y0.ss
  replace s0 := s0.below bw8
  replace x0 := x0.below bw8
  replace x1 := x1.below bw8
  replace g0 := g0.below bw8
  have qw8 := bw8.size
  replace B := B.trans (bw8.mono B.size)
  clear bw8
  go_wp2_with fail
  refine (eqIntSS_t _ _ _ _ x0.rd y0.rd hl0 hm0).mono ?_
  rintro e w9 ⟨rfl, bw9⟩
  replace s0 := s0.below bw9
  replace x0 := x0.below bw9
  replace x1 := x1.below bw9
  replace g0 := g0.below bw9
  replace y0 := y0.below bw9
  have qw9 := bw9.size
  replace B := B.trans (bw9.mono B.size)
  clear bw9
  clear y0
  go_wp2_with fail
  refine (toIntS_any _ z1 b1 _ (h1.below B) hL1).mono ?_
  rintro e w10 ⟨y1v, rfl, y1, bw10, -⟩
  replace y1 := WrIn.of y1 (Nat.le_refl _)
  replace s0 := s0.below bw10
  replace x0 := x0.below bw10
  replace x1 := x1.below bw10
  replace g0 := g0.below bw10
  have qw10 := bw10.size
  replace B := B.trans (bw10.mono B.size)
  clear bw10
  go_wp2_with fail
  obtain ⟨kxw11, rxw11⟩ := x1.rd
  obtain ⟨kyw11, ryw11⟩ := y1.rd
  refine (eqIntS_t _ _ _ _ _ _ rxw11 ryw11 hL1).mono ?_
  rintro e w11 ⟨rfl, bw11⟩
  replace s0 := s0.below bw11
  replace x0 := x0.below bw11
  replace x1 := x1.below bw11
  replace g0 := g0.below bw11
  replace y1 := y1.below bw11
  have qw11 := bw11.size
  replace B := B.trans (bw11.mono B.size)
  clear bw11
  clear y1
  go_wp2_with fail
  refine (markIntSS_any _ (z0) (1) _ x0 hl0 hm0 (by omega) (by omega)).mono ?_
  rintro e w12 ⟨rfl, kx0, tw12, -⟩
  replace s0 := s0.touch tw12 (fun b h1 h2 => by have := h1.1; have := h1.2; have := h2.1; have := h2.2; omega)
  replace x1 := x1.touch tw12 (fun b h1 h2 => by have := h1.1; have := h1.2; have := h2.1; have := h2.2; omega)
  replace g0 := g0.touch tw12 (fun b h1 h2 => by have := h1.1; have := h1.2; have := h2.1; have := h2.2; omega)
  have qw12 : w11.heap.size ≤ w12.heap.size := tw12.size
  replace B := Below.thenTouch B tw12 (by omega) (fun b hb => by have := hb.1; have := hb.2; omega)
  clear tw12 x0
  clear kx0
  go_wp2_with fail
  refine (markIn (zs := z1) x1 (k := 1 + (sumLen (z0) : Nat)) (by omega) (by omega) (by omega)).mono ?_
  rintro e w13 ⟨rfl, kx1, tw13, -⟩
  replace s0 := s0.touch tw13 (fun b h1 h2 => by have := h1.1; have := h1.2; have := h2.1; have := h2.2; omega)
  replace g0 := g0.touch tw13 (fun b h1 h2 => by have := h1.1; have := h1.2; have := h2.1; have := h2.2; omega)
  have qw13 : w12.heap.size ≤ w13.heap.size := tw13.size
  replace B := Below.thenTouch B tw13 (by omega) (fun b hb => by have := hb.1; have := hb.2; omega)
  clear tw13 x1
  clear kx1
  go_wp2_with fail
  obtain ⟨kxw14, rxw14⟩ := g0.rd
  obtain ⟨kyw14, ryw14⟩ := s0.rd
  refine (eqIntS_t _ _ _ _ _ _ rxw14 ryw14 (by have := hF0.out; omega)).mono ?_
  rintro e w14 ⟨rfl, bw14⟩
  replace s0 := s0.below bw14
  replace g0 := g0.below bw14
  have qw14 := bw14.size
  replace B := B.trans (bw14.mono B.size)
  clear bw14
  go_wp2_with fail
  refine (markIn (zs := collected z0 z1) g0 (k := 1) (by omega) (by omega) (by omega)).mono ?_
  rintro e w15 ⟨rfl, kg0, tw15, -⟩
  replace s0 := s0.touch tw15 (fun b h1 h2 => by have := h1.1; have := h1.2; have := h2.1; have := h2.2; omega)
  have qw15 : w14.heap.size ≤ w15.heap.size := tw15.size
  replace B := Below.thenTouch B tw15 (by omega) (fun b hb => by have := hb.1; have := hb.2; omega)
  clear tw15 g0
  go_wp2_with fail
  obtain ⟨kk0, rk0⟩ := kg0.rd
  refine (heldIntS_any _ kk0 (1) (collected z0 z1).length _ rk0 (by omega) (by omega) (by omega)).mono ?_
  rintro e _w ⟨rfl, rfl⟩
  clear rk0
  go_wp2_with fail
  refine (toIntSS_any _ z0 _ (h0.below B) hl0 hm0).mono ?_
  rintro e w16 ⟨c0v, rfl, c0, bw16⟩
  replace c0 := c0.ss
  replace s0 := s0.below bw16
  replace kg0 := kg0.below bw16
  have qw16 := bw16.size
  replace B := B.trans (bw16.mono B.size)
  clear bw16
  go_wp2_with fail
  refine (toIntS_any _ z1 b1 _ (h1.below B) hL1).mono ?_
  rintro e w17 ⟨c1v, rfl, c1, bw17, -⟩
  replace c1 := WrIn.of c1 (Nat.le_refl _)
  replace s0 := s0.below bw17
  replace kg0 := kg0.below bw17
  replace c0 := c0.below bw17
  have qw17 := bw17.size
  replace B := B.trans (bw17.mono B.size)
  clear bw17
  go_wp2_with fail
  obtain ⟨kc1, rc1⟩ := c1.rd
  refine (collected_any _ _ z0 z1 _ _ c0.rd hl0 hm0 rc1 hl1).mono ?_
  rintro e w18 ⟨tv0, rfl, t0, bw18⟩
  replace s0 := s0.below bw18
  replace kg0 := kg0.below bw18
  replace c0 := c0.below bw18
  replace c1 := c1.below bw18
  have qw18 := bw18.size
  replace B := B.trans (bw18.mono B.size)
  clear bw18
  clear c0 c1
  go_wp2_with fail
  obtain ⟨kxw19, rxw19⟩ := t0.rd
  obtain ⟨kyw19, ryw19⟩ := s0.rd
  refine (eqIntS_t _ _ _ _ _ _ rxw19 ryw19 (by have := hF0.out; omega)).mono ?_
  rintro e w19 ⟨rfl, bw19⟩
  replace s0 := s0.below bw19
  replace kg0 := kg0.below bw19
  replace t0 := t0.below bw19
  have qw19 := bw19.size
  replace B := B.trans (bw19.mono B.size)
  clear bw19
  clear t0
  clear s0
  go_wp2_with fail
  obtain ⟨kk0, rk0⟩ := kg0.rd
  refine (heldIntS_any _ kk0 (1) (collected z0 z1).length _ rk0 (by omega) (by omega) (by omega)).mono ?_
  rintro e _w ⟨rfl, rfl⟩
  clear rk0
  go_wp2_with fail
  go_ret
  exact ⟨rfl, B⟩

end Go.Proofs.Ytnkhdgalmpcacaa
