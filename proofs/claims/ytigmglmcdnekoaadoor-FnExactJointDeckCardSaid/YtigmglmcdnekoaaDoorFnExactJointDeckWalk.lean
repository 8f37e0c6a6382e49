/-
  The walk of the law FnExactJointDeck, out of the contracts of both sides.
-/
import Derived.Test.YtigmglmcdnekoaaDoorJointDeck
namespace Go.Proofs.YtigmglmcdnekoaaDoor
open Go.RowKit

set_option linter.unusedVariables false in
set_option maxRecDepth 100000 in
set_option maxHeartbeats 4000000 in
theorem fnExactJointDeck_walk (v0 : Value) (z0 : List Int) (b0 : Nat) (v1 : Value) (z1 : List Int) (b1 : Nat) (v2 : Value) (z2 : List Int) (b2 : Nat) (w : World) (h0 : RdAt .i64 w v0 z0 b0) (h1 : RdAt .i64 w v1 z1 b1) (h2 : RdAt .i64 w v2 z2 b2) (sa sb : Addr) (hS : Sent sa sb w) :
    Calls Tryd.prog 5 #[v0, v1, v2] w fun e w' => e = .returned (.bool true) ∧ Below w.heap.size w w' := by
  by_cases hbig0 : 1048576 < z0.length
  · skip
    obtain ⟨p0, cap0, hv0, -⟩ := id h0
    obtain ⟨p1, cap1, hv1, -⟩ := id h1
    obtain ⟨p2, cap2, hv2, -⟩ := id h2
    go_enter Tryd.func5, Tryd.ntmps5
    subst hv0
    subst hv1
    subst hv2
    go_wp2_with fail
    go_ret
    exact ⟨rfl, Below.refl _ _⟩
  by_cases hbig1 : 1048576 < z1.length
  · skip
    obtain ⟨p0, cap0, hv0, -⟩ := id h0
    obtain ⟨p1, cap1, hv1, -⟩ := id h1
    obtain ⟨p2, cap2, hv2, -⟩ := id h2
    have hn0 : ¬ (1048576 < (z0.length : Int)) := by omega
    go_enter Tryd.func5, Tryd.ntmps5
    subst hv0
    subst hv1
    subst hv2
    go_wp2_with fail
    go_ret
    exact ⟨rfl, Below.refl _ _⟩
  by_cases hbig2 : 1048576 < z2.length
  · skip
    obtain ⟨p0, cap0, hv0, -⟩ := id h0
    obtain ⟨p1, cap1, hv1, -⟩ := id h1
    obtain ⟨p2, cap2, hv2, -⟩ := id h2
    have hn0 : ¬ (1048576 < (z0.length : Int)) := by omega
    have hn1 : ¬ (1048576 < (z1.length : Int)) := by omega
    go_enter Tryd.func5, Tryd.ntmps5
    subst hv0
    subst hv1
    subst hv2
    go_wp2_with fail
    go_ret
    exact ⟨rfl, Below.refl _ _⟩
  have hl0 : z0.length ≤ 1048576 := by omega
  have hL0 : z0.length ≤ 1099511627776 := by omega
  clear hbig0
  have hl1 : z1.length ≤ 1048576 := by omega
  have hL1 : z1.length ≤ 1099511627776 := by omega
  clear hbig1
  have hl2 : z2.length ≤ 1048576 := by omega
  have hL2 : z2.length ≤ 1099511627776 := by omega
  clear hbig2
  have hF0 : Hid ((jointD z0 z1 z2).length ≤ 1099511627776) := Lib.hid (by have := jointD_len z0 z1 z2; omega)
  obtain ⟨p0, cap0, hv0, -⟩ := id h0
  obtain ⟨p1, cap1, hv1, -⟩ := id h1
  obtain ⟨p2, cap2, hv2, -⟩ := id h2
  go_enter Tryd.func5, Tryd.ntmps5
  subst hv0
  subst hv1
  subst hv2
  have B : Below w.heap.size w w := Below.refl _ _
  go_wp2_with fail
  refine (toIntS_any _ z0 b0 _ (h0.below B) hL0).mono ?_
  rintro e w1 ⟨m0v, rfl, m0, bw1, lw1⟩
  have qw1 := bw1.size
  replace B := B.trans (bw1.mono B.size)
  clear bw1
  go_wp2_with fail
  refine (toIntS_any _ z1 b1 _ (h1.below B) hL1).mono ?_
  rintro e w2 ⟨m1v, rfl, m1, bw2, lw2⟩
  replace m0 := m0.below bw2
  have qw2 := bw2.size
  replace B := B.trans (bw2.mono B.size)
  clear bw2
  go_wp2_with fail
  refine (toIntS_any _ z2 b2 _ (h2.below B) hL2).mono ?_
  rintro e w3 ⟨m2v, rfl, m2, bw3, lw3⟩
  replace m0 := m0.below bw3
  replace m1 := m1.below bw3
  have qw3 := bw3.size
  replace B := B.trans (bw3.mono B.size)
  clear bw3
  go_wp2_with fail
  refine (sJointDeck_any _ _ _ z0 z1 z2 _ _ _ _ m0.rd m1.rd m2.rd hl0 hl1 hl2).mono ?_
  rintro e w4 ⟨sv0, sr0, rfl, sq0, s0, bw4⟩
  replace m0 := m0.below bw4
  replace m1 := m1.below bw4
  replace m2 := m2.below bw4
  have qw4 := bw4.size
  replace B := B.trans (bw4.mono B.size)
  clear bw4
  have su0 : Hid ((jointD z0 z1 z2) ≠ [] → sr0 < w4.heap.size) := Lib.hid s0.rd.lt
  clear m0
  clear m1
  clear m2
  go_wp2_with fail
  refine (toIntS_any _ z0 b0 _ (h0.below B) hL0).mono ?_
  rintro e w5 ⟨x0v, rfl, x0, bw5, lw5⟩
  replace s0 := s0.below bw5
  have qw5 := bw5.size
  replace B := B.trans (bw5.mono B.size)
  clear bw5
  go_wp2_with fail
  refine (toIntS_any _ z1 b1 _ (h1.below B) hL1).mono ?_
  rintro e w6 ⟨x1v, rfl, x1, bw6, lw6⟩
  replace s0 := s0.below bw6
  replace x0 := x0.below bw6
  have qw6 := bw6.size
  replace B := B.trans (bw6.mono B.size)
  clear bw6
  go_wp2_with fail
  refine (toIntS_any _ z2 b2 _ (h2.below B) hL2).mono ?_
  rintro e w7 ⟨x2v, rfl, x2, bw7, lw7⟩
  replace s0 := s0.below bw7
  replace x0 := x0.below bw7
  replace x1 := x1.below bw7
  have qw7 := bw7.size
  replace B := B.trans (bw7.mono B.size)
  clear bw7
  go_wp2_with fail
  refine (jointDeck_any sa sb _ _ _ z0 z1 z2 _ _ _ _ x0.rd x1.rd x2.rd hl0 hl1 hl2 (hS.below B (Nat.le_refl _))).mono ?_
  rintro e w8 ⟨gv0, gr0, rfl, gq0, g0, bw8⟩
  replace s0 := s0.below bw8
  replace x0 := x0.below bw8
  replace x1 := x1.below bw8
  replace x2 := x2.below bw8
  have qw8 := bw8.size
  replace B := B.trans (bw8.mono B.size)
  clear bw8
  have gu0 : Hid ((jointD z0 z1 z2) ≠ [] → gr0 < w8.heap.size) := Lib.hid g0.rd.lt
  go_wp2_with fail
  refine (eqIntS_t _ _ _ _ _ _ g0.rd s0.rd hF0.out).mono ?_
  rintro e w9 ⟨rfl, bw9⟩
  replace s0 := s0.below bw9
  replace x0 := x0.below bw9
  replace x1 := x1.below bw9
  replace x2 := x2.below bw9
  replace g0 := g0.below bw9
  have qw9 := bw9.size
  replace B := B.trans (bw9.mono B.size)
  clear bw9
  go_wp2_with fail
  refine (toIntS_any _ z0 b0 _ (h0.below B) hL0).mono ?_
  rintro e w10 ⟨y0v, rfl, y0, bw10, lw10⟩
  replace s0 := s0.below bw10
  replace x0 := x0.below bw10
  replace x1 := x1.below bw10
  replace x2 := x2.below bw10
  replace g0 := g0.below bw10
  have qw10 := bw10.size
  replace B := B.trans (bw10.mono B.size)
  clear bw10
  go_wp2_with fail
  refine (eqIntS_t _ _ _ _ _ _ x0.rd y0.rd hL0).mono ?_
  rintro e w11 ⟨rfl, bw11⟩
  replace s0 := s0.below bw11
  replace x0 := x0.below bw11
  replace x1 := x1.below bw11
  replace x2 := x2.below bw11
  replace g0 := g0.below bw11
  replace y0 := y0.below bw11
  have qw11 := bw11.size
  replace B := B.trans (bw11.mono B.size)
  clear bw11
  clear y0
  go_wp2_with fail
  refine (toIntS_any _ z1 b1 _ (h1.below B) hL1).mono ?_
  rintro e w12 ⟨y1v, rfl, y1, bw12, lw12⟩
  replace s0 := s0.below bw12
  replace x0 := x0.below bw12
  replace x1 := x1.below bw12
  replace x2 := x2.below bw12
  replace g0 := g0.below bw12
  have qw12 := bw12.size
  replace B := B.trans (bw12.mono B.size)
  clear bw12
  go_wp2_with fail
  refine (eqIntS_t _ _ _ _ _ _ x1.rd y1.rd hL1).mono ?_
  rintro e w13 ⟨rfl, bw13⟩
  replace s0 := s0.below bw13
  replace x0 := x0.below bw13
  replace x1 := x1.below bw13
  replace x2 := x2.below bw13
  replace g0 := g0.below bw13
  replace y1 := y1.below bw13
  have qw13 := bw13.size
  replace B := B.trans (bw13.mono B.size)
  clear bw13
  clear y1
  go_wp2_with fail
  refine (toIntS_any _ z2 b2 _ (h2.below B) hL2).mono ?_
  rintro e w14 ⟨y2v, rfl, y2, bw14, lw14⟩
  replace s0 := s0.below bw14
  replace x0 := x0.below bw14
  replace x1 := x1.below bw14
  replace x2 := x2.below bw14
  replace g0 := g0.below bw14
  have qw14 := bw14.size
  replace B := B.trans (bw14.mono B.size)
  clear bw14
  go_wp2_with fail
  refine (eqIntS_t _ _ _ _ _ _ x2.rd y2.rd hL2).mono ?_
  rintro e w15 ⟨rfl, bw15⟩
  replace s0 := s0.below bw15
  replace x0 := x0.below bw15
  replace x1 := x1.below bw15
  replace x2 := x2.below bw15
  replace g0 := g0.below bw15
  replace y2 := y2.below bw15
  have qw15 := bw15.size
  replace B := B.trans (bw15.mono B.size)
  clear bw15
  clear y2
  go_wp2_with fail
  refine (markIntS_any _ z0 _ _ _ x0 hL0 (by omega) (by omega)).mono ?_
  rintro e w16 ⟨rfl, -, gw16_, gw16_s⟩
  clear x0
  replace s0 := s0.apart gw16_ (fun hz => by have := su0.out hz; omega)
  replace x1 := x1.apart gw16_ (fun hz => by omega)
  replace x2 := x2.apart gw16_ (fun hz => by omega)
  replace g0 := g0.apart gw16_ (fun hz => by have := gu0.out hz; omega)
  have qw16 : w15.heap.size ≤ w16.heap.size := gw16_.size
  replace B := below_touch B gw16_ (by omega)
  clear gw16_ gw16_s
  go_wp2_with fail
  refine (markIntS_any _ z1 _ _ _ x1 hL1 (by omega) (by omega)).mono ?_
  rintro e w17 ⟨rfl, -, gw17_, gw17_s⟩
  clear x1
  replace s0 := s0.apart gw17_ (fun hz => by have := su0.out hz; omega)
  replace x2 := x2.apart gw17_ (fun hz => by omega)
  replace g0 := g0.apart gw17_ (fun hz => by have := gu0.out hz; omega)
  have qw17 : w16.heap.size ≤ w17.heap.size := gw17_.size
  replace B := below_touch B gw17_ (by omega)
  clear gw17_ gw17_s
  go_wp2_with fail
  refine (markIntS_any _ z2 _ _ _ x2 hL2 (by omega) (by omega)).mono ?_
  rintro e w18 ⟨rfl, -, gw18_, gw18_s⟩
  clear x2
  replace s0 := s0.apart gw18_ (fun hz => by have := su0.out hz; omega)
  replace g0 := g0.apart gw18_ (fun hz => by have := gu0.out hz; omega)
  have qw18 : w17.heap.size ≤ w18.heap.size := gw18_.size
  replace B := below_touch B gw18_ (by omega)
  clear gw18_ gw18_s
  go_wp2_with fail
  refine (eqIntS_t _ _ _ _ _ _ g0.rd s0.rd hF0.out).mono ?_
  rintro e w19 ⟨rfl, bw19⟩
  replace s0 := s0.below bw19
  replace g0 := g0.below bw19
  have qw19 := bw19.size
  replace B := B.trans (bw19.mono B.size)
  clear bw19
  have hG0w20 := hF0.out
  go_wp2_with fail
  refine (markIntS_any _ _ _ _ _ g0 hF0.out (by omega) (by omega)).mono ?_
  rintro e w20 ⟨rfl, k0, gw20_, gw20_s⟩
  clear g0
  replace s0 := s0.apart gw20_ (fun hz => by have := su0.out hz; omega)
  have qw20 : w19.heap.size ≤ w20.heap.size := gw20_.size
  replace B := below_touch B gw20_ (by omega)
  clear gw20_ gw20_s
  go_wp2_with fail
  refine (heldIntS_any _ _ _ _ _ k0.rd hF0.out (by omega) (by omega)).mono ?_
  rintro e _w ⟨rfl, rfl⟩
  go_wp2_with fail
  refine (toIntS_any _ z0 b0 _ (h0.below B) hL0).mono ?_
  rintro e w21 ⟨c0v, rfl, c0, bw21, lw21⟩
  replace s0 := s0.below bw21
  replace k0 := k0.below bw21
  have qw21 := bw21.size
  replace B := B.trans (bw21.mono B.size)
  clear bw21
  go_wp2_with fail
  refine (toIntS_any _ z1 b1 _ (h1.below B) hL1).mono ?_
  rintro e w22 ⟨c1v, rfl, c1, bw22, lw22⟩
  replace s0 := s0.below bw22
  replace k0 := k0.below bw22
  replace c0 := c0.below bw22
  have qw22 := bw22.size
  replace B := B.trans (bw22.mono B.size)
  clear bw22
  go_wp2_with fail
  refine (toIntS_any _ z2 b2 _ (h2.below B) hL2).mono ?_
  rintro e w23 ⟨c2v, rfl, c2, bw23, lw23⟩
  replace s0 := s0.below bw23
  replace k0 := k0.below bw23
  replace c0 := c0.below bw23
  replace c1 := c1.below bw23
  have qw23 := bw23.size
  replace B := B.trans (bw23.mono B.size)
  clear bw23
  go_wp2_with fail
  refine (jointDeck_any sa sb _ _ _ z0 z1 z2 _ _ _ _ c0.rd c1.rd c2.rd hl0 hl1 hl2 (hS.below B (Nat.le_refl _))).mono ?_
  rintro e w24 ⟨tv0, tr0, rfl, tq0, t0, bw24⟩
  replace s0 := s0.below bw24
  replace k0 := k0.below bw24
  replace c0 := c0.below bw24
  replace c1 := c1.below bw24
  replace c2 := c2.below bw24
  have qw24 := bw24.size
  replace B := B.trans (bw24.mono B.size)
  clear bw24
  have tu0 : Hid ((jointD z0 z1 z2) ≠ [] → tr0 < w24.heap.size) := Lib.hid t0.rd.lt
  clear c0
  clear c1
  clear c2
  go_wp2_with fail
  refine (eqIntS_t _ _ _ _ _ _ t0.rd s0.rd hF0.out).mono ?_
  rintro e w25 ⟨rfl, bw25⟩
  replace s0 := s0.below bw25
  replace k0 := k0.below bw25
  replace t0 := t0.below bw25
  have qw25 := bw25.size
  replace B := B.trans (bw25.mono B.size)
  clear bw25
  clear t0
  clear s0
  go_wp2_with fail
  refine (heldIntS_any _ _ _ _ _ k0.rd hF0.out (by omega) (by omega)).mono ?_
  rintro e _w ⟨rfl, rfl⟩
  go_wp2_with fail
  go_ret
  exact ⟨rfl, B⟩

end Go.Proofs.YtigmglmcdnekoaaDoor
