/-
  The walk of the law FnExactSkipsIn, out of the contracts of both sides.
-/
import Derived.Test.YtonpdjgokmedjaaDoorFitCnt
import Derived.Deep.RegionHeld3
namespace Go.Proofs.YtonpdjgokmedjaaDoor
open Go.RowKit

set_option linter.unusedVariables false in
set_option maxRecDepth 100000 in
set_option maxHeartbeats 4000000 in
theorem fnExactSkipsIn_walk (v0 : Value) (z0 : MRules) (v1 : Value) (z1 : List Int) (b1 : Nat) (w : World) (h0 : RdRules w v0 z0) (h1 : RdAt .i64 w v1 z1 b1) (hG : Grps w) :
    Calls Tryd.prog 8 #[v0, v1] w fun e w' => e = .returned (.bool true) ∧ Below w.heap.size w w' := by
  by_cases hbig1 : 1048576 < z1.length
  · skip
    obtain ⟨p0_4, p0_5, c0_4, c0_5, hv0⟩ := h0.shape
    obtain ⟨p1, cap1, hv1, -⟩ := id h1
    go_enter Tryd.func8, Tryd.ntmps8
    subst hv0
    subst hv1
    go_wp2_with fail
    go_ret
    exact ⟨rfl, by first | exact Below.refl _ _ | exact (Below.refl _ _).alloc (Nat.le_refl _) _ | exact ((Below.refl _ _).alloc (Nat.le_refl _) _).alloc (by simp) _⟩
  have hl1 : z1.length ≤ 1048576 := by omega
  have hL1 : z1.length ≤ 1099511627776 := by omega
  clear hbig1
  obtain ⟨p0_4, p0_5, c0_4, c0_5, hv0⟩ := h0.shape
  obtain ⟨p1, cap1, hv1, -⟩ := id h1
  go_enter Tryd.func8, Tryd.ntmps8
  subst hv0
  subst hv1
  obtain ⟨W0, hW0⟩ : ∃ W, W = (w.alloc (.cells #[.int .i64 z0.players, .int .i64 z0.each, .bool z0.sameSuit, .bool z0.sameRank, .slice p0_4 z0.wild.length c0_4, .slice p0_5 z0.skip.length c0_5, .int .i64 z0.take, .int .i64 z0.limit] 26)) := ⟨_, rfl⟩
  have B : Below w.heap.size w W0 := by rw [hW0]; exact ((Below.refl w.heap.size w).alloc (by simp) _)
  have ga0 : W0.heap[w.heap.size]? = some (.cells #[.int .i64 z0.players, .int .i64 z0.each, .bool z0.sameSuit, .bool z0.sameRank, .slice p0_4 z0.wild.length c0_4, .slice p0_5 z0.skip.length c0_5, .int .i64 z0.take, .int .i64 z0.limit] 26 (0, 0)) := by
    rw [hW0]; show (Array.push (w.heap) _)[_]? = _
    rw [Array.getElem?_push, if_pos (by simp)]
  have la0 : w.heap.size < W0.heap.size := by rw [hW0]; simp
  have HW0 := Lib.hid hW0
  clear hW0
  have qW0 := B.size
  obtain ⟨ka0_0, ka0_1, ka0_2, ka0_3, ka0_4, ka0_5, ka0_6, ka0_7⟩ := SRules_cells ga0
  go_wp2_with fail
  rw [← HW0.out]
  clear ka0_0 ka0_1 ka0_2 ka0_3 ka0_4 ka0_5 ka0_6 ka0_7
  refine (szRules_any _ z0 1048576 _ (h0.below B) (by omega) (by omega)).mono ?_
  rintro e w2 ⟨⟨r0, rfl, rn0, rm0, hr0⟩, bw2⟩
  replace ga0 := (bw2.block _ la0).trans ga0
  replace la0 := Nat.lt_of_lt_of_le la0 bw2.size
  have qw2 := bw2.size
  replace B := B.trans (bw2.mono B.size)
  clear bw2
  by_cases hneg0 : r0 < 0
  · go_wp2_with fail
    go_ret
    exact ⟨rfl, B⟩
  have hl0 : z0.Few := hr0 (by omega)
  clear hr0
  obtain ⟨ka0_0, ka0_1, ka0_2, ka0_3, ka0_4, ka0_5, ka0_6, ka0_7⟩ := SRules_cells ga0
  go_wp2_with fail
  clear ka0_0 ka0_1 ka0_2 ka0_3 ka0_4 ka0_5 ka0_6 ka0_7
  refine (toRules_any _ z0 _ (h0.below B) hl0).mono ?_
  rintro e w3 ⟨m0v, rfl, m0, bw3⟩
  replace ga0 := (bw3.block _ la0).trans ga0
  replace la0 := Nat.lt_of_lt_of_le la0 bw3.size
  have qw3 := bw3.size
  replace B := B.trans (bw3.mono B.size)
  clear bw3
  obtain ⟨ka0_0, ka0_1, ka0_2, ka0_3, ka0_4, ka0_5, ka0_6, ka0_7⟩ := SRules_cells ga0
  go_wp2_with fail
  clear ka0_0 ka0_1 ka0_2 ka0_3 ka0_4 ka0_5 ka0_6 ka0_7
  refine (toIntS_any _ z1 b1 _ (h1.below B) hL1).mono ?_
  rintro e w4 ⟨m1v, rfl, m1, bw4, lw4⟩
  replace ga0 := (bw4.block _ la0).trans ga0
  replace la0 := Nat.lt_of_lt_of_le la0 bw4.size
  replace m0 := m0.below bw4
  have qw4 := bw4.size
  replace B := B.trans (bw4.mono B.size)
  clear bw4
  obtain ⟨ka0_0, ka0_1, ka0_2, ka0_3, ka0_4, ka0_5, ka0_6, ka0_7⟩ := SRules_cells ga0
  go_wp2_with fail
  clear ka0_0 ka0_1 ka0_2 ka0_3 ka0_4 ka0_5 ka0_6 ka0_7
  refine (sSkipsIn_any _ _ z0 z1 _ _ m0 hl0 m1.rd hl1).mono ?_
  rintro e w5 ⟨rfl, bw5⟩
  replace ga0 := (bw5.block _ la0).trans ga0
  replace la0 := Nat.lt_of_lt_of_le la0 bw5.size
  replace m0 := m0.below bw5
  replace m1 := m1.below bw5
  have qw5 := bw5.size
  replace B := B.trans (bw5.mono B.size)
  clear bw5
  clear m0
  clear m1
  obtain ⟨ka0_0, ka0_1, ka0_2, ka0_3, ka0_4, ka0_5, ka0_6, ka0_7⟩ := SRules_cells ga0
  go_wp2_with fail
  clear ka0_0 ka0_1 ka0_2 ka0_3 ka0_4 ka0_5 ka0_6 ka0_7
  refine (toRules_any _ z0 _ (h0.below B) hl0).mono ?_
  rintro e w6 ⟨x0v, rfl, x0, bw6⟩
  replace ga0 := (bw6.block _ la0).trans ga0
  replace la0 := Nat.lt_of_lt_of_le la0 bw6.size
  have qw6 := bw6.size
  replace B := B.trans (bw6.mono B.size)
  clear bw6
  obtain ⟨px0_4, px0_5, cx0_4, cx0_5, ex0⟩ := x0.shape
  subst ex0
  obtain ⟨ka0_0, ka0_1, ka0_2, ka0_3, ka0_4, ka0_5, ka0_6, ka0_7⟩ := SRules_cells ga0
  go_wp2_with fail
  clear ka0_0 ka0_1 ka0_2 ka0_3 ka0_4 ka0_5 ka0_6 ka0_7
  have gx0 := heap_alloc_new w6 (.cells #[.int .i64 z0.players, .int .i64 z0.each, .bool z0.sameSuit, .bool z0.sameRank, .slice px0_4 z0.wild.length cx0_4, .slice px0_5 z0.skip.length cx0_5, .int .i64 z0.take, .int .i64 z0.limit] 29)
  have bw7 := (Below.refl w6.heap.size w6).alloc (Nat.le_refl _) (.cells #[.int .i64 z0.players, .int .i64 z0.each, .bool z0.sameSuit, .bool z0.sameRank, .slice px0_4 z0.wild.length cx0_4, .slice px0_5 z0.skip.length cx0_5, .int .i64 z0.take, .int .i64 z0.limit] 29)
  have lx0 : w6.heap.size < (w6.alloc (.cells #[.int .i64 z0.players, .int .i64 z0.each, .bool z0.sameSuit, .bool z0.sameRank, .slice px0_4 z0.wild.length cx0_4, .slice px0_5 z0.skip.length cx0_5, .int .i64 z0.take, .int .i64 z0.limit] 29)).heap.size := by simp
  generalize w6.alloc (.cells #[.int .i64 z0.players, .int .i64 z0.each, .bool z0.sameSuit, .bool z0.sameRank, .slice px0_4 z0.wild.length cx0_4, .slice px0_5 z0.skip.length cx0_5, .int .i64 z0.take, .int .i64 z0.limit] 29) = w7 at *
  replace ga0 := (bw7.block _ la0).trans ga0
  replace la0 := Nat.lt_of_lt_of_le la0 bw7.size
  replace x0 := x0.below bw7
  have qw7 := bw7.size
  replace B := B.trans (bw7.mono B.size)
  clear bw7
  refine (toIntS_any _ z1 b1 _ (h1.below B) hL1).mono ?_
  rintro e w8 ⟨x1v, rfl, x1, bw8, lw8⟩
  replace ga0 := (bw8.block _ la0).trans ga0
  replace la0 := Nat.lt_of_lt_of_le la0 bw8.size
  replace gx0 := (bw8.block _ lx0).trans gx0
  replace lx0 := Nat.lt_of_lt_of_le lx0 bw8.size
  replace x0 := x0.below bw8
  have qw8 := bw8.size
  replace B := B.trans (bw8.mono B.size)
  clear bw8
  obtain ⟨ka0_0, ka0_1, ka0_2, ka0_3, ka0_4, ka0_5, ka0_6, ka0_7⟩ := SRules_cells ga0
  obtain ⟨kx0_0, kx0_1, kx0_2, kx0_3, kx0_4, kx0_5, kx0_6, kx0_7⟩ := SRules_cells gx0
  go_wp2_with fail
  clear ka0_0 ka0_1 ka0_2 ka0_3 ka0_4 ka0_5 ka0_6 ka0_7 kx0_0 kx0_1 kx0_2 kx0_3 kx0_4 kx0_5 kx0_6 kx0_7
  refine (skipsIn_any _ _ z0 z1 _ _ x0 hl0 x1.rd hL1 (hG.below B)).mono ?_
  rintro e w9 ⟨rfl, bw9⟩
  replace ga0 := (bw9.block _ la0).trans ga0
  replace la0 := Nat.lt_of_lt_of_le la0 bw9.size
  replace gx0 := (bw9.block _ lx0).trans gx0
  replace lx0 := Nat.lt_of_lt_of_le lx0 bw9.size
  replace x0 := x0.below bw9
  replace x1 := x1.below bw9
  have qw9 := bw9.size
  replace B := B.trans (bw9.mono B.size)
  clear bw9
  have HB := Lib.hid B
  have HTo := Lib.hid (fun wx (hb : Below w.heap.size w wx) => toRules_any _ z0 wx (h0.below hb) hl0)
  have HX := Lib.hid (fun wx (hb : Below w9.heap.size w9 wx) => x0.below hb)
  have HG : Hid (∀ wx, Below w9.heap.size w9 wx → wx.cell? ⟨w.heap.size, 0, none⟩ = some (.int .i64 z0.players) ∧ wx.cell? ⟨w.heap.size, 1, none⟩ = some (.int .i64 z0.each) ∧ wx.cell? ⟨w.heap.size, 2, none⟩ = some (.bool z0.sameSuit) ∧ wx.cell? ⟨w.heap.size, 3, none⟩ = some (.bool z0.sameRank) ∧ wx.cell? ⟨w.heap.size, 4, none⟩ = some (.slice p0_4 z0.wild.length c0_4) ∧ wx.cell? ⟨w.heap.size, 5, none⟩ = some (.slice p0_5 z0.skip.length c0_5) ∧ wx.cell? ⟨w.heap.size, 6, none⟩ = some (.int .i64 z0.take) ∧ wx.cell? ⟨w.heap.size, 7, none⟩ = some (.int .i64 z0.limit) ∧ wx.cell? ⟨w6.heap.size, 0, none⟩ = some (.int .i64 z0.players) ∧ wx.cell? ⟨w6.heap.size, 1, none⟩ = some (.int .i64 z0.each) ∧ wx.cell? ⟨w6.heap.size, 2, none⟩ = some (.bool z0.sameSuit) ∧ wx.cell? ⟨w6.heap.size, 3, none⟩ = some (.bool z0.sameRank) ∧ wx.cell? ⟨w6.heap.size, 4, none⟩ = some (.slice px0_4 z0.wild.length cx0_4) ∧ wx.cell? ⟨w6.heap.size, 5, none⟩ = some (.slice px0_5 z0.skip.length cx0_5) ∧ wx.cell? ⟨w6.heap.size, 6, none⟩ = some (.int .i64 z0.take) ∧ wx.cell? ⟨w6.heap.size, 7, none⟩ = some (.int .i64 z0.limit)) := Lib.hid (fun wx hb => by
    obtain ⟨ua0_0, ua0_1, ua0_2, ua0_3, ua0_4, ua0_5, ua0_6, ua0_7⟩ := SRules_cells ((hb.block _ la0).trans ga0)
    obtain ⟨ux0_0, ux0_1, ux0_2, ux0_3, ux0_4, ux0_5, ux0_6, ux0_7⟩ := SRules_cells ((hb.block _ lx0).trans gx0)
    exact ⟨ua0_0, ua0_1, ua0_2, ua0_3, ua0_4, ua0_5, ua0_6, ua0_7, ux0_0, ux0_1, ux0_2, ux0_3, ux0_4, ux0_5, ux0_6, ux0_7⟩)
  obtain ⟨ka0_0, ka0_1, ka0_2, ka0_3, ka0_4, ka0_5, ka0_6, ka0_7⟩ := SRules_cells ga0
  obtain ⟨kx0_0, kx0_1, kx0_2, kx0_3, kx0_4, kx0_5, kx0_6, kx0_7⟩ := SRules_cells gx0
  go_wp2_with fail
  clear B x0
  go_region_held3 (fun w' => w'.cell? ⟨w.heap.size, 0, none⟩ = some (.int .i64 z0.players) ∧ w'.cell? ⟨w.heap.size, 1, none⟩ = some (.int .i64 z0.each) ∧ w'.cell? ⟨w.heap.size, 2, none⟩ = some (.bool z0.sameSuit) ∧ w'.cell? ⟨w.heap.size, 3, none⟩ = some (.bool z0.sameRank) ∧ w'.cell? ⟨w.heap.size, 4, none⟩ = some (.slice p0_4 z0.wild.length c0_4) ∧ w'.cell? ⟨w.heap.size, 5, none⟩ = some (.slice p0_5 z0.skip.length c0_5) ∧ w'.cell? ⟨w.heap.size, 6, none⟩ = some (.int .i64 z0.take) ∧ w'.cell? ⟨w.heap.size, 7, none⟩ = some (.int .i64 z0.limit) ∧ w'.cell? ⟨w6.heap.size, 0, none⟩ = some (.int .i64 z0.players) ∧ w'.cell? ⟨w6.heap.size, 1, none⟩ = some (.int .i64 z0.each) ∧ w'.cell? ⟨w6.heap.size, 2, none⟩ = some (.bool z0.sameSuit) ∧ w'.cell? ⟨w6.heap.size, 3, none⟩ = some (.bool z0.sameRank) ∧ w'.cell? ⟨w6.heap.size, 4, none⟩ = some (.slice px0_4 z0.wild.length cx0_4) ∧ w'.cell? ⟨w6.heap.size, 5, none⟩ = some (.slice px0_5 z0.skip.length cx0_5) ∧ w'.cell? ⟨w6.heap.size, 6, none⟩ = some (.int .i64 z0.take) ∧ w'.cell? ⟨w6.heap.size, 7, none⟩ = some (.int .i64 z0.limit)) (go_keep) (first
    | (go_at_call 16; refine (HTo.out _ HB.out.drew).mono ?_; rintro e wy0 ⟨yv, rfl, hy, By⟩; obtain ⟨ya0_0, ya0_1, ya0_2, ya0_3, ya0_4, ya0_5, ya0_6, ya0_7, yx0_0, yx0_1, yx0_2, yx0_3, yx0_4, yx0_5, yx0_6, yx0_7⟩ := HG.out wy0 ((Below.refl _ _).drew.trans By))
    | (go_at_call 18; refine (eqRules_t _ _ z0 _ (HX.out _ ((Below.refl _ _).drew.trans By)) hy hl0).mono ?_; rintro e wz0 ⟨rfl, Bz⟩; obtain ⟨zya0_0, zya0_1, zya0_2, zya0_3, zya0_4, zya0_5, zya0_6, zya0_7, zyx0_0, zyx0_1, zyx0_2, zyx0_3, zyx0_4, zyx0_5, zyx0_6, zyx0_7⟩ := HG.out wz0 (((Below.refl _ _).drew.trans By).trans (Bz.mono By.size))))
  all_goals
    have B := HB.out.drew.trans (By.mono HB.out.drew.size)
    have Bc : Below w9.heap.size w9 wz0 := ((Below.refl _ _).drew.trans By).trans (Bz.mono By.size)
    replace B := B.trans (Bz.mono B.size)
    clear ka0_0 ka0_1 ka0_2 ka0_3 ka0_4 ka0_5 ka0_6 ka0_7 kx0_0 kx0_1 kx0_2 kx0_3 kx0_4 kx0_5 kx0_6 kx0_7 By Bz HTo HG HB hy ya0_0 ya0_1 ya0_2 ya0_3 ya0_4 ya0_5 ya0_6 ya0_7 yx0_0 yx0_1 yx0_2 yx0_3 yx0_4 yx0_5 yx0_6 yx0_7 zya0_0 zya0_1 zya0_2 zya0_3 zya0_4 zya0_5 zya0_6 zya0_7 zyx0_0 zyx0_1 zyx0_2 zyx0_3 zyx0_4 zyx0_5 zyx0_6 zyx0_7
    have x0 := HX.out _ Bc
    clear HX
    replace x1 := x1.below Bc
    replace ga0 := (Bc.block _ la0).trans ga0
    replace la0 := Nat.lt_of_lt_of_le la0 Bc.size
    replace gx0 := (Bc.block _ lx0).trans gx0
    replace lx0 := Nat.lt_of_lt_of_le lx0 Bc.size
    have qwz := Bc.size
    clear Bc
    obtain ⟨ka0_0, ka0_1, ka0_2, ka0_3, ka0_4, ka0_5, ka0_6, ka0_7⟩ := SRules_cells ga0
    obtain ⟨kx0_0, kx0_1, kx0_2, kx0_3, kx0_4, kx0_5, kx0_6, kx0_7⟩ := SRules_cells gx0
    go_wp2_with fail
    clear ka0_0 ka0_1 ka0_2 ka0_3 ka0_4 ka0_5 ka0_6 ka0_7 kx0_0 kx0_1 kx0_2 kx0_3 kx0_4 kx0_5 kx0_6 kx0_7
    refine (toIntS_any _ z1 b1 _ (h1.below B) hL1).mono ?_
    rintro e w11 ⟨y1v, rfl, y1, bw11, lw11⟩
    replace ga0 := (bw11.block _ la0).trans ga0
    replace la0 := Nat.lt_of_lt_of_le la0 bw11.size
    replace gx0 := (bw11.block _ lx0).trans gx0
    replace lx0 := Nat.lt_of_lt_of_le lx0 bw11.size
    replace x0 := x0.below bw11
    replace x1 := x1.below bw11
    have qw11 := bw11.size
    replace B := B.trans (bw11.mono B.size)
    clear bw11
    obtain ⟨ka0_0, ka0_1, ka0_2, ka0_3, ka0_4, ka0_5, ka0_6, ka0_7⟩ := SRules_cells ga0
    obtain ⟨kx0_0, kx0_1, kx0_2, kx0_3, kx0_4, kx0_5, kx0_6, kx0_7⟩ := SRules_cells gx0
    go_wp2_with fail
    clear ka0_0 ka0_1 ka0_2 ka0_3 ka0_4 ka0_5 ka0_6 ka0_7 kx0_0 kx0_1 kx0_2 kx0_3 kx0_4 kx0_5 kx0_6 kx0_7
    refine (eqIntS_t _ _ _ _ _ _ x1.rd y1.rd hL1).mono ?_
    rintro e w12 ⟨rfl, bw12⟩
    replace ga0 := (bw12.block _ la0).trans ga0
    replace la0 := Nat.lt_of_lt_of_le la0 bw12.size
    replace gx0 := (bw12.block _ lx0).trans gx0
    replace lx0 := Nat.lt_of_lt_of_le lx0 bw12.size
    replace x0 := x0.below bw12
    replace x1 := x1.below bw12
    replace y1 := y1.below bw12
    have qw12 := bw12.size
    replace B := B.trans (bw12.mono B.size)
    clear bw12
    clear y1
    obtain ⟨ka0_0, ka0_1, ka0_2, ka0_3, ka0_4, ka0_5, ka0_6, ka0_7⟩ := SRules_cells ga0
    obtain ⟨kx0_0, kx0_1, kx0_2, kx0_3, kx0_4, kx0_5, kx0_6, kx0_7⟩ := SRules_cells gx0
    go_wp2_with fail
    go_ret
    exact ⟨rfl, B⟩

end Go.Proofs.YtonpdjgokmedjaaDoor
