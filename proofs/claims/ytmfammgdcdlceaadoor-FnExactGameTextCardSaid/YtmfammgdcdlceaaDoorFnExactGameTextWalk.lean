/-
  The walk of the law FnExactGameText, out of the contracts of both sides.
-/
import Derived.Test.YtmfammgdcdlceaaDoorGText
import Derived.Deep.RegionHeld3
namespace Go.Proofs.YtmfammgdcdlceaaDoor
open Go.RowKit

set_option linter.unusedVariables false in
set_option maxRecDepth 100000 in
set_option maxHeartbeats 4000000 in
theorem fnExactGameText_walk (v0 : Value) (z0 : MGame) (w : World) (h0 : RdGame w v0 z0) (hG : Grps w) (hP : Pow w) :
    Calls Tryd.prog 6 #[v0] w fun e w' => e = .returned (.bool true) ∧ Below w.heap.size w w' := by
  obtain ⟨p0_4, p0_5, p0_8, p0_9, p0_10, c0_4, c0_5, c0_8, c0_9, c0_10, hv0⟩ := h0.shape
  go_enter Tryd.func6, Tryd.ntmps6
  subst hv0
  obtain ⟨W0, hW0⟩ : ∃ W, W = (w.alloc (.cells #[.int .i64 z0.rules.players, .int .i64 z0.rules.each, .bool z0.rules.sameSuit, .bool z0.rules.sameRank, .slice p0_4 z0.rules.wild.length c0_4, .slice p0_5 z0.rules.skip.length c0_5, .int .i64 z0.rules.take, .int .i64 z0.rules.limit, .slice p0_8 z0.hands.length c0_8, .slice p0_9 z0.stock.length c0_9, .slice p0_10 z0.heap.length c0_10, .int .i64 z0.turn, .int .i64 z0.moves, .int .i64 z0.passes] 42)) := ⟨_, rfl⟩
  have B : Below w.heap.size w W0 := by rw [hW0]; exact ((Below.refl w.heap.size w).alloc (by simp) _)
  have ga0 : W0.heap[w.heap.size]? = some (.cells #[.int .i64 z0.rules.players, .int .i64 z0.rules.each, .bool z0.rules.sameSuit, .bool z0.rules.sameRank, .slice p0_4 z0.rules.wild.length c0_4, .slice p0_5 z0.rules.skip.length c0_5, .int .i64 z0.rules.take, .int .i64 z0.rules.limit, .slice p0_8 z0.hands.length c0_8, .slice p0_9 z0.stock.length c0_9, .slice p0_10 z0.heap.length c0_10, .int .i64 z0.turn, .int .i64 z0.moves, .int .i64 z0.passes] 42 (0, 0)) := by
    rw [hW0]; show (Array.push (w.heap) _)[_]? = _
    rw [Array.getElem?_push, if_pos (by simp)]
  have la0 : w.heap.size < W0.heap.size := by rw [hW0]; simp
  have HW0 := Lib.hid hW0
  clear hW0
  have qW0 := B.size
  have qWb0 := la0
  obtain ⟨ka0_0, ka0_1, ka0_2, ka0_3, ka0_4, ka0_5, ka0_6, ka0_7, ka0_8, ka0_9, ka0_10, ka0_11, ka0_12, ka0_13⟩ := SGame_cells ga0
  go_wp2_with fail
  rw [← HW0.out]
  clear ka0_0 ka0_1 ka0_2 ka0_3 ka0_4 ka0_5 ka0_6 ka0_7 ka0_8 ka0_9 ka0_10 ka0_11 ka0_12 ka0_13
  refine (szGame_any _ z0 1048576 _ (h0.below B) (by omega) (by omega)).mono ?_
  rintro e w2 ⟨⟨r0, rfl, rn0, rm0, hr0⟩, bw2⟩
  replace ga0 := (bw2.block _ la0).trans ga0
  replace la0 := Nat.lt_of_lt_of_le la0 bw2.size
  have qw2 := bw2.size
  replace B := B.trans (bw2.mono B.size)
  clear bw2
  by_cases hneg0 : r0 < 0
  · go_wp2_with fail
    go_ret
    exact ⟨rfl, B⟩
  have hl0 : z0.Few := hr0 (by omega)
  clear hr0
  obtain ⟨ka0_0, ka0_1, ka0_2, ka0_3, ka0_4, ka0_5, ka0_6, ka0_7, ka0_8, ka0_9, ka0_10, ka0_11, ka0_12, ka0_13⟩ := SGame_cells ga0
  go_wp2_with fail
  clear ka0_0 ka0_1 ka0_2 ka0_3 ka0_4 ka0_5 ka0_6 ka0_7 ka0_8 ka0_9 ka0_10 ka0_11 ka0_12 ka0_13
  refine (toGame_any _ z0 _ (h0.below B) hl0).mono ?_
  rintro e w3 ⟨m0v, rfl, m0, bw3⟩
  replace ga0 := (bw3.block _ la0).trans ga0
  replace la0 := Nat.lt_of_lt_of_le la0 bw3.size
  have qw3 := bw3.size
  replace B := B.trans (bw3.mono B.size)
  clear bw3
  obtain ⟨ka0_0, ka0_1, ka0_2, ka0_3, ka0_4, ka0_5, ka0_6, ka0_7, ka0_8, ka0_9, ka0_10, ka0_11, ka0_12, ka0_13⟩ := SGame_cells ga0
  go_wp2_with fail
  clear ka0_0 ka0_1 ka0_2 ka0_3 ka0_4 ka0_5 ka0_6 ka0_7 ka0_8 ka0_9 ka0_10 ka0_11 ka0_12 ka0_13
  refine (sGameText_any _ z0 _ m0 hl0).mono ?_
  rintro e w4 ⟨rfl, bw4⟩
  replace ga0 := (bw4.block _ la0).trans ga0
  replace la0 := Nat.lt_of_lt_of_le la0 bw4.size
  replace m0 := m0.below bw4
  have qw4 := bw4.size
  replace B := B.trans (bw4.mono B.size)
  clear bw4
  clear m0
  obtain ⟨ka0_0, ka0_1, ka0_2, ka0_3, ka0_4, ka0_5, ka0_6, ka0_7, ka0_8, ka0_9, ka0_10, ka0_11, ka0_12, ka0_13⟩ := SGame_cells ga0
  go_wp2_with fail
  clear ka0_0 ka0_1 ka0_2 ka0_3 ka0_4 ka0_5 ka0_6 ka0_7 ka0_8 ka0_9 ka0_10 ka0_11 ka0_12 ka0_13
  refine (toGame_any _ z0 _ (h0.below B) hl0).mono ?_
  rintro e w5 ⟨x0v, rfl, x0, bw5⟩
  replace ga0 := (bw5.block _ la0).trans ga0
  replace la0 := Nat.lt_of_lt_of_le la0 bw5.size
  have qw5 := bw5.size
  replace B := B.trans (bw5.mono B.size)
  clear bw5
  obtain ⟨px0_4, px0_5, px0_8, px0_9, px0_10, cx0_4, cx0_5, cx0_8, cx0_9, cx0_10, ex0⟩ := x0.shape
  subst ex0
  obtain ⟨ka0_0, ka0_1, ka0_2, ka0_3, ka0_4, ka0_5, ka0_6, ka0_7, ka0_8, ka0_9, ka0_10, ka0_11, ka0_12, ka0_13⟩ := SGame_cells ga0
  go_wp2_with fail
  clear ka0_0 ka0_1 ka0_2 ka0_3 ka0_4 ka0_5 ka0_6 ka0_7 ka0_8 ka0_9 ka0_10 ka0_11 ka0_12 ka0_13
  have gx0 := heap_alloc_new w5 (.cells #[.int .i64 z0.rules.players, .int .i64 z0.rules.each, .bool z0.rules.sameSuit, .bool z0.rules.sameRank, .slice px0_4 z0.rules.wild.length cx0_4, .slice px0_5 z0.rules.skip.length cx0_5, .int .i64 z0.rules.take, .int .i64 z0.rules.limit, .slice px0_8 z0.hands.length cx0_8, .slice px0_9 z0.stock.length cx0_9, .slice px0_10 z0.heap.length cx0_10, .int .i64 z0.turn, .int .i64 z0.moves, .int .i64 z0.passes] 47)
  have bw6 := (Below.refl w5.heap.size w5).alloc (Nat.le_refl _) (.cells #[.int .i64 z0.rules.players, .int .i64 z0.rules.each, .bool z0.rules.sameSuit, .bool z0.rules.sameRank, .slice px0_4 z0.rules.wild.length cx0_4, .slice px0_5 z0.rules.skip.length cx0_5, .int .i64 z0.rules.take, .int .i64 z0.rules.limit, .slice px0_8 z0.hands.length cx0_8, .slice px0_9 z0.stock.length cx0_9, .slice px0_10 z0.heap.length cx0_10, .int .i64 z0.turn, .int .i64 z0.moves, .int .i64 z0.passes] 47)
  have lx0 : w5.heap.size < (w5.alloc (.cells #[.int .i64 z0.rules.players, .int .i64 z0.rules.each, .bool z0.rules.sameSuit, .bool z0.rules.sameRank, .slice px0_4 z0.rules.wild.length cx0_4, .slice px0_5 z0.rules.skip.length cx0_5, .int .i64 z0.rules.take, .int .i64 z0.rules.limit, .slice px0_8 z0.hands.length cx0_8, .slice px0_9 z0.stock.length cx0_9, .slice px0_10 z0.heap.length cx0_10, .int .i64 z0.turn, .int .i64 z0.moves, .int .i64 z0.passes] 47)).heap.size := by simp
  generalize w5.alloc (.cells #[.int .i64 z0.rules.players, .int .i64 z0.rules.each, .bool z0.rules.sameSuit, .bool z0.rules.sameRank, .slice px0_4 z0.rules.wild.length cx0_4, .slice px0_5 z0.rules.skip.length cx0_5, .int .i64 z0.rules.take, .int .i64 z0.rules.limit, .slice px0_8 z0.hands.length cx0_8, .slice px0_9 z0.stock.length cx0_9, .slice px0_10 z0.heap.length cx0_10, .int .i64 z0.turn, .int .i64 z0.moves, .int .i64 z0.passes] 47) = w6 at *
  have qbxx0 := lx0
  replace ga0 := (bw6.block _ la0).trans ga0
  replace la0 := Nat.lt_of_lt_of_le la0 bw6.size
  replace x0 := x0.below bw6
  have qw6 := bw6.size
  replace B := B.trans (bw6.mono B.size)
  clear bw6
  refine (gameText_any _ z0 _ x0 hl0 (hG.below B) (hP.below B (Nat.le_refl _))).mono ?_
  rintro e w7 ⟨rfl, bw7⟩
  replace ga0 := (bw7.block _ la0).trans ga0
  replace la0 := Nat.lt_of_lt_of_le la0 bw7.size
  replace gx0 := (bw7.block _ lx0).trans gx0
  replace lx0 := Nat.lt_of_lt_of_le lx0 bw7.size
  replace x0 := x0.below bw7
  have qw7 := bw7.size
  replace B := B.trans (bw7.mono B.size)
  clear bw7
  have HB := Lib.hid B
  have HTo := Lib.hid (fun wx (hb : Below w.heap.size w wx) => toGame_any _ z0 wx (h0.below hb) hl0)
  have HX := Lib.hid (fun wx (hb : Below w7.heap.size w7 wx) => x0.below hb)
  have HG : Hid (∀ wx, Below w7.heap.size w7 wx → wx.cell? ⟨w.heap.size, 0, none⟩ = some (.int .i64 z0.rules.players) ∧ wx.cell? ⟨w.heap.size, 1, none⟩ = some (.int .i64 z0.rules.each) ∧ wx.cell? ⟨w.heap.size, 2, none⟩ = some (.bool z0.rules.sameSuit) ∧ wx.cell? ⟨w.heap.size, 3, none⟩ = some (.bool z0.rules.sameRank) ∧ wx.cell? ⟨w.heap.size, 4, none⟩ = some (.slice p0_4 z0.rules.wild.length c0_4) ∧ wx.cell? ⟨w.heap.size, 5, none⟩ = some (.slice p0_5 z0.rules.skip.length c0_5) ∧ wx.cell? ⟨w.heap.size, 6, none⟩ = some (.int .i64 z0.rules.take) ∧ wx.cell? ⟨w.heap.size, 7, none⟩ = some (.int .i64 z0.rules.limit) ∧ wx.cell? ⟨w.heap.size, 8, none⟩ = some (.slice p0_8 z0.hands.length c0_8) ∧ wx.cell? ⟨w.heap.size, 9, none⟩ = some (.slice p0_9 z0.stock.length c0_9) ∧ wx.cell? ⟨w.heap.size, 10, none⟩ = some (.slice p0_10 z0.heap.length c0_10) ∧ wx.cell? ⟨w.heap.size, 11, none⟩ = some (.int .i64 z0.turn) ∧ wx.cell? ⟨w.heap.size, 12, none⟩ = some (.int .i64 z0.moves) ∧ wx.cell? ⟨w.heap.size, 13, none⟩ = some (.int .i64 z0.passes) ∧ wx.cell? ⟨w5.heap.size, 0, none⟩ = some (.int .i64 z0.rules.players) ∧ wx.cell? ⟨w5.heap.size, 1, none⟩ = some (.int .i64 z0.rules.each) ∧ wx.cell? ⟨w5.heap.size, 2, none⟩ = some (.bool z0.rules.sameSuit) ∧ wx.cell? ⟨w5.heap.size, 3, none⟩ = some (.bool z0.rules.sameRank) ∧ wx.cell? ⟨w5.heap.size, 4, none⟩ = some (.slice px0_4 z0.rules.wild.length cx0_4) ∧ wx.cell? ⟨w5.heap.size, 5, none⟩ = some (.slice px0_5 z0.rules.skip.length cx0_5) ∧ wx.cell? ⟨w5.heap.size, 6, none⟩ = some (.int .i64 z0.rules.take) ∧ wx.cell? ⟨w5.heap.size, 7, none⟩ = some (.int .i64 z0.rules.limit) ∧ wx.cell? ⟨w5.heap.size, 8, none⟩ = some (.slice px0_8 z0.hands.length cx0_8) ∧ wx.cell? ⟨w5.heap.size, 9, none⟩ = some (.slice px0_9 z0.stock.length cx0_9) ∧ wx.cell? ⟨w5.heap.size, 10, none⟩ = some (.slice px0_10 z0.heap.length cx0_10) ∧ wx.cell? ⟨w5.heap.size, 11, none⟩ = some (.int .i64 z0.turn) ∧ wx.cell? ⟨w5.heap.size, 12, none⟩ = some (.int .i64 z0.moves) ∧ wx.cell? ⟨w5.heap.size, 13, none⟩ = some (.int .i64 z0.passes)) := Lib.hid (fun wx hb => by
    obtain ⟨ua0_0, ua0_1, ua0_2, ua0_3, ua0_4, ua0_5, ua0_6, ua0_7, ua0_8, ua0_9, ua0_10, ua0_11, ua0_12, ua0_13⟩ := SGame_cells ((hb.block _ la0).trans ga0)
    obtain ⟨ux0_0, ux0_1, ux0_2, ux0_3, ux0_4, ux0_5, ux0_6, ux0_7, ux0_8, ux0_9, ux0_10, ux0_11, ux0_12, ux0_13⟩ := SGame_cells ((hb.block _ lx0).trans gx0)
    exact ⟨ua0_0, ua0_1, ua0_2, ua0_3, ua0_4, ua0_5, ua0_6, ua0_7, ua0_8, ua0_9, ua0_10, ua0_11, ua0_12, ua0_13, ux0_0, ux0_1, ux0_2, ux0_3, ux0_4, ux0_5, ux0_6, ux0_7, ux0_8, ux0_9, ux0_10, ux0_11, ux0_12, ux0_13⟩)
  obtain ⟨ka0_0, ka0_1, ka0_2, ka0_3, ka0_4, ka0_5, ka0_6, ka0_7, ka0_8, ka0_9, ka0_10, ka0_11, ka0_12, ka0_13⟩ := SGame_cells ga0
  obtain ⟨kx0_0, kx0_1, kx0_2, kx0_3, kx0_4, kx0_5, kx0_6, kx0_7, kx0_8, kx0_9, kx0_10, kx0_11, kx0_12, kx0_13⟩ := SGame_cells gx0
  go_wp2_with fail
  clear B x0
  go_region_held3 (fun w' => w'.cell? ⟨w.heap.size, 0, none⟩ = some (.int .i64 z0.rules.players) ∧ w'.cell? ⟨w.heap.size, 1, none⟩ = some (.int .i64 z0.rules.each) ∧ w'.cell? ⟨w.heap.size, 2, none⟩ = some (.bool z0.rules.sameSuit) ∧ w'.cell? ⟨w.heap.size, 3, none⟩ = some (.bool z0.rules.sameRank) ∧ w'.cell? ⟨w.heap.size, 4, none⟩ = some (.slice p0_4 z0.rules.wild.length c0_4) ∧ w'.cell? ⟨w.heap.size, 5, none⟩ = some (.slice p0_5 z0.rules.skip.length c0_5) ∧ w'.cell? ⟨w.heap.size, 6, none⟩ = some (.int .i64 z0.rules.take) ∧ w'.cell? ⟨w.heap.size, 7, none⟩ = some (.int .i64 z0.rules.limit) ∧ w'.cell? ⟨w.heap.size, 8, none⟩ = some (.slice p0_8 z0.hands.length c0_8) ∧ w'.cell? ⟨w.heap.size, 9, none⟩ = some (.slice p0_9 z0.stock.length c0_9) ∧ w'.cell? ⟨w.heap.size, 10, none⟩ = some (.slice p0_10 z0.heap.length c0_10) ∧ w'.cell? ⟨w.heap.size, 11, none⟩ = some (.int .i64 z0.turn) ∧ w'.cell? ⟨w.heap.size, 12, none⟩ = some (.int .i64 z0.moves) ∧ w'.cell? ⟨w.heap.size, 13, none⟩ = some (.int .i64 z0.passes) ∧ w'.cell? ⟨w5.heap.size, 0, none⟩ = some (.int .i64 z0.rules.players) ∧ w'.cell? ⟨w5.heap.size, 1, none⟩ = some (.int .i64 z0.rules.each) ∧ w'.cell? ⟨w5.heap.size, 2, none⟩ = some (.bool z0.rules.sameSuit) ∧ w'.cell? ⟨w5.heap.size, 3, none⟩ = some (.bool z0.rules.sameRank) ∧ w'.cell? ⟨w5.heap.size, 4, none⟩ = some (.slice px0_4 z0.rules.wild.length cx0_4) ∧ w'.cell? ⟨w5.heap.size, 5, none⟩ = some (.slice px0_5 z0.rules.skip.length cx0_5) ∧ w'.cell? ⟨w5.heap.size, 6, none⟩ = some (.int .i64 z0.rules.take) ∧ w'.cell? ⟨w5.heap.size, 7, none⟩ = some (.int .i64 z0.rules.limit) ∧ w'.cell? ⟨w5.heap.size, 8, none⟩ = some (.slice px0_8 z0.hands.length cx0_8) ∧ w'.cell? ⟨w5.heap.size, 9, none⟩ = some (.slice px0_9 z0.stock.length cx0_9) ∧ w'.cell? ⟨w5.heap.size, 10, none⟩ = some (.slice px0_10 z0.heap.length cx0_10) ∧ w'.cell? ⟨w5.heap.size, 11, none⟩ = some (.int .i64 z0.turn) ∧ w'.cell? ⟨w5.heap.size, 12, none⟩ = some (.int .i64 z0.moves) ∧ w'.cell? ⟨w5.heap.size, 13, none⟩ = some (.int .i64 z0.passes)) (go_keep) (first
    | (go_at_call 22; refine (HTo.out _ HB.out.drew).mono ?_; rintro e wy0 ⟨yv, rfl, hy, By⟩; obtain ⟨ya0_0, ya0_1, ya0_2, ya0_3, ya0_4, ya0_5, ya0_6, ya0_7, ya0_8, ya0_9, ya0_10, ya0_11, ya0_12, ya0_13, yx0_0, yx0_1, yx0_2, yx0_3, yx0_4, yx0_5, yx0_6, yx0_7, yx0_8, yx0_9, yx0_10, yx0_11, yx0_12, yx0_13⟩ := HG.out wy0 ((Below.refl _ _).drew.trans By))
    | (go_at_call 24; refine (eqGame_t _ _ z0 _ (HX.out _ ((Below.refl _ _).drew.trans By)) hy hl0).mono ?_; rintro e wz0 ⟨rfl, Bz⟩; obtain ⟨zya0_0, zya0_1, zya0_2, zya0_3, zya0_4, zya0_5, zya0_6, zya0_7, zya0_8, zya0_9, zya0_10, zya0_11, zya0_12, zya0_13, zyx0_0, zyx0_1, zyx0_2, zyx0_3, zyx0_4, zyx0_5, zyx0_6, zyx0_7, zyx0_8, zyx0_9, zyx0_10, zyx0_11, zyx0_12, zyx0_13⟩ := HG.out wz0 (((Below.refl _ _).drew.trans By).trans (Bz.mono By.size))))
  all_goals
    have B := HB.out.drew.trans (By.mono HB.out.drew.size)
    have Bc : Below w7.heap.size w7 wz0 := ((Below.refl _ _).drew.trans By).trans (Bz.mono By.size)
    replace B := B.trans (Bz.mono B.size)
    clear ka0_0 ka0_1 ka0_2 ka0_3 ka0_4 ka0_5 ka0_6 ka0_7 ka0_8 ka0_9 ka0_10 ka0_11 ka0_12 ka0_13 kx0_0 kx0_1 kx0_2 kx0_3 kx0_4 kx0_5 kx0_6 kx0_7 kx0_8 kx0_9 kx0_10 kx0_11 kx0_12 kx0_13 By Bz HTo HG HB hy ya0_0 ya0_1 ya0_2 ya0_3 ya0_4 ya0_5 ya0_6 ya0_7 ya0_8 ya0_9 ya0_10 ya0_11 ya0_12 ya0_13 yx0_0 yx0_1 yx0_2 yx0_3 yx0_4 yx0_5 yx0_6 yx0_7 yx0_8 yx0_9 yx0_10 yx0_11 yx0_12 yx0_13 zya0_0 zya0_1 zya0_2 zya0_3 zya0_4 zya0_5 zya0_6 zya0_7 zya0_8 zya0_9 zya0_10 zya0_11 zya0_12 zya0_13 zyx0_0 zyx0_1 zyx0_2 zyx0_3 zyx0_4 zyx0_5 zyx0_6 zyx0_7 zyx0_8 zyx0_9 zyx0_10 zyx0_11 zyx0_12 zyx0_13
    have x0 := HX.out _ Bc
    clear HX
    replace ga0 := (Bc.block _ la0).trans ga0
    replace la0 := Nat.lt_of_lt_of_le la0 Bc.size
    replace gx0 := (Bc.block _ lx0).trans gx0
    replace lx0 := Nat.lt_of_lt_of_le lx0 Bc.size
    have qwz := Bc.size
    clear Bc
    obtain ⟨ka0_0, ka0_1, ka0_2, ka0_3, ka0_4, ka0_5, ka0_6, ka0_7, ka0_8, ka0_9, ka0_10, ka0_11, ka0_12, ka0_13⟩ := SGame_cells ga0
    obtain ⟨kx0_0, kx0_1, kx0_2, kx0_3, kx0_4, kx0_5, kx0_6, kx0_7, kx0_8, kx0_9, kx0_10, kx0_11, kx0_12, kx0_13⟩ := SGame_cells gx0
    go_wp2_with fail
    go_ret
    exact ⟨rfl, B⟩

end Go.Proofs.YtmfammgdcdlceaaDoor
