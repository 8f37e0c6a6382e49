/-
  The walk of the law FnExactEqualGames, out of the contracts of both sides.
-/
import Derived.Test.YthmbfkgahkihfaaEqGame
import Derived.Deep.RegionHeld3
namespace Go.Proofs.Ythmbfkgahkihfaa
open Go.RowKit

set_option linter.unusedVariables false in
set_option maxRecDepth 100000 in
set_option maxHeartbeats 4000000 in
theorem fnExactEqualGames_walk (v0 : Value) (z0 : MGame) (v1 : Value) (z1 : MGame) (w : World) (h0 : RdGame w v0 z0) (h1 : RdGame w v1 z1)  :
    Calls Try.prog 5 #[v0, v1] w fun e w' => e = .returned (.bool true) ∧ Below w.heap.size w w' := by
  obtain ⟨p0_4, p0_5, p0_8, p0_9, p0_10, c0_4, c0_5, c0_8, c0_9, c0_10, hv0⟩ := h0.shape
  obtain ⟨p1_4, p1_5, p1_8, p1_9, p1_10, c1_4, c1_5, c1_8, c1_9, c1_10, hv1⟩ := h1.shape
  go_enter Try.func5, Try.ntmps5
  subst hv0
  subst hv1
  obtain ⟨W0, hW0⟩ : ∃ W, W = ((w.alloc (.cells #[.int .i64 z0.rules.players, .int .i64 z0.rules.each, .bool z0.rules.sameSuit, .bool z0.rules.sameRank, .slice p0_4 z0.rules.wild.length c0_4, .slice p0_5 z0.rules.skip.length c0_5, .int .i64 z0.rules.take, .int .i64 z0.rules.limit, .slice p0_8 z0.hands.length c0_8, .slice p0_9 z0.stock.length c0_9, .slice p0_10 z0.heap.length c0_10, .int .i64 z0.turn, .int .i64 z0.moves, .int .i64 z0.passes] 27)).alloc (.cells #[.int .i64 z1.rules.players, .int .i64 z1.rules.each, .bool z1.rules.sameSuit, .bool z1.rules.sameRank, .slice p1_4 z1.rules.wild.length c1_4, .slice p1_5 z1.rules.skip.length c1_5, .int .i64 z1.rules.take, .int .i64 z1.rules.limit, .slice p1_8 z1.hands.length c1_8, .slice p1_9 z1.stock.length c1_9, .slice p1_10 z1.heap.length c1_10, .int .i64 z1.turn, .int .i64 z1.moves, .int .i64 z1.passes] 27)) := ⟨_, rfl⟩
  have B : Below w.heap.size w W0 := by rw [hW0]; exact (((Below.refl w.heap.size w).alloc (by simp) _).alloc (by simp) _)
  have ga0 : W0.heap[w.heap.size]? = some (.cells #[.int .i64 z0.rules.players, .int .i64 z0.rules.each, .bool z0.rules.sameSuit, .bool z0.rules.sameRank, .slice p0_4 z0.rules.wild.length c0_4, .slice p0_5 z0.rules.skip.length c0_5, .int .i64 z0.rules.take, .int .i64 z0.rules.limit, .slice p0_8 z0.hands.length c0_8, .slice p0_9 z0.stock.length c0_9, .slice p0_10 z0.heap.length c0_10, .int .i64 z0.turn, .int .i64 z0.moves, .int .i64 z0.passes] 27 (0, 0)) := by
    rw [hW0]; show (Array.push (Array.push (w.heap) _) _)[_]? = _
    rw [Array.getElem?_push, if_neg (by simp; try omega)]
    rw [Array.getElem?_push, if_pos (by simp)]
  have la0 : w.heap.size < W0.heap.size := by rw [hW0]; simp; try omega
  have ga1 : W0.heap[w.heap.size + 1]? = some (.cells #[.int .i64 z1.rules.players, .int .i64 z1.rules.each, .bool z1.rules.sameSuit, .bool z1.rules.sameRank, .slice p1_4 z1.rules.wild.length c1_4, .slice p1_5 z1.rules.skip.length c1_5, .int .i64 z1.rules.take, .int .i64 z1.rules.limit, .slice p1_8 z1.hands.length c1_8, .slice p1_9 z1.stock.length c1_9, .slice p1_10 z1.heap.length c1_10, .int .i64 z1.turn, .int .i64 z1.moves, .int .i64 z1.passes] 27 (0, 0)) := by
    rw [hW0]; show (Array.push (Array.push (w.heap) _) _)[_]? = _
    rw [Array.getElem?_push, if_pos (by simp)]
  have la1 : w.heap.size + 1 < W0.heap.size := by rw [hW0]; simp; try omega
  have HW0 := Lib.hid hW0
  clear hW0
  have qW0 := B.size
  have qWb0 := la0
  have qWb1 := la1
  obtain ⟨ka0_0, ka0_1, ka0_2, ka0_3, ka0_4, ka0_5, ka0_6, ka0_7, ka0_8, ka0_9, ka0_10, ka0_11, ka0_12, ka0_13⟩ := SGame_cells ga0
  obtain ⟨ka1_0, ka1_1, ka1_2, ka1_3, ka1_4, ka1_5, ka1_6, ka1_7, ka1_8, ka1_9, ka1_10, ka1_11, ka1_12, ka1_13⟩ := SGame_cells ga1
  go_wp2_with fail
  rw [← HW0.out]
  clear ka0_0 ka0_1 ka0_2 ka0_3 ka0_4 ka0_5 ka0_6 ka0_7 ka0_8 ka0_9 ka0_10 ka0_11 ka0_12 ka0_13 ka1_0 ka1_1 ka1_2 ka1_3 ka1_4 ka1_5 ka1_6 ka1_7 ka1_8 ka1_9 ka1_10 ka1_11 ka1_12 ka1_13
  refine (szGame_any _ z0 1048576 _ (h0.below B) (by omega) (by omega)).mono ?_
  rintro e w2 ⟨⟨r0, rfl, rn0, rm0, hr0⟩, bw2⟩
  replace ga0 := (bw2.block _ la0).trans ga0
  replace la0 := Nat.lt_of_lt_of_le la0 bw2.size
  replace ga1 := (bw2.block _ la1).trans ga1
  replace la1 := Nat.lt_of_lt_of_le la1 bw2.size
  have qw2 := bw2.size
  replace B := B.trans (bw2.mono B.size)
  clear bw2
  by_cases hneg0 : r0 < 0
  · go_wp2_with fail
    go_ret
    exact ⟨rfl, B⟩
  have hl0 : z0.Few := hr0 (by omega)
  clear hr0
  obtain ⟨ka0_0, ka0_1, ka0_2, ka0_3, ka0_4, ka0_5, ka0_6, ka0_7, ka0_8, ka0_9, ka0_10, ka0_11, ka0_12, ka0_13⟩ := SGame_cells ga0
  obtain ⟨ka1_0, ka1_1, ka1_2, ka1_3, ka1_4, ka1_5, ka1_6, ka1_7, ka1_8, ka1_9, ka1_10, ka1_11, ka1_12, ka1_13⟩ := SGame_cells ga1
  go_wp2_with fail
  clear ka0_0 ka0_1 ka0_2 ka0_3 ka0_4 ka0_5 ka0_6 ka0_7 ka0_8 ka0_9 ka0_10 ka0_11 ka0_12 ka0_13 ka1_0 ka1_1 ka1_2 ka1_3 ka1_4 ka1_5 ka1_6 ka1_7 ka1_8 ka1_9 ka1_10 ka1_11 ka1_12 ka1_13
  refine (szGame_any _ z1 r0 _ (h1.below B) (by omega) (by omega)).mono ?_
  rintro e w3 ⟨⟨r1, rfl, rn1, rm1, hr1⟩, bw3⟩
  replace ga0 := (bw3.block _ la0).trans ga0
  replace la0 := Nat.lt_of_lt_of_le la0 bw3.size
  replace ga1 := (bw3.block _ la1).trans ga1
  replace la1 := Nat.lt_of_lt_of_le la1 bw3.size
  have qw3 := bw3.size
  replace B := B.trans (bw3.mono B.size)
  clear bw3
  by_cases hneg1 : r1 < 0
  · go_wp2_with fail
    go_ret
    exact ⟨rfl, B⟩
  have hl1 : z1.Few := hr1 (by omega)
  clear hr1
  have HB := Lib.hid B
  have HT0 := Lib.hid (fun wx (hb : Below w.heap.size w wx) => toGame_any _ z0 wx (h0.below hb) hl0)
  have HT1 := Lib.hid (fun wx (hb : Below w.heap.size w wx) => toGame_any _ z1 wx (h1.below hb) hl1)
  have HG : Hid (∀ wx, Below w3.heap.size w3 wx → wx.cell? ⟨w.heap.size, 0, none⟩ = some (.int .i64 z0.rules.players) ∧ wx.cell? ⟨w.heap.size, 1, none⟩ = some (.int .i64 z0.rules.each) ∧ wx.cell? ⟨w.heap.size, 2, none⟩ = some (.bool z0.rules.sameSuit) ∧ wx.cell? ⟨w.heap.size, 3, none⟩ = some (.bool z0.rules.sameRank) ∧ wx.cell? ⟨w.heap.size, 4, none⟩ = some (.slice p0_4 z0.rules.wild.length c0_4) ∧ wx.cell? ⟨w.heap.size, 5, none⟩ = some (.slice p0_5 z0.rules.skip.length c0_5) ∧ wx.cell? ⟨w.heap.size, 6, none⟩ = some (.int .i64 z0.rules.take) ∧ wx.cell? ⟨w.heap.size, 7, none⟩ = some (.int .i64 z0.rules.limit) ∧ wx.cell? ⟨w.heap.size, 8, none⟩ = some (.slice p0_8 z0.hands.length c0_8) ∧ wx.cell? ⟨w.heap.size, 9, none⟩ = some (.slice p0_9 z0.stock.length c0_9) ∧ wx.cell? ⟨w.heap.size, 10, none⟩ = some (.slice p0_10 z0.heap.length c0_10) ∧ wx.cell? ⟨w.heap.size, 11, none⟩ = some (.int .i64 z0.turn) ∧ wx.cell? ⟨w.heap.size, 12, none⟩ = some (.int .i64 z0.moves) ∧ wx.cell? ⟨w.heap.size, 13, none⟩ = some (.int .i64 z0.passes) ∧ wx.cell? ⟨w.heap.size + 1, 0, none⟩ = some (.int .i64 z1.rules.players) ∧ wx.cell? ⟨w.heap.size + 1, 1, none⟩ = some (.int .i64 z1.rules.each) ∧ wx.cell? ⟨w.heap.size + 1, 2, none⟩ = some (.bool z1.rules.sameSuit) ∧ wx.cell? ⟨w.heap.size + 1, 3, none⟩ = some (.bool z1.rules.sameRank) ∧ wx.cell? ⟨w.heap.size + 1, 4, none⟩ = some (.slice p1_4 z1.rules.wild.length c1_4) ∧ wx.cell? ⟨w.heap.size + 1, 5, none⟩ = some (.slice p1_5 z1.rules.skip.length c1_5) ∧ wx.cell? ⟨w.heap.size + 1, 6, none⟩ = some (.int .i64 z1.rules.take) ∧ wx.cell? ⟨w.heap.size + 1, 7, none⟩ = some (.int .i64 z1.rules.limit) ∧ wx.cell? ⟨w.heap.size + 1, 8, none⟩ = some (.slice p1_8 z1.hands.length c1_8) ∧ wx.cell? ⟨w.heap.size + 1, 9, none⟩ = some (.slice p1_9 z1.stock.length c1_9) ∧ wx.cell? ⟨w.heap.size + 1, 10, none⟩ = some (.slice p1_10 z1.heap.length c1_10) ∧ wx.cell? ⟨w.heap.size + 1, 11, none⟩ = some (.int .i64 z1.turn) ∧ wx.cell? ⟨w.heap.size + 1, 12, none⟩ = some (.int .i64 z1.moves) ∧ wx.cell? ⟨w.heap.size + 1, 13, none⟩ = some (.int .i64 z1.passes)) := Lib.hid (fun wx hb => by
    obtain ⟨ua0_0, ua0_1, ua0_2, ua0_3, ua0_4, ua0_5, ua0_6, ua0_7, ua0_8, ua0_9, ua0_10, ua0_11, ua0_12, ua0_13⟩ := SGame_cells ((hb.block _ la0).trans ga0)
    obtain ⟨ua1_0, ua1_1, ua1_2, ua1_3, ua1_4, ua1_5, ua1_6, ua1_7, ua1_8, ua1_9, ua1_10, ua1_11, ua1_12, ua1_13⟩ := SGame_cells ((hb.block _ la1).trans ga1)
    exact ⟨ua0_0, ua0_1, ua0_2, ua0_3, ua0_4, ua0_5, ua0_6, ua0_7, ua0_8, ua0_9, ua0_10, ua0_11, ua0_12, ua0_13, ua1_0, ua1_1, ua1_2, ua1_3, ua1_4, ua1_5, ua1_6, ua1_7, ua1_8, ua1_9, ua1_10, ua1_11, ua1_12, ua1_13⟩)
  obtain ⟨ka0_0, ka0_1, ka0_2, ka0_3, ka0_4, ka0_5, ka0_6, ka0_7, ka0_8, ka0_9, ka0_10, ka0_11, ka0_12, ka0_13⟩ := SGame_cells ga0
  obtain ⟨ka1_0, ka1_1, ka1_2, ka1_3, ka1_4, ka1_5, ka1_6, ka1_7, ka1_8, ka1_9, ka1_10, ka1_11, ka1_12, ka1_13⟩ := SGame_cells ga1
  go_wp2_with fail
  clear B
  go_region_held3 (fun w' => w'.cell? ⟨w.heap.size, 0, none⟩ = some (.int .i64 z0.rules.players) ∧ w'.cell? ⟨w.heap.size, 1, none⟩ = some (.int .i64 z0.rules.each) ∧ w'.cell? ⟨w.heap.size, 2, none⟩ = some (.bool z0.rules.sameSuit) ∧ w'.cell? ⟨w.heap.size, 3, none⟩ = some (.bool z0.rules.sameRank) ∧ w'.cell? ⟨w.heap.size, 4, none⟩ = some (.slice p0_4 z0.rules.wild.length c0_4) ∧ w'.cell? ⟨w.heap.size, 5, none⟩ = some (.slice p0_5 z0.rules.skip.length c0_5) ∧ w'.cell? ⟨w.heap.size, 6, none⟩ = some (.int .i64 z0.rules.take) ∧ w'.cell? ⟨w.heap.size, 7, none⟩ = some (.int .i64 z0.rules.limit) ∧ w'.cell? ⟨w.heap.size, 8, none⟩ = some (.slice p0_8 z0.hands.length c0_8) ∧ w'.cell? ⟨w.heap.size, 9, none⟩ = some (.slice p0_9 z0.stock.length c0_9) ∧ w'.cell? ⟨w.heap.size, 10, none⟩ = some (.slice p0_10 z0.heap.length c0_10) ∧ w'.cell? ⟨w.heap.size, 11, none⟩ = some (.int .i64 z0.turn) ∧ w'.cell? ⟨w.heap.size, 12, none⟩ = some (.int .i64 z0.moves) ∧ w'.cell? ⟨w.heap.size, 13, none⟩ = some (.int .i64 z0.passes) ∧ w'.cell? ⟨w.heap.size + 1, 0, none⟩ = some (.int .i64 z1.rules.players) ∧ w'.cell? ⟨w.heap.size + 1, 1, none⟩ = some (.int .i64 z1.rules.each) ∧ w'.cell? ⟨w.heap.size + 1, 2, none⟩ = some (.bool z1.rules.sameSuit) ∧ w'.cell? ⟨w.heap.size + 1, 3, none⟩ = some (.bool z1.rules.sameRank) ∧ w'.cell? ⟨w.heap.size + 1, 4, none⟩ = some (.slice p1_4 z1.rules.wild.length c1_4) ∧ w'.cell? ⟨w.heap.size + 1, 5, none⟩ = some (.slice p1_5 z1.rules.skip.length c1_5) ∧ w'.cell? ⟨w.heap.size + 1, 6, none⟩ = some (.int .i64 z1.rules.take) ∧ w'.cell? ⟨w.heap.size + 1, 7, none⟩ = some (.int .i64 z1.rules.limit) ∧ w'.cell? ⟨w.heap.size + 1, 8, none⟩ = some (.slice p1_8 z1.hands.length c1_8) ∧ w'.cell? ⟨w.heap.size + 1, 9, none⟩ = some (.slice p1_9 z1.stock.length c1_9) ∧ w'.cell? ⟨w.heap.size + 1, 10, none⟩ = some (.slice p1_10 z1.heap.length c1_10) ∧ w'.cell? ⟨w.heap.size + 1, 11, none⟩ = some (.int .i64 z1.turn) ∧ w'.cell? ⟨w.heap.size + 1, 12, none⟩ = some (.int .i64 z1.moves) ∧ w'.cell? ⟨w.heap.size + 1, 13, none⟩ = some (.int .i64 z1.passes)) (go_keep) (first
    | (go_at_call 12; (with_reducible refine (HT0.out _ HB.out.drew).mono ?_); rintro e wu0 ⟨m0v, rfl, m0, Bu0⟩; obtain ⟨ya0_0, ya0_1, ya0_2, ya0_3, ya0_4, ya0_5, ya0_6, ya0_7, ya0_8, ya0_9, ya0_10, ya0_11, ya0_12, ya0_13, ya1_0, ya1_1, ya1_2, ya1_3, ya1_4, ya1_5, ya1_6, ya1_7, ya1_8, ya1_9, ya1_10, ya1_11, ya1_12, ya1_13⟩ := HG.out wu0 ((Below.refl _ _).drew.trans Bu0))
    | (go_at_call 12; (with_reducible refine (HT1.out _ (HB.out.drew.trans (Bu0.mono HB.out.drew.size))).mono ?_); rintro e wu1 ⟨m1v, rfl, m1, Bu1⟩; obtain ⟨za0_0, za0_1, za0_2, za0_3, za0_4, za0_5, za0_6, za0_7, za0_8, za0_9, za0_10, za0_11, za0_12, za0_13, za1_0, za1_1, za1_2, za1_3, za1_4, za1_5, za1_6, za1_7, za1_8, za1_9, za1_10, za1_11, za1_12, za1_13⟩ := HG.out wu1 (((Below.refl _ _).drew.trans Bu0).trans (Bu1.mono Bu0.size)))
    | (go_at_call 21; refine (sEqualGames_any _ _ z0 z1 _ (m0.below Bu1) m1 hl0 hl1 _ rfl).mono ?_; rintro e wu2 ⟨rfl, Bu2⟩; obtain ⟨va0_0, va0_1, va0_2, va0_3, va0_4, va0_5, va0_6, va0_7, va0_8, va0_9, va0_10, va0_11, va0_12, va0_13, va1_0, va1_1, va1_2, va1_3, va1_4, va1_5, va1_6, va1_7, va1_8, va1_9, va1_10, va1_11, va1_12, va1_13⟩ := HG.out wu2 ((((Below.refl _ _).drew.trans Bu0).trans (Bu1.mono Bu0.size)).trans (Bu2.mono (Nat.le_trans Bu0.size Bu1.size)))))
  all_goals
    have Bc : Below w3.heap.size w3 wu2 := ((((Below.refl _ _).drew.trans Bu0).trans (Bu1.mono Bu0.size)).trans (Bu2.mono (Nat.le_trans Bu0.size Bu1.size)))
    have B := HB.out
    clear ka0_0 ka0_1 ka0_2 ka0_3 ka0_4 ka0_5 ka0_6 ka0_7 ka0_8 ka0_9 ka0_10 ka0_11 ka0_12 ka0_13 ka1_0 ka1_1 ka1_2 ka1_3 ka1_4 ka1_5 ka1_6 ka1_7 ka1_8 ka1_9 ka1_10 ka1_11 ka1_12 ka1_13 ya0_0 ya0_1 ya0_2 ya0_3 ya0_4 ya0_5 ya0_6 ya0_7 ya0_8 ya0_9 ya0_10 ya0_11 ya0_12 ya0_13 ya1_0 ya1_1 ya1_2 ya1_3 ya1_4 ya1_5 ya1_6 ya1_7 ya1_8 ya1_9 ya1_10 ya1_11 ya1_12 ya1_13 za0_0 za0_1 za0_2 za0_3 za0_4 za0_5 za0_6 za0_7 za0_8 za0_9 za0_10 za0_11 za0_12 za0_13 za1_0 za1_1 za1_2 za1_3 za1_4 za1_5 za1_6 za1_7 za1_8 za1_9 za1_10 za1_11 za1_12 za1_13 va0_0 va0_1 va0_2 va0_3 va0_4 va0_5 va0_6 va0_7 va0_8 va0_9 va0_10 va0_11 va0_12 va0_13 va1_0 va1_1 va1_2 va1_3 va1_4 va1_5 va1_6 va1_7 va1_8 va1_9 va1_10 va1_11 va1_12 va1_13 Bu0 Bu1 Bu2 m0 m1 HT0 HT1 HG HB
    replace ga0 := (Bc.block _ la0).trans ga0
    replace la0 := Nat.lt_of_lt_of_le la0 Bc.size
    replace ga1 := (Bc.block _ la1).trans ga1
    replace la1 := Nat.lt_of_lt_of_le la1 Bc.size
    have qwu2 := Bc.size
    replace B := B.trans (Bc.mono B.size)
    clear Bc
    obtain ⟨ka0_0, ka0_1, ka0_2, ka0_3, ka0_4, ka0_5, ka0_6, ka0_7, ka0_8, ka0_9, ka0_10, ka0_11, ka0_12, ka0_13⟩ := SGame_cells ga0
    obtain ⟨ka1_0, ka1_1, ka1_2, ka1_3, ka1_4, ka1_5, ka1_6, ka1_7, ka1_8, ka1_9, ka1_10, ka1_11, ka1_12, ka1_13⟩ := SGame_cells ga1
    go_wp2_with fail
    clear ka0_0 ka0_1 ka0_2 ka0_3 ka0_4 ka0_5 ka0_6 ka0_7 ka0_8 ka0_9 ka0_10 ka0_11 ka0_12 ka0_13 ka1_0 ka1_1 ka1_2 ka1_3 ka1_4 ka1_5 ka1_6 ka1_7 ka1_8 ka1_9 ka1_10 ka1_11 ka1_12 ka1_13
    refine (toGame_any _ z0 _ (h0.below B) hl0).mono ?_
    rintro e w5 ⟨x0v, rfl, x0, bw5⟩
    replace ga0 := (bw5.block _ la0).trans ga0
    replace la0 := Nat.lt_of_lt_of_le la0 bw5.size
    replace ga1 := (bw5.block _ la1).trans ga1
    replace la1 := Nat.lt_of_lt_of_le la1 bw5.size
    have qw5 := bw5.size
    replace B := B.trans (bw5.mono B.size)
    clear bw5
    obtain ⟨px0_4, px0_5, px0_8, px0_9, px0_10, cx0_4, cx0_5, cx0_8, cx0_9, cx0_10, ex0⟩ := x0.shape
    subst ex0
    obtain ⟨ka0_0, ka0_1, ka0_2, ka0_3, ka0_4, ka0_5, ka0_6, ka0_7, ka0_8, ka0_9, ka0_10, ka0_11, ka0_12, ka0_13⟩ := SGame_cells ga0
    obtain ⟨ka1_0, ka1_1, ka1_2, ka1_3, ka1_4, ka1_5, ka1_6, ka1_7, ka1_8, ka1_9, ka1_10, ka1_11, ka1_12, ka1_13⟩ := SGame_cells ga1
    go_wp2_with fail
    clear ka0_0 ka0_1 ka0_2 ka0_3 ka0_4 ka0_5 ka0_6 ka0_7 ka0_8 ka0_9 ka0_10 ka0_11 ka0_12 ka0_13 ka1_0 ka1_1 ka1_2 ka1_3 ka1_4 ka1_5 ka1_6 ka1_7 ka1_8 ka1_9 ka1_10 ka1_11 ka1_12 ka1_13
    have gx0 := heap_alloc_new w5 (.cells #[.int .i64 z0.rules.players, .int .i64 z0.rules.each, .bool z0.rules.sameSuit, .bool z0.rules.sameRank, .slice px0_4 z0.rules.wild.length cx0_4, .slice px0_5 z0.rules.skip.length cx0_5, .int .i64 z0.rules.take, .int .i64 z0.rules.limit, .slice px0_8 z0.hands.length cx0_8, .slice px0_9 z0.stock.length cx0_9, .slice px0_10 z0.heap.length cx0_10, .int .i64 z0.turn, .int .i64 z0.moves, .int .i64 z0.passes] 32)
    have bw6 := (Below.refl w5.heap.size w5).alloc (Nat.le_refl _) (.cells #[.int .i64 z0.rules.players, .int .i64 z0.rules.each, .bool z0.rules.sameSuit, .bool z0.rules.sameRank, .slice px0_4 z0.rules.wild.length cx0_4, .slice px0_5 z0.rules.skip.length cx0_5, .int .i64 z0.rules.take, .int .i64 z0.rules.limit, .slice px0_8 z0.hands.length cx0_8, .slice px0_9 z0.stock.length cx0_9, .slice px0_10 z0.heap.length cx0_10, .int .i64 z0.turn, .int .i64 z0.moves, .int .i64 z0.passes] 32)
    have lx0 : w5.heap.size < (w5.alloc (.cells #[.int .i64 z0.rules.players, .int .i64 z0.rules.each, .bool z0.rules.sameSuit, .bool z0.rules.sameRank, .slice px0_4 z0.rules.wild.length cx0_4, .slice px0_5 z0.rules.skip.length cx0_5, .int .i64 z0.rules.take, .int .i64 z0.rules.limit, .slice px0_8 z0.hands.length cx0_8, .slice px0_9 z0.stock.length cx0_9, .slice px0_10 z0.heap.length cx0_10, .int .i64 z0.turn, .int .i64 z0.moves, .int .i64 z0.passes] 32)).heap.size := by simp
    generalize w5.alloc (.cells #[.int .i64 z0.rules.players, .int .i64 z0.rules.each, .bool z0.rules.sameSuit, .bool z0.rules.sameRank, .slice px0_4 z0.rules.wild.length cx0_4, .slice px0_5 z0.rules.skip.length cx0_5, .int .i64 z0.rules.take, .int .i64 z0.rules.limit, .slice px0_8 z0.hands.length cx0_8, .slice px0_9 z0.stock.length cx0_9, .slice px0_10 z0.heap.length cx0_10, .int .i64 z0.turn, .int .i64 z0.moves, .int .i64 z0.passes] 32) = w6 at *
    have qbxx0 := lx0
    replace ga0 := (bw6.block _ la0).trans ga0
    replace la0 := Nat.lt_of_lt_of_le la0 bw6.size
    replace ga1 := (bw6.block _ la1).trans ga1
    replace la1 := Nat.lt_of_lt_of_le la1 bw6.size
    replace x0 := x0.below bw6
    have qw6 := bw6.size
    replace B := B.trans (bw6.mono B.size)
    clear bw6
    refine (toGame_any _ z1 _ (h1.below B) hl1).mono ?_
    rintro e w7 ⟨x1v, rfl, x1, bw7⟩
    replace ga0 := (bw7.block _ la0).trans ga0
    replace la0 := Nat.lt_of_lt_of_le la0 bw7.size
    replace ga1 := (bw7.block _ la1).trans ga1
    replace la1 := Nat.lt_of_lt_of_le la1 bw7.size
    replace gx0 := (bw7.block _ lx0).trans gx0
    replace lx0 := Nat.lt_of_lt_of_le lx0 bw7.size
    replace x0 := x0.below bw7
    have qw7 := bw7.size
    replace B := B.trans (bw7.mono B.size)
    clear bw7
    obtain ⟨px1_4, px1_5, px1_8, px1_9, px1_10, cx1_4, cx1_5, cx1_8, cx1_9, cx1_10, ex1⟩ := x1.shape
    subst ex1
    obtain ⟨ka0_0, ka0_1, ka0_2, ka0_3, ka0_4, ka0_5, ka0_6, ka0_7, ka0_8, ka0_9, ka0_10, ka0_11, ka0_12, ka0_13⟩ := SGame_cells ga0
    obtain ⟨ka1_0, ka1_1, ka1_2, ka1_3, ka1_4, ka1_5, ka1_6, ka1_7, ka1_8, ka1_9, ka1_10, ka1_11, ka1_12, ka1_13⟩ := SGame_cells ga1
    obtain ⟨kx0_0, kx0_1, kx0_2, kx0_3, kx0_4, kx0_5, kx0_6, kx0_7, kx0_8, kx0_9, kx0_10, kx0_11, kx0_12, kx0_13⟩ := SGame_cells gx0
    go_wp2_with fail
    clear ka0_0 ka0_1 ka0_2 ka0_3 ka0_4 ka0_5 ka0_6 ka0_7 ka0_8 ka0_9 ka0_10 ka0_11 ka0_12 ka0_13 ka1_0 ka1_1 ka1_2 ka1_3 ka1_4 ka1_5 ka1_6 ka1_7 ka1_8 ka1_9 ka1_10 ka1_11 ka1_12 ka1_13 kx0_0 kx0_1 kx0_2 kx0_3 kx0_4 kx0_5 kx0_6 kx0_7 kx0_8 kx0_9 kx0_10 kx0_11 kx0_12 kx0_13
    have gx1 := heap_alloc_new w7 (.cells #[.int .i64 z1.rules.players, .int .i64 z1.rules.each, .bool z1.rules.sameSuit, .bool z1.rules.sameRank, .slice px1_4 z1.rules.wild.length cx1_4, .slice px1_5 z1.rules.skip.length cx1_5, .int .i64 z1.rules.take, .int .i64 z1.rules.limit, .slice px1_8 z1.hands.length cx1_8, .slice px1_9 z1.stock.length cx1_9, .slice px1_10 z1.heap.length cx1_10, .int .i64 z1.turn, .int .i64 z1.moves, .int .i64 z1.passes] 32)
    have bw8 := (Below.refl w7.heap.size w7).alloc (Nat.le_refl _) (.cells #[.int .i64 z1.rules.players, .int .i64 z1.rules.each, .bool z1.rules.sameSuit, .bool z1.rules.sameRank, .slice px1_4 z1.rules.wild.length cx1_4, .slice px1_5 z1.rules.skip.length cx1_5, .int .i64 z1.rules.take, .int .i64 z1.rules.limit, .slice px1_8 z1.hands.length cx1_8, .slice px1_9 z1.stock.length cx1_9, .slice px1_10 z1.heap.length cx1_10, .int .i64 z1.turn, .int .i64 z1.moves, .int .i64 z1.passes] 32)
    have lx1 : w7.heap.size < (w7.alloc (.cells #[.int .i64 z1.rules.players, .int .i64 z1.rules.each, .bool z1.rules.sameSuit, .bool z1.rules.sameRank, .slice px1_4 z1.rules.wild.length cx1_4, .slice px1_5 z1.rules.skip.length cx1_5, .int .i64 z1.rules.take, .int .i64 z1.rules.limit, .slice px1_8 z1.hands.length cx1_8, .slice px1_9 z1.stock.length cx1_9, .slice px1_10 z1.heap.length cx1_10, .int .i64 z1.turn, .int .i64 z1.moves, .int .i64 z1.passes] 32)).heap.size := by simp
    generalize w7.alloc (.cells #[.int .i64 z1.rules.players, .int .i64 z1.rules.each, .bool z1.rules.sameSuit, .bool z1.rules.sameRank, .slice px1_4 z1.rules.wild.length cx1_4, .slice px1_5 z1.rules.skip.length cx1_5, .int .i64 z1.rules.take, .int .i64 z1.rules.limit, .slice px1_8 z1.hands.length cx1_8, .slice px1_9 z1.stock.length cx1_9, .slice px1_10 z1.heap.length cx1_10, .int .i64 z1.turn, .int .i64 z1.moves, .int .i64 z1.passes] 32) = w8 at *
    have qbxx1 := lx1
    replace ga0 := (bw8.block _ la0).trans ga0
    replace la0 := Nat.lt_of_lt_of_le la0 bw8.size
    replace ga1 := (bw8.block _ la1).trans ga1
    replace la1 := Nat.lt_of_lt_of_le la1 bw8.size
    replace gx0 := (bw8.block _ lx0).trans gx0
    replace lx0 := Nat.lt_of_lt_of_le lx0 bw8.size
    replace x0 := x0.below bw8
    replace x1 := x1.below bw8
    have qw8 := bw8.size
    replace B := B.trans (bw8.mono B.size)
    clear bw8
    refine (eqGames_any _ _ z0 z1 _ x0 x1 hl0 hl1 _ rfl).mono ?_
    rintro e w9 ⟨rfl, bw9⟩
    replace ga0 := (bw9.block _ la0).trans ga0
    replace la0 := Nat.lt_of_lt_of_le la0 bw9.size
    replace ga1 := (bw9.block _ la1).trans ga1
    replace la1 := Nat.lt_of_lt_of_le la1 bw9.size
    replace gx0 := (bw9.block _ lx0).trans gx0
    replace lx0 := Nat.lt_of_lt_of_le lx0 bw9.size
    replace gx1 := (bw9.block _ lx1).trans gx1
    replace lx1 := Nat.lt_of_lt_of_le lx1 bw9.size
    replace x0 := x0.below bw9
    replace x1 := x1.below bw9
    have qw9 := bw9.size
    replace B := B.trans (bw9.mono B.size)
    clear bw9
    have HB := Lib.hid B
    have HTo := Lib.hid (fun wx (hb : Below w.heap.size w wx) => toGame_any _ z0 wx (h0.below hb) hl0)
    have HX := Lib.hid (fun wx (hb : Below w9.heap.size w9 wx) => x0.below hb)
    have HG : Hid (∀ wx, Below w9.heap.size w9 wx → wx.cell? ⟨w.heap.size, 0, none⟩ = some (.int .i64 z0.rules.players) ∧ wx.cell? ⟨w.heap.size, 1, none⟩ = some (.int .i64 z0.rules.each) ∧ wx.cell? ⟨w.heap.size, 2, none⟩ = some (.bool z0.rules.sameSuit) ∧ wx.cell? ⟨w.heap.size, 3, none⟩ = some (.bool z0.rules.sameRank) ∧ wx.cell? ⟨w.heap.size, 4, none⟩ = some (.slice p0_4 z0.rules.wild.length c0_4) ∧ wx.cell? ⟨w.heap.size, 5, none⟩ = some (.slice p0_5 z0.rules.skip.length c0_5) ∧ wx.cell? ⟨w.heap.size, 6, none⟩ = some (.int .i64 z0.rules.take) ∧ wx.cell? ⟨w.heap.size, 7, none⟩ = some (.int .i64 z0.rules.limit) ∧ wx.cell? ⟨w.heap.size, 8, none⟩ = some (.slice p0_8 z0.hands.length c0_8) ∧ wx.cell? ⟨w.heap.size, 9, none⟩ = some (.slice p0_9 z0.stock.length c0_9) ∧ wx.cell? ⟨w.heap.size, 10, none⟩ = some (.slice p0_10 z0.heap.length c0_10) ∧ wx.cell? ⟨w.heap.size, 11, none⟩ = some (.int .i64 z0.turn) ∧ wx.cell? ⟨w.heap.size, 12, none⟩ = some (.int .i64 z0.moves) ∧ wx.cell? ⟨w.heap.size, 13, none⟩ = some (.int .i64 z0.passes) ∧ wx.cell? ⟨w5.heap.size, 0, none⟩ = some (.int .i64 z0.rules.players) ∧ wx.cell? ⟨w5.heap.size, 1, none⟩ = some (.int .i64 z0.rules.each) ∧ wx.cell? ⟨w5.heap.size, 2, none⟩ = some (.bool z0.rules.sameSuit) ∧ wx.cell? ⟨w5.heap.size, 3, none⟩ = some (.bool z0.rules.sameRank) ∧ wx.cell? ⟨w5.heap.size, 4, none⟩ = some (.slice px0_4 z0.rules.wild.length cx0_4) ∧ wx.cell? ⟨w5.heap.size, 5, none⟩ = some (.slice px0_5 z0.rules.skip.length cx0_5) ∧ wx.cell? ⟨w5.heap.size, 6, none⟩ = some (.int .i64 z0.rules.take) ∧ wx.cell? ⟨w5.heap.size, 7, none⟩ = some (.int .i64 z0.rules.limit) ∧ wx.cell? ⟨w5.heap.size, 8, none⟩ = some (.slice px0_8 z0.hands.length cx0_8) ∧ wx.cell? ⟨w5.heap.size, 9, none⟩ = some (.slice px0_9 z0.stock.length cx0_9) ∧ wx.cell? ⟨w5.heap.size, 10, none⟩ = some (.slice px0_10 z0.heap.length cx0_10) ∧ wx.cell? ⟨w5.heap.size, 11, none⟩ = some (.int .i64 z0.turn) ∧ wx.cell? ⟨w5.heap.size, 12, none⟩ = some (.int .i64 z0.moves) ∧ wx.cell? ⟨w5.heap.size, 13, none⟩ = some (.int .i64 z0.passes)) := Lib.hid (fun wx hb => by
      obtain ⟨ua0_0, ua0_1, ua0_2, ua0_3, ua0_4, ua0_5, ua0_6, ua0_7, ua0_8, ua0_9, ua0_10, ua0_11, ua0_12, ua0_13⟩ := SGame_cells ((hb.block _ la0).trans ga0)
      obtain ⟨ux0_0, ux0_1, ux0_2, ux0_3, ux0_4, ux0_5, ux0_6, ux0_7, ux0_8, ux0_9, ux0_10, ux0_11, ux0_12, ux0_13⟩ := SGame_cells ((hb.block _ lx0).trans gx0)
      exact ⟨ua0_0, ua0_1, ua0_2, ua0_3, ua0_4, ua0_5, ua0_6, ua0_7, ua0_8, ua0_9, ua0_10, ua0_11, ua0_12, ua0_13, ux0_0, ux0_1, ux0_2, ux0_3, ux0_4, ux0_5, ux0_6, ux0_7, ux0_8, ux0_9, ux0_10, ux0_11, ux0_12, ux0_13⟩)
    obtain ⟨ka0_0, ka0_1, ka0_2, ka0_3, ka0_4, ka0_5, ka0_6, ka0_7, ka0_8, ka0_9, ka0_10, ka0_11, ka0_12, ka0_13⟩ := SGame_cells ga0
    obtain ⟨ka1_0, ka1_1, ka1_2, ka1_3, ka1_4, ka1_5, ka1_6, ka1_7, ka1_8, ka1_9, ka1_10, ka1_11, ka1_12, ka1_13⟩ := SGame_cells ga1
    obtain ⟨kx0_0, kx0_1, kx0_2, kx0_3, kx0_4, kx0_5, kx0_6, kx0_7, kx0_8, kx0_9, kx0_10, kx0_11, kx0_12, kx0_13⟩ := SGame_cells gx0
    obtain ⟨kx1_0, kx1_1, kx1_2, kx1_3, kx1_4, kx1_5, kx1_6, kx1_7, kx1_8, kx1_9, kx1_10, kx1_11, kx1_12, kx1_13⟩ := SGame_cells gx1
    go_wp2_with fail
    clear B x0
    go_region_held3 (fun w' => w'.cell? ⟨w.heap.size, 0, none⟩ = some (.int .i64 z0.rules.players) ∧ w'.cell? ⟨w.heap.size, 1, none⟩ = some (.int .i64 z0.rules.each) ∧ w'.cell? ⟨w.heap.size, 2, none⟩ = some (.bool z0.rules.sameSuit) ∧ w'.cell? ⟨w.heap.size, 3, none⟩ = some (.bool z0.rules.sameRank) ∧ w'.cell? ⟨w.heap.size, 4, none⟩ = some (.slice p0_4 z0.rules.wild.length c0_4) ∧ w'.cell? ⟨w.heap.size, 5, none⟩ = some (.slice p0_5 z0.rules.skip.length c0_5) ∧ w'.cell? ⟨w.heap.size, 6, none⟩ = some (.int .i64 z0.rules.take) ∧ w'.cell? ⟨w.heap.size, 7, none⟩ = some (.int .i64 z0.rules.limit) ∧ w'.cell? ⟨w.heap.size, 8, none⟩ = some (.slice p0_8 z0.hands.length c0_8) ∧ w'.cell? ⟨w.heap.size, 9, none⟩ = some (.slice p0_9 z0.stock.length c0_9) ∧ w'.cell? ⟨w.heap.size, 10, none⟩ = some (.slice p0_10 z0.heap.length c0_10) ∧ w'.cell? ⟨w.heap.size, 11, none⟩ = some (.int .i64 z0.turn) ∧ w'.cell? ⟨w.heap.size, 12, none⟩ = some (.int .i64 z0.moves) ∧ w'.cell? ⟨w.heap.size, 13, none⟩ = some (.int .i64 z0.passes) ∧ w'.cell? ⟨w5.heap.size, 0, none⟩ = some (.int .i64 z0.rules.players) ∧ w'.cell? ⟨w5.heap.size, 1, none⟩ = some (.int .i64 z0.rules.each) ∧ w'.cell? ⟨w5.heap.size, 2, none⟩ = some (.bool z0.rules.sameSuit) ∧ w'.cell? ⟨w5.heap.size, 3, none⟩ = some (.bool z0.rules.sameRank) ∧ w'.cell? ⟨w5.heap.size, 4, none⟩ = some (.slice px0_4 z0.rules.wild.length cx0_4) ∧ w'.cell? ⟨w5.heap.size, 5, none⟩ = some (.slice px0_5 z0.rules.skip.length cx0_5) ∧ w'.cell? ⟨w5.heap.size, 6, none⟩ = some (.int .i64 z0.rules.take) ∧ w'.cell? ⟨w5.heap.size, 7, none⟩ = some (.int .i64 z0.rules.limit) ∧ w'.cell? ⟨w5.heap.size, 8, none⟩ = some (.slice px0_8 z0.hands.length cx0_8) ∧ w'.cell? ⟨w5.heap.size, 9, none⟩ = some (.slice px0_9 z0.stock.length cx0_9) ∧ w'.cell? ⟨w5.heap.size, 10, none⟩ = some (.slice px0_10 z0.heap.length cx0_10) ∧ w'.cell? ⟨w5.heap.size, 11, none⟩ = some (.int .i64 z0.turn) ∧ w'.cell? ⟨w5.heap.size, 12, none⟩ = some (.int .i64 z0.moves) ∧ w'.cell? ⟨w5.heap.size, 13, none⟩ = some (.int .i64 z0.passes)) (go_keep) (first
      | (go_at_call 12; refine (HTo.out _ HB.out.drew).mono ?_; rintro e wy0 ⟨yv, rfl, hy, By⟩; obtain ⟨ya0_0, ya0_1, ya0_2, ya0_3, ya0_4, ya0_5, ya0_6, ya0_7, ya0_8, ya0_9, ya0_10, ya0_11, ya0_12, ya0_13, yx0_0, yx0_1, yx0_2, yx0_3, yx0_4, yx0_5, yx0_6, yx0_7, yx0_8, yx0_9, yx0_10, yx0_11, yx0_12, yx0_13⟩ := HG.out wy0 ((Below.refl _ _).drew.trans By))
      | (go_at_call 15; refine (eqGame_t _ _ z0 _ (HX.out _ ((Below.refl _ _).drew.trans By)) hy hl0).mono ?_; rintro e wz0 ⟨rfl, Bz⟩; obtain ⟨zya0_0, zya0_1, zya0_2, zya0_3, zya0_4, zya0_5, zya0_6, zya0_7, zya0_8, zya0_9, zya0_10, zya0_11, zya0_12, zya0_13, zyx0_0, zyx0_1, zyx0_2, zyx0_3, zyx0_4, zyx0_5, zyx0_6, zyx0_7, zyx0_8, zyx0_9, zyx0_10, zyx0_11, zyx0_12, zyx0_13⟩ := HG.out wz0 (((Below.refl _ _).drew.trans By).trans (Bz.mono By.size))))
    all_goals
      have B := HB.out.drew.trans (By.mono HB.out.drew.size)
      have Bc : Below w9.heap.size w9 wz0 := ((Below.refl _ _).drew.trans By).trans (Bz.mono By.size)
      replace B := B.trans (Bz.mono B.size)
      clear ka0_0 ka0_1 ka0_2 ka0_3 ka0_4 ka0_5 ka0_6 ka0_7 ka0_8 ka0_9 ka0_10 ka0_11 ka0_12 ka0_13 ka1_0 ka1_1 ka1_2 ka1_3 ka1_4 ka1_5 ka1_6 ka1_7 ka1_8 ka1_9 ka1_10 ka1_11 ka1_12 ka1_13 kx0_0 kx0_1 kx0_2 kx0_3 kx0_4 kx0_5 kx0_6 kx0_7 kx0_8 kx0_9 kx0_10 kx0_11 kx0_12 kx0_13 kx1_0 kx1_1 kx1_2 kx1_3 kx1_4 kx1_5 kx1_6 kx1_7 kx1_8 kx1_9 kx1_10 kx1_11 kx1_12 kx1_13 By Bz HTo HG HB hy ya0_0 ya0_1 ya0_2 ya0_3 ya0_4 ya0_5 ya0_6 ya0_7 ya0_8 ya0_9 ya0_10 ya0_11 ya0_12 ya0_13 yx0_0 yx0_1 yx0_2 yx0_3 yx0_4 yx0_5 yx0_6 yx0_7 yx0_8 yx0_9 yx0_10 yx0_11 yx0_12 yx0_13 zya0_0 zya0_1 zya0_2 zya0_3 zya0_4 zya0_5 zya0_6 zya0_7 zya0_8 zya0_9 zya0_10 zya0_11 zya0_12 zya0_13 zyx0_0 zyx0_1 zyx0_2 zyx0_3 zyx0_4 zyx0_5 zyx0_6 zyx0_7 zyx0_8 zyx0_9 zyx0_10 zyx0_11 zyx0_12 zyx0_13
      have x0 := HX.out _ Bc
      clear HX
      replace x1 := x1.below Bc
      replace ga0 := (Bc.block _ la0).trans ga0
      replace la0 := Nat.lt_of_lt_of_le la0 Bc.size
      replace ga1 := (Bc.block _ la1).trans ga1
      replace la1 := Nat.lt_of_lt_of_le la1 Bc.size
      replace gx0 := (Bc.block _ lx0).trans gx0
      replace lx0 := Nat.lt_of_lt_of_le lx0 Bc.size
      replace gx1 := (Bc.block _ lx1).trans gx1
      replace lx1 := Nat.lt_of_lt_of_le lx1 Bc.size
      have qwz := Bc.size
      clear Bc
      have HB := Lib.hid B
      have HTo := Lib.hid (fun wx (hb : Below w.heap.size w wx) => toGame_any _ z1 wx (h1.below hb) hl1)
      have HX := Lib.hid (fun wx (hb : Below wz0.heap.size wz0 wx) => x1.below hb)
      have HG : Hid (∀ wx, Below wz0.heap.size wz0 wx → wx.cell? ⟨w.heap.size + 1, 0, none⟩ = some (.int .i64 z1.rules.players) ∧ wx.cell? ⟨w.heap.size + 1, 1, none⟩ = some (.int .i64 z1.rules.each) ∧ wx.cell? ⟨w.heap.size + 1, 2, none⟩ = some (.bool z1.rules.sameSuit) ∧ wx.cell? ⟨w.heap.size + 1, 3, none⟩ = some (.bool z1.rules.sameRank) ∧ wx.cell? ⟨w.heap.size + 1, 4, none⟩ = some (.slice p1_4 z1.rules.wild.length c1_4) ∧ wx.cell? ⟨w.heap.size + 1, 5, none⟩ = some (.slice p1_5 z1.rules.skip.length c1_5) ∧ wx.cell? ⟨w.heap.size + 1, 6, none⟩ = some (.int .i64 z1.rules.take) ∧ wx.cell? ⟨w.heap.size + 1, 7, none⟩ = some (.int .i64 z1.rules.limit) ∧ wx.cell? ⟨w.heap.size + 1, 8, none⟩ = some (.slice p1_8 z1.hands.length c1_8) ∧ wx.cell? ⟨w.heap.size + 1, 9, none⟩ = some (.slice p1_9 z1.stock.length c1_9) ∧ wx.cell? ⟨w.heap.size + 1, 10, none⟩ = some (.slice p1_10 z1.heap.length c1_10) ∧ wx.cell? ⟨w.heap.size + 1, 11, none⟩ = some (.int .i64 z1.turn) ∧ wx.cell? ⟨w.heap.size + 1, 12, none⟩ = some (.int .i64 z1.moves) ∧ wx.cell? ⟨w.heap.size + 1, 13, none⟩ = some (.int .i64 z1.passes) ∧ wx.cell? ⟨w7.heap.size, 0, none⟩ = some (.int .i64 z1.rules.players) ∧ wx.cell? ⟨w7.heap.size, 1, none⟩ = some (.int .i64 z1.rules.each) ∧ wx.cell? ⟨w7.heap.size, 2, none⟩ = some (.bool z1.rules.sameSuit) ∧ wx.cell? ⟨w7.heap.size, 3, none⟩ = some (.bool z1.rules.sameRank) ∧ wx.cell? ⟨w7.heap.size, 4, none⟩ = some (.slice px1_4 z1.rules.wild.length cx1_4) ∧ wx.cell? ⟨w7.heap.size, 5, none⟩ = some (.slice px1_5 z1.rules.skip.length cx1_5) ∧ wx.cell? ⟨w7.heap.size, 6, none⟩ = some (.int .i64 z1.rules.take) ∧ wx.cell? ⟨w7.heap.size, 7, none⟩ = some (.int .i64 z1.rules.limit) ∧ wx.cell? ⟨w7.heap.size, 8, none⟩ = some (.slice px1_8 z1.hands.length cx1_8) ∧ wx.cell? ⟨w7.heap.size, 9, none⟩ = some (.slice px1_9 z1.stock.length cx1_9) ∧ wx.cell? ⟨w7.heap.size, 10, none⟩ = some (.slice px1_10 z1.heap.length cx1_10) ∧ wx.cell? ⟨w7.heap.size, 11, none⟩ = some (.int .i64 z1.turn) ∧ wx.cell? ⟨w7.heap.size, 12, none⟩ = some (.int .i64 z1.moves) ∧ wx.cell? ⟨w7.heap.size, 13, none⟩ = some (.int .i64 z1.passes)) := Lib.hid (fun wx hb => by
        obtain ⟨ua1_0, ua1_1, ua1_2, ua1_3, ua1_4, ua1_5, ua1_6, ua1_7, ua1_8, ua1_9, ua1_10, ua1_11, ua1_12, ua1_13⟩ := SGame_cells ((hb.block _ la1).trans ga1)
        obtain ⟨ux1_0, ux1_1, ux1_2, ux1_3, ux1_4, ux1_5, ux1_6, ux1_7, ux1_8, ux1_9, ux1_10, ux1_11, ux1_12, ux1_13⟩ := SGame_cells ((hb.block _ lx1).trans gx1)
        exact ⟨ua1_0, ua1_1, ua1_2, ua1_3, ua1_4, ua1_5, ua1_6, ua1_7, ua1_8, ua1_9, ua1_10, ua1_11, ua1_12, ua1_13, ux1_0, ux1_1, ux1_2, ux1_3, ux1_4, ux1_5, ux1_6, ux1_7, ux1_8, ux1_9, ux1_10, ux1_11, ux1_12, ux1_13⟩)
      obtain ⟨ka0_0, ka0_1, ka0_2, ka0_3, ka0_4, ka0_5, ka0_6, ka0_7, ka0_8, ka0_9, ka0_10, ka0_11, ka0_12, ka0_13⟩ := SGame_cells ga0
      obtain ⟨ka1_0, ka1_1, ka1_2, ka1_3, ka1_4, ka1_5, ka1_6, ka1_7, ka1_8, ka1_9, ka1_10, ka1_11, ka1_12, ka1_13⟩ := SGame_cells ga1
      obtain ⟨kx0_0, kx0_1, kx0_2, kx0_3, kx0_4, kx0_5, kx0_6, kx0_7, kx0_8, kx0_9, kx0_10, kx0_11, kx0_12, kx0_13⟩ := SGame_cells gx0
      obtain ⟨kx1_0, kx1_1, kx1_2, kx1_3, kx1_4, kx1_5, kx1_6, kx1_7, kx1_8, kx1_9, kx1_10, kx1_11, kx1_12, kx1_13⟩ := SGame_cells gx1
      go_wp2_with fail
      clear B x1
      go_region_held3 (fun w' => w'.cell? ⟨w.heap.size + 1, 0, none⟩ = some (.int .i64 z1.rules.players) ∧ w'.cell? ⟨w.heap.size + 1, 1, none⟩ = some (.int .i64 z1.rules.each) ∧ w'.cell? ⟨w.heap.size + 1, 2, none⟩ = some (.bool z1.rules.sameSuit) ∧ w'.cell? ⟨w.heap.size + 1, 3, none⟩ = some (.bool z1.rules.sameRank) ∧ w'.cell? ⟨w.heap.size + 1, 4, none⟩ = some (.slice p1_4 z1.rules.wild.length c1_4) ∧ w'.cell? ⟨w.heap.size + 1, 5, none⟩ = some (.slice p1_5 z1.rules.skip.length c1_5) ∧ w'.cell? ⟨w.heap.size + 1, 6, none⟩ = some (.int .i64 z1.rules.take) ∧ w'.cell? ⟨w.heap.size + 1, 7, none⟩ = some (.int .i64 z1.rules.limit) ∧ w'.cell? ⟨w.heap.size + 1, 8, none⟩ = some (.slice p1_8 z1.hands.length c1_8) ∧ w'.cell? ⟨w.heap.size + 1, 9, none⟩ = some (.slice p1_9 z1.stock.length c1_9) ∧ w'.cell? ⟨w.heap.size + 1, 10, none⟩ = some (.slice p1_10 z1.heap.length c1_10) ∧ w'.cell? ⟨w.heap.size + 1, 11, none⟩ = some (.int .i64 z1.turn) ∧ w'.cell? ⟨w.heap.size + 1, 12, none⟩ = some (.int .i64 z1.moves) ∧ w'.cell? ⟨w.heap.size + 1, 13, none⟩ = some (.int .i64 z1.passes) ∧ w'.cell? ⟨w7.heap.size, 0, none⟩ = some (.int .i64 z1.rules.players) ∧ w'.cell? ⟨w7.heap.size, 1, none⟩ = some (.int .i64 z1.rules.each) ∧ w'.cell? ⟨w7.heap.size, 2, none⟩ = some (.bool z1.rules.sameSuit) ∧ w'.cell? ⟨w7.heap.size, 3, none⟩ = some (.bool z1.rules.sameRank) ∧ w'.cell? ⟨w7.heap.size, 4, none⟩ = some (.slice px1_4 z1.rules.wild.length cx1_4) ∧ w'.cell? ⟨w7.heap.size, 5, none⟩ = some (.slice px1_5 z1.rules.skip.length cx1_5) ∧ w'.cell? ⟨w7.heap.size, 6, none⟩ = some (.int .i64 z1.rules.take) ∧ w'.cell? ⟨w7.heap.size, 7, none⟩ = some (.int .i64 z1.rules.limit) ∧ w'.cell? ⟨w7.heap.size, 8, none⟩ = some (.slice px1_8 z1.hands.length cx1_8) ∧ w'.cell? ⟨w7.heap.size, 9, none⟩ = some (.slice px1_9 z1.stock.length cx1_9) ∧ w'.cell? ⟨w7.heap.size, 10, none⟩ = some (.slice px1_10 z1.heap.length cx1_10) ∧ w'.cell? ⟨w7.heap.size, 11, none⟩ = some (.int .i64 z1.turn) ∧ w'.cell? ⟨w7.heap.size, 12, none⟩ = some (.int .i64 z1.moves) ∧ w'.cell? ⟨w7.heap.size, 13, none⟩ = some (.int .i64 z1.passes)) (go_keep) (first
        | (go_at_call 12; refine (HTo.out _ HB.out.drew).mono ?_; rintro e wy1 ⟨yv, rfl, hy, By⟩; obtain ⟨ya1_0, ya1_1, ya1_2, ya1_3, ya1_4, ya1_5, ya1_6, ya1_7, ya1_8, ya1_9, ya1_10, ya1_11, ya1_12, ya1_13, yx1_0, yx1_1, yx1_2, yx1_3, yx1_4, yx1_5, yx1_6, yx1_7, yx1_8, yx1_9, yx1_10, yx1_11, yx1_12, yx1_13⟩ := HG.out wy1 ((Below.refl _ _).drew.trans By))
        | (go_at_call 15; refine (eqGame_t _ _ z1 _ (HX.out _ ((Below.refl _ _).drew.trans By)) hy hl1).mono ?_; rintro e wz1 ⟨rfl, Bz⟩; obtain ⟨zya1_0, zya1_1, zya1_2, zya1_3, zya1_4, zya1_5, zya1_6, zya1_7, zya1_8, zya1_9, zya1_10, zya1_11, zya1_12, zya1_13, zyx1_0, zyx1_1, zyx1_2, zyx1_3, zyx1_4, zyx1_5, zyx1_6, zyx1_7, zyx1_8, zyx1_9, zyx1_10, zyx1_11, zyx1_12, zyx1_13⟩ := HG.out wz1 (((Below.refl _ _).drew.trans By).trans (Bz.mono By.size))))
      all_goals
        have B := HB.out.drew.trans (By.mono HB.out.drew.size)
        have Bc : Below wz0.heap.size wz0 wz1 := ((Below.refl _ _).drew.trans By).trans (Bz.mono By.size)
        replace B := B.trans (Bz.mono B.size)
        clear ka0_0 ka0_1 ka0_2 ka0_3 ka0_4 ka0_5 ka0_6 ka0_7 ka0_8 ka0_9 ka0_10 ka0_11 ka0_12 ka0_13 ka1_0 ka1_1 ka1_2 ka1_3 ka1_4 ka1_5 ka1_6 ka1_7 ka1_8 ka1_9 ka1_10 ka1_11 ka1_12 ka1_13 kx0_0 kx0_1 kx0_2 kx0_3 kx0_4 kx0_5 kx0_6 kx0_7 kx0_8 kx0_9 kx0_10 kx0_11 kx0_12 kx0_13 kx1_0 kx1_1 kx1_2 kx1_3 kx1_4 kx1_5 kx1_6 kx1_7 kx1_8 kx1_9 kx1_10 kx1_11 kx1_12 kx1_13 By Bz HTo HG HB hy ya1_0 ya1_1 ya1_2 ya1_3 ya1_4 ya1_5 ya1_6 ya1_7 ya1_8 ya1_9 ya1_10 ya1_11 ya1_12 ya1_13 yx1_0 yx1_1 yx1_2 yx1_3 yx1_4 yx1_5 yx1_6 yx1_7 yx1_8 yx1_9 yx1_10 yx1_11 yx1_12 yx1_13 zya1_0 zya1_1 zya1_2 zya1_3 zya1_4 zya1_5 zya1_6 zya1_7 zya1_8 zya1_9 zya1_10 zya1_11 zya1_12 zya1_13 zyx1_0 zyx1_1 zyx1_2 zyx1_3 zyx1_4 zyx1_5 zyx1_6 zyx1_7 zyx1_8 zyx1_9 zyx1_10 zyx1_11 zyx1_12 zyx1_13
        have x1 := HX.out _ Bc
        clear HX
        replace x0 := x0.below Bc
        replace ga0 := (Bc.block _ la0).trans ga0
        replace la0 := Nat.lt_of_lt_of_le la0 Bc.size
        replace ga1 := (Bc.block _ la1).trans ga1
        replace la1 := Nat.lt_of_lt_of_le la1 Bc.size
        replace gx0 := (Bc.block _ lx0).trans gx0
        replace lx0 := Nat.lt_of_lt_of_le lx0 Bc.size
        replace gx1 := (Bc.block _ lx1).trans gx1
        replace lx1 := Nat.lt_of_lt_of_le lx1 Bc.size
        have qwz := Bc.size
        clear Bc
        obtain ⟨ka0_0, ka0_1, ka0_2, ka0_3, ka0_4, ka0_5, ka0_6, ka0_7, ka0_8, ka0_9, ka0_10, ka0_11, ka0_12, ka0_13⟩ := SGame_cells ga0
        obtain ⟨ka1_0, ka1_1, ka1_2, ka1_3, ka1_4, ka1_5, ka1_6, ka1_7, ka1_8, ka1_9, ka1_10, ka1_11, ka1_12, ka1_13⟩ := SGame_cells ga1
        obtain ⟨kx0_0, kx0_1, kx0_2, kx0_3, kx0_4, kx0_5, kx0_6, kx0_7, kx0_8, kx0_9, kx0_10, kx0_11, kx0_12, kx0_13⟩ := SGame_cells gx0
        obtain ⟨kx1_0, kx1_1, kx1_2, kx1_3, kx1_4, kx1_5, kx1_6, kx1_7, kx1_8, kx1_9, kx1_10, kx1_11, kx1_12, kx1_13⟩ := SGame_cells gx1
        go_wp2_with fail
        go_ret
        exact ⟨rfl, B⟩

end Go.Proofs.Ythmbfkgahkihfaa
