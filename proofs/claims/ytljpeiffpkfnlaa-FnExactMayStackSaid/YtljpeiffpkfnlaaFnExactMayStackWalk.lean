/-
  The walk of the law FnExactMayStack, out of the contracts of both sides.
-/
import Derived.Test.YtljpeiffpkfnlaaPileJ
import Derived.Deep.RegionHeld3
namespace Go.Proofs.Ytljpeiffpkfnlaa
open Go.RowKit

set_option linter.unusedVariables false in
set_option maxRecDepth 100000 in
set_option maxHeartbeats 4000000 in
theorem fnExactMayStack_walk (v0 : Value) (z0 : MPile) (a1 : Int) (w : World) (h0 : RdPile w v0 z0) (wf1 : (Lit.int .i64 a1).wf = true)  :
    Calls Try.prog 5 #[v0, .int .i64 a1] w fun e w' => e = .returned (.bool true) ∧ Below w.heap.size w w' := by
  obtain ⟨p0_0, c0_0, hv0⟩ := h0.shape
  go_enter Try.func5, Try.ntmps5
  subst hv0
  obtain ⟨W0, hW0⟩ : ∃ W, W = (w.alloc (.cells #[.slice p0_0 z0.cards.length c0_0, .int .i64 z0.hidden] 24)) := ⟨_, rfl⟩
  have B : Below w.heap.size w W0 := by rw [hW0]; exact ((Below.refl w.heap.size w).alloc (by simp) _)
  have ga0 : W0.heap[w.heap.size]? = some (.cells #[.slice p0_0 z0.cards.length c0_0, .int .i64 z0.hidden] 24 (0, 0)) := by
    rw [hW0]; show (Array.push (w.heap) _)[_]? = _
    rw [Array.getElem?_push, if_pos (by simp)]
  have la0 : w.heap.size < W0.heap.size := by rw [hW0]; simp
  have HW0 := Lib.hid hW0
  clear hW0
  have qW0 := B.size
  obtain ⟨ka0_0, ka0_1⟩ := SPile_cells ga0
  go_wp2_with fail
  rw [← HW0.out]
  clear ka0_0 ka0_1
  refine (szPile_any _ z0 1048576 _ (h0.below B) (by omega) (by omega)).mono ?_
  rintro e w2 ⟨⟨r0, rfl, rn0, rm0, hr0⟩, bw2⟩
  replace ga0 := (bw2.block _ la0).trans ga0
  replace la0 := Nat.lt_of_lt_of_le la0 bw2.size
  have qw2 := bw2.size
  replace B := B.trans (bw2.mono B.size)
  clear bw2
  by_cases hneg0 : r0 < 0
  · go_wp2_with fail
    go_ret
    exact ⟨rfl, B⟩
  have hl0 : z0.Few := hr0 (by omega)
  clear hr0
  obtain ⟨ka0_0, ka0_1⟩ := SPile_cells ga0
  go_wp2_with fail
  clear ka0_0 ka0_1
  refine (toPile_any _ z0 _ (h0.below B) hl0).mono ?_
  rintro e w3 ⟨m0v, rfl, m0, bw3⟩
  replace ga0 := (bw3.block _ la0).trans ga0
  replace la0 := Nat.lt_of_lt_of_le la0 bw3.size
  have qw3 := bw3.size
  replace B := B.trans (bw3.mono B.size)
  clear bw3
  obtain ⟨ka0_0, ka0_1⟩ := SPile_cells ga0
  go_wp2_with fail
  clear ka0_0 ka0_1
  refine (sMayStack_any _ z0 a1 _ m0 hl0 _ rfl).mono ?_
  rintro e w4 ⟨rfl, bw4⟩
  replace ga0 := (bw4.block _ la0).trans ga0
  replace la0 := Nat.lt_of_lt_of_le la0 bw4.size
  replace m0 := m0.below bw4
  have qw4 := bw4.size
  replace B := B.trans (bw4.mono B.size)
  clear bw4
  clear m0
  obtain ⟨ka0_0, ka0_1⟩ := SPile_cells ga0
  go_wp2_with fail
  clear ka0_0 ka0_1
  refine (toPile_any _ z0 _ (h0.below B) hl0).mono ?_
  rintro e w5 ⟨x0v, rfl, x0, bw5⟩
  replace ga0 := (bw5.block _ la0).trans ga0
  replace la0 := Nat.lt_of_lt_of_le la0 bw5.size
  have qw5 := bw5.size
  replace B := B.trans (bw5.mono B.size)
  clear bw5
  obtain ⟨px0_0, cx0_0, ex0⟩ := x0.shape
  subst ex0
  obtain ⟨ka0_0, ka0_1⟩ := SPile_cells ga0
  go_wp2_with fail
  clear ka0_0 ka0_1
  have gx0 := heap_alloc_new w5 (.cells #[.slice px0_0 z0.cards.length cx0_0, .int .i64 z0.hidden] 27)
  have bw6 := (Below.refl w5.heap.size w5).alloc (Nat.le_refl _) (.cells #[.slice px0_0 z0.cards.length cx0_0, .int .i64 z0.hidden] 27)
  have lx0 : w5.heap.size < (w5.alloc (.cells #[.slice px0_0 z0.cards.length cx0_0, .int .i64 z0.hidden] 27)).heap.size := by simp
  generalize w5.alloc (.cells #[.slice px0_0 z0.cards.length cx0_0, .int .i64 z0.hidden] 27) = w6 at *
  replace ga0 := (bw6.block _ la0).trans ga0
  replace la0 := Nat.lt_of_lt_of_le la0 bw6.size
  replace x0 := x0.below bw6
  have qw6 := bw6.size
  replace B := B.trans (bw6.mono B.size)
  clear bw6
  refine (mayStack_any _ z0 a1 _ x0 hl0 _ rfl).mono ?_
  rintro e w7 ⟨rfl, bw7⟩
  replace ga0 := (bw7.block _ la0).trans ga0
  replace la0 := Nat.lt_of_lt_of_le la0 bw7.size
  replace gx0 := (bw7.block _ lx0).trans gx0
  replace lx0 := Nat.lt_of_lt_of_le lx0 bw7.size
  replace x0 := x0.below bw7
  have qw7 := bw7.size
  replace B := B.trans (bw7.mono B.size)
  clear bw7
  have HB := Lib.hid B
  have HTo := Lib.hid (fun wx (hb : Below w.heap.size w wx) => toPile_any _ z0 wx (h0.below hb) hl0)
  have HX := Lib.hid (fun wx (hb : Below w7.heap.size w7 wx) => x0.below hb)
  have HG : Hid (∀ wx, Below w7.heap.size w7 wx → wx.cell? ⟨w.heap.size, 0, none⟩ = some (.slice p0_0 z0.cards.length c0_0) ∧ wx.cell? ⟨w.heap.size, 1, none⟩ = some (.int .i64 z0.hidden) ∧ wx.cell? ⟨w5.heap.size, 0, none⟩ = some (.slice px0_0 z0.cards.length cx0_0) ∧ wx.cell? ⟨w5.heap.size, 1, none⟩ = some (.int .i64 z0.hidden)) := Lib.hid (fun wx hb => by
    obtain ⟨ua0_0, ua0_1⟩ := SPile_cells ((hb.block _ la0).trans ga0)
    obtain ⟨ux0_0, ux0_1⟩ := SPile_cells ((hb.block _ lx0).trans gx0)
    exact ⟨ua0_0, ua0_1, ux0_0, ux0_1⟩)
  obtain ⟨ka0_0, ka0_1⟩ := SPile_cells ga0
  obtain ⟨kx0_0, kx0_1⟩ := SPile_cells gx0
  go_wp2_with fail
  clear B x0
  go_region_held3 (fun w' => w'.cell? ⟨w.heap.size, 0, none⟩ = some (.slice p0_0 z0.cards.length c0_0) ∧ w'.cell? ⟨w.heap.size, 1, none⟩ = some (.int .i64 z0.hidden) ∧ w'.cell? ⟨w5.heap.size, 0, none⟩ = some (.slice px0_0 z0.cards.length cx0_0) ∧ w'.cell? ⟨w5.heap.size, 1, none⟩ = some (.int .i64 z0.hidden)) (go_keep) (first
    | (go_at_call 14; refine (HTo.out _ HB.out.drew).mono ?_; rintro e wy0 ⟨yv, rfl, hy, By⟩; obtain ⟨ya0_0, ya0_1, yx0_0, yx0_1⟩ := HG.out wy0 ((Below.refl _ _).drew.trans By))
    | (go_at_call 16; refine (eqPile_t _ _ z0 _ (HX.out _ ((Below.refl _ _).drew.trans By)) hy hl0).mono ?_; rintro e wz0 ⟨rfl, Bz⟩; obtain ⟨zya0_0, zya0_1, zyx0_0, zyx0_1⟩ := HG.out wz0 (((Below.refl _ _).drew.trans By).trans (Bz.mono By.size))))
  all_goals
    have B := HB.out.drew.trans (By.mono HB.out.drew.size)
    have Bc : Below w7.heap.size w7 wz0 := ((Below.refl _ _).drew.trans By).trans (Bz.mono By.size)
    replace B := B.trans (Bz.mono B.size)
    clear ka0_0 ka0_1 kx0_0 kx0_1 By Bz HTo HG HB hy ya0_0 ya0_1 yx0_0 yx0_1 zya0_0 zya0_1 zyx0_0 zyx0_1
    have x0 := HX.out _ Bc
    clear HX
    replace ga0 := (Bc.block _ la0).trans ga0
    replace la0 := Nat.lt_of_lt_of_le la0 Bc.size
    replace gx0 := (Bc.block _ lx0).trans gx0
    replace lx0 := Nat.lt_of_lt_of_le lx0 Bc.size
    have qwz := Bc.size
    clear Bc
    obtain ⟨ka0_0, ka0_1⟩ := SPile_cells ga0
    obtain ⟨kx0_0, kx0_1⟩ := SPile_cells gx0
    go_wp2_with fail
    go_ret
    exact ⟨rfl, B⟩

end Go.Proofs.Ytljpeiffpkfnlaa
