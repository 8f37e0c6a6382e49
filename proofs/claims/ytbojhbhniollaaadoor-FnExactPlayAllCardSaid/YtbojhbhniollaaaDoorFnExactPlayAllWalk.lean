/-
  The walk of the law FnExactPlayAll, out of the contracts of both sides.
-/
import Derived.Test.YtbojhbhniollaaaDoorPlayA
import Derived.Test.YtbojhbhniollaaaDoorM5
namespace Go.Proofs.YtbojhbhniollaaaDoor
open Go.RowKit
set_option linter.unusedVariables false
set_option linter.unusedSimpArgs false

theorem aggDealX {w : World} {v : Value} {D : MDeal} (h : RdDeal w v D) : ∃ A : Array Value, (A.size = 7 ∧ A.all (·.oneCell') = true) ∧ v = .agg A := by
  obtain ⟨p0, p3, p4, p5, c0, c3, c4, c5, hv⟩ := h.shape
  exact ⟨_, ⟨rfl, by simp [Value.oneCell']⟩, hv⟩
set_option linter.unusedVariables false in
set_option maxRecDepth 100000 in
set_option maxHeartbeats 4000000 in
theorem fnExactPlayAll_walk (v0 : Value) (z0 : MDeal) (v1 : Value) (z1 : List Int) (b1 : Nat) (w : World) (h0 : RdDeal w v0 z0) (h1 : RdAt .i64 w v1 z1 b1) (sa sb : Addr) (hS : Sent sa sb w) :
    Calls Tryd.prog 6 #[v0, v1] w fun e w' => e = .returned (.bool true) ∧ Below w.heap.size w w' := by
  by_cases hbig1 : 1048576 < z1.length
  · skip
    obtain ⟨A0, hA0, hv0⟩ := aggDealX h0
    obtain ⟨p1, cap1, hv1, -⟩ := id h1
    subst hv0
    subst hv1
    have HAx0 := Lib.hid hA0
    clear hA0
    go_enter Tryd.func6, Tryd.ntmps6
    go_wp2_with fail
    go_ret
    exact ⟨rfl, by first | exact Below.refl _ _ | exact (Below.refl _ _).alloc (Nat.le_refl _) _ | exact ((Below.refl _ _).alloc (Nat.le_refl _) _).alloc (by simp) _⟩
  have hl1 : z1.length ≤ 1048576 := by omega
  have hL1 : z1.length ≤ 1099511627776 := by omega
  clear hbig1
  obtain ⟨A0, hA0, hv0⟩ := aggDealX h0
  obtain ⟨p1, cap1, hv1, -⟩ := id h1
  subst hv0
  subst hv1
  have B : Below w.heap.size w (w.alloc (.cells A0 25)) := ((Below.refl w.heap.size w).alloc (by simp) _)
  have ga0 : ((w.alloc (.cells A0 25))).heap[w.heap.size]? = some (.cells A0 25 (0, 0)) := by
    show (Array.push (w.heap) _)[_]? = _
    rw [Array.getElem?_push, if_pos (by simp)]
  have la0 : w.heap.size < ((w.alloc (.cells A0 25))).heap.size := by simp
  have HAa0 := Lib.hid hA0
  clear hA0
  have qla0 := la0
  have qw0 := B.size
  go_enter Tryd.func6, Tryd.ntmps6
  go_wp2_with (first | (refine wpList_load_rowG (by rfl) 25 _ rfl (w.heap.size) rfl A0 (loadRowX ga0 Tryd.underlying25 rfl (by rw [HAa0.out.1]; kernel_rfl)) ?_) | fail)
  generalize (w.alloc (.cells A0 25)) = w0 at B ga0 la0 qla0 qw0 ⊢
  refine (szDeal_any _ z0 1048576 _ (h0.below B) (by omega) (by omega)).mono ?_
  rintro e w1 ⟨⟨r0, rfl, rn0, rm0, hr0⟩, bw1⟩
  replace ga0 := (bw1.block _ la0).trans ga0
  replace la0 := Nat.lt_of_lt_of_le la0 bw1.size
  have qw1 := bw1.size
  replace B := B.trans (bw1.mono B.size)
  clear bw1
  by_cases hneg0 : r0 < 0
  · go_wp2_with fail
    go_ret
    exact ⟨rfl, B⟩
  have hl0 : z0.Few := hr0 (by omega)
  have tl0 := MDeal.total_le hl0
  clear hr0
  have hF0 : Hid ((playAllD z0 z1).Few) := Lib.hid (by exact playAllD_few z1 hl0)
  have tF0 := MDeal.total_le hF0.out
  go_wp2_with (first | (refine wpList_load_rowG (by rfl) 25 _ rfl (w.heap.size) rfl A0 (loadRowX ga0 Tryd.underlying25 rfl (by rw [HAa0.out.1]; kernel_rfl)) ?_) | fail)
  refine (toDeal_w _ z0 _ (h0.below B) hl0).mono ?_
  rintro e w2 ⟨m0v, rfl, m0, bw2⟩
  replace ga0 := (bw2.block _ la0).trans ga0
  replace la0 := Nat.lt_of_lt_of_le la0 bw2.size
  have qw2 := bw2.size
  replace B := B.trans (bw2.mono B.size)
  clear bw2
  go_wp2_with (first | (refine wpList_load_rowG (by rfl) 25 _ rfl (w.heap.size) rfl A0 (loadRowX ga0 Tryd.underlying25 rfl (by rw [HAa0.out.1]; kernel_rfl)) ?_) | fail)
  refine (toIntS_any _ z1 b1 _ (h1.below B) hL1).mono ?_
  rintro e w3 ⟨m1v, rfl, m1, bw3, -⟩
  replace m1 := WrIn.of m1 (Nat.le_refl _)
  replace ga0 := (bw3.block _ la0).trans ga0
  replace la0 := Nat.lt_of_lt_of_le la0 bw3.size
  replace m0 := m0.below bw3
  have qw3 := bw3.size
  replace B := B.trans (bw3.mono B.size)
  clear bw3
  go_wp2_with (first | (refine wpList_load_rowG (by rfl) 25 _ rfl (w.heap.size) rfl A0 (loadRowX ga0 Tryd.underlying25 rfl (by rw [HAa0.out.1]; kernel_rfl)) ?_) | fail)
  obtain ⟨km1, rm1⟩ := m1.rd
  refine (M2.sPlayAll_any _ _ z0 z1 _ _ m0.rd rm1 hl0 (by omega)).mono ?_
  rintro e w4 ⟨sv0, rfl, s0, bw4⟩
  replace ga0 := (bw4.block _ la0).trans ga0
  replace la0 := Nat.lt_of_lt_of_le la0 bw4.size
  replace m0 := m0.below bw4
  replace m1 := m1.below bw4
  have qw4 := bw4.size
  replace B := B.trans (bw4.mono B.size)
  clear bw4
  clear m0 m1
  obtain ⟨As0, hAs0, hvs0⟩ := aggDealX s0.rd
  subst hvs0
  have HAs0 := Lib.hid hAs0
  clear hAs0
  have HF := freshX w4 #[.slice none 0 0, .int .i64 0, .int .i64 0, .slice none 0 0, .slice none 0 0, .slice none 0 0, .int .i64 0] As0 31
  have Ga0 := ((HF.2.1.block _ la0).trans ga0)
  have HF2 := Lib.hid HF
  clear HF
  go_wp2_with (first | (refine wpList_store_row rfl 31 _ _ rfl w4.heap.size As0 rfl rfl 31 _ (heap_alloc_new _ _) (by rw [HAs0.out.1]; kernel_rfl) (by rw [HAs0.out.1]; rfl) HAs0.out.2 ?_) | (refine wpList_load_rowG (by rfl) 25 _ rfl (w.heap.size) rfl A0 (loadRowX ga0 Tryd.underlying25 rfl (by rw [HAa0.out.1]; kernel_rfl)) ?_) | (refine wpList_load_rowG (by rfl) 25 _ rfl (w.heap.size) rfl A0 (loadRowX Ga0 Tryd.underlying25 rfl (by rw [HAa0.out.1]; kernel_rfl)) ?_) | (refine wpList_load_rowG (by rfl) 31 _ rfl (w4.heap.size) rfl As0 (loadRowX HF2.out.1 Tryd.underlying31 rfl (by rw [HAs0.out.1]; kernel_rfl)) ?_) | fail)
  clear Ga0
  have HF := HF2.out
  clear HF2
  generalize (World.setRow (World.alloc w4 (.cells #[.slice none 0 0, .int .i64 0, .int .i64 0, .slice none 0 0, .slice none 0 0, .slice none 0 0, .int .i64 0] 31)) w4.heap.size As0) = w5 at HF ⊢
  obtain ⟨gs0, bxs0, ls0⟩ := HF
  replace ga0 := (bxs0.block _ la0).trans ga0
  replace la0 := Nat.lt_of_lt_of_le la0 bxs0.size
  replace s0 := s0.below bxs0
  have qw5 := bxs0.size
  replace B := B.trans (bxs0.mono B.size)
  clear bxs0
  have qxw5 := ls0
  refine (toDeal_w _ z0 _ (h0.below B) hl0).mono ?_
  rintro e w6 ⟨x0v, rfl, x0, bw6⟩
  replace ga0 := (bw6.block _ la0).trans ga0
  replace la0 := Nat.lt_of_lt_of_le la0 bw6.size
  replace gs0 := (bw6.block _ ls0).trans gs0
  replace ls0 := Nat.lt_of_lt_of_le ls0 bw6.size
  replace s0 := s0.below bw6
  have qw6 := bw6.size
  replace B := B.trans (bw6.mono B.size)
  clear bw6
  obtain ⟨Ax0, hAx0, hvx0⟩ := aggDealX x0.rd
  subst hvx0
  have HAx0 := Lib.hid hAx0
  clear hAx0
  have HF := freshX w6 #[.slice none 0 0, .int .i64 0, .int .i64 0, .slice none 0 0, .slice none 0 0, .slice none 0 0, .int .i64 0] Ax0 31
  have Ga0 := ((HF.2.1.block _ la0).trans ga0)
  have Gs0 := ((HF.2.1.block _ ls0).trans gs0)
  have HF2 := Lib.hid HF
  clear HF
  go_wp2_with (first | (refine wpList_store_row rfl 31 _ _ rfl w6.heap.size Ax0 rfl rfl 31 _ (heap_alloc_new _ _) (by rw [HAx0.out.1]; kernel_rfl) (by rw [HAx0.out.1]; rfl) HAx0.out.2 ?_) | (refine wpList_load_rowG (by rfl) 25 _ rfl (w.heap.size) rfl A0 (loadRowX ga0 Tryd.underlying25 rfl (by rw [HAa0.out.1]; kernel_rfl)) ?_) | (refine wpList_load_rowG (by rfl) 31 _ rfl (w4.heap.size) rfl As0 (loadRowX gs0 Tryd.underlying31 rfl (by rw [HAs0.out.1]; kernel_rfl)) ?_) | (refine wpList_load_rowG (by rfl) 25 _ rfl (w.heap.size) rfl A0 (loadRowX Ga0 Tryd.underlying25 rfl (by rw [HAa0.out.1]; kernel_rfl)) ?_) | (refine wpList_load_rowG (by rfl) 31 _ rfl (w4.heap.size) rfl As0 (loadRowX Gs0 Tryd.underlying31 rfl (by rw [HAs0.out.1]; kernel_rfl)) ?_) | (refine wpList_load_rowG (by rfl) 31 _ rfl (w6.heap.size) rfl Ax0 (loadRowX HF2.out.1 Tryd.underlying31 rfl (by rw [HAx0.out.1]; kernel_rfl)) ?_) | fail)
  clear Ga0 Gs0
  have HF := HF2.out
  clear HF2
  generalize (World.setRow (World.alloc w6 (.cells #[.slice none 0 0, .int .i64 0, .int .i64 0, .slice none 0 0, .slice none 0 0, .slice none 0 0, .int .i64 0] 31)) w6.heap.size Ax0) = w7 at HF ⊢
  obtain ⟨gx0, bxx0, lx0⟩ := HF
  replace ga0 := (bxx0.block _ la0).trans ga0
  replace la0 := Nat.lt_of_lt_of_le la0 bxx0.size
  replace gs0 := (bxx0.block _ ls0).trans gs0
  replace ls0 := Nat.lt_of_lt_of_le ls0 bxx0.size
  replace s0 := s0.below bxx0
  replace x0 := x0.below bxx0
  have qw7 := bxx0.size
  replace B := B.trans (bxx0.mono B.size)
  clear bxx0
  have qxw7 := lx0
  refine (toIntS_any _ z1 b1 _ (h1.below B) hL1).mono ?_
  rintro e w8 ⟨x1v, rfl, x1, bw8, -⟩
  replace x1 := WrIn.of x1 (Nat.le_refl _)
  replace ga0 := (bw8.block _ la0).trans ga0
  replace la0 := Nat.lt_of_lt_of_le la0 bw8.size
  replace gs0 := (bw8.block _ ls0).trans gs0
  replace ls0 := Nat.lt_of_lt_of_le ls0 bw8.size
  replace gx0 := (bw8.block _ lx0).trans gx0
  replace lx0 := Nat.lt_of_lt_of_le lx0 bw8.size
  replace s0 := s0.below bw8
  replace x0 := x0.below bw8
  have qw8 := bw8.size
  replace B := B.trans (bw8.mono B.size)
  clear bw8
  go_wp2_with (first | (refine wpList_load_rowG (by rfl) 25 _ rfl (w.heap.size) rfl A0 (loadRowX ga0 Tryd.underlying25 rfl (by rw [HAa0.out.1]; kernel_rfl)) ?_) | (refine wpList_load_rowG (by rfl) 31 _ rfl (w4.heap.size) rfl As0 (loadRowX gs0 Tryd.underlying31 rfl (by rw [HAs0.out.1]; kernel_rfl)) ?_) | (refine wpList_load_rowG (by rfl) 31 _ rfl (w6.heap.size) rfl Ax0 (loadRowX gx0 Tryd.underlying31 rfl (by rw [HAx0.out.1]; kernel_rfl)) ?_) | fail)
  obtain ⟨kx1, rx1⟩ := x1.rd
  refine (playAll_any sa sb _ _ z0 z1 _ _ x0.rd rx1 hl0 (by omega) (hS.below B (Nat.le_refl _))).mono ?_
  rintro e w9 ⟨gv0, rfl, g0, bw9⟩
  replace ga0 := (bw9.block _ la0).trans ga0
  replace la0 := Nat.lt_of_lt_of_le la0 bw9.size
  replace gs0 := (bw9.block _ ls0).trans gs0
  replace ls0 := Nat.lt_of_lt_of_le ls0 bw9.size
  replace gx0 := (bw9.block _ lx0).trans gx0
  replace lx0 := Nat.lt_of_lt_of_le lx0 bw9.size
  replace s0 := s0.below bw9
  replace x0 := x0.below bw9
  replace x1 := x1.below bw9
  have qw9 := bw9.size
  replace B := B.trans (bw9.mono B.size)
  clear bw9
  skip
  obtain ⟨Ag0, hAg0, hvg0⟩ := aggDealX g0.rd
  subst hvg0
  have HAg0 := Lib.hid hAg0
  clear hAg0
  have HF := freshX w9 #[.slice none 0 0, .int .i64 0, .int .i64 0, .slice none 0 0, .slice none 0 0, .slice none 0 0, .int .i64 0] Ag0 31
  have Ga0 := ((HF.2.1.block _ la0).trans ga0)
  have Gs0 := ((HF.2.1.block _ ls0).trans gs0)
  have Gx0 := ((HF.2.1.block _ lx0).trans gx0)
  have HF2 := Lib.hid HF
  clear HF
  go_wp2_with (first | (refine wpList_store_row rfl 31 _ _ rfl w9.heap.size Ag0 rfl rfl 31 _ (heap_alloc_new _ _) (by rw [HAg0.out.1]; kernel_rfl) (by rw [HAg0.out.1]; rfl) HAg0.out.2 ?_) | (refine wpList_load_rowG (by rfl) 25 _ rfl (w.heap.size) rfl A0 (loadRowX ga0 Tryd.underlying25 rfl (by rw [HAa0.out.1]; kernel_rfl)) ?_) | (refine wpList_load_rowG (by rfl) 31 _ rfl (w4.heap.size) rfl As0 (loadRowX gs0 Tryd.underlying31 rfl (by rw [HAs0.out.1]; kernel_rfl)) ?_) | (refine wpList_load_rowG (by rfl) 31 _ rfl (w6.heap.size) rfl Ax0 (loadRowX gx0 Tryd.underlying31 rfl (by rw [HAx0.out.1]; kernel_rfl)) ?_) | (refine wpList_load_rowG (by rfl) 25 _ rfl (w.heap.size) rfl A0 (loadRowX Ga0 Tryd.underlying25 rfl (by rw [HAa0.out.1]; kernel_rfl)) ?_) | (refine wpList_load_rowG (by rfl) 31 _ rfl (w4.heap.size) rfl As0 (loadRowX Gs0 Tryd.underlying31 rfl (by rw [HAs0.out.1]; kernel_rfl)) ?_) | (refine wpList_load_rowG (by rfl) 31 _ rfl (w6.heap.size) rfl Ax0 (loadRowX Gx0 Tryd.underlying31 rfl (by rw [HAx0.out.1]; kernel_rfl)) ?_) | (refine wpList_load_rowG (by rfl) 31 _ rfl (w9.heap.size) rfl Ag0 (loadRowX HF2.out.1 Tryd.underlying31 rfl (by rw [HAg0.out.1]; kernel_rfl)) ?_) | fail)
  clear Ga0 Gs0 Gx0
  have HF := HF2.out
  clear HF2
  generalize (World.setRow (World.alloc w9 (.cells #[.slice none 0 0, .int .i64 0, .int .i64 0, .slice none 0 0, .slice none 0 0, .slice none 0 0, .int .i64 0] 31)) w9.heap.size Ag0) = w10 at HF ⊢
  obtain ⟨gg0, bxg0, lg0⟩ := HF
  replace ga0 := (bxg0.block _ la0).trans ga0
  replace la0 := Nat.lt_of_lt_of_le la0 bxg0.size
  replace gs0 := (bxg0.block _ ls0).trans gs0
  replace ls0 := Nat.lt_of_lt_of_le ls0 bxg0.size
  replace gx0 := (bxg0.block _ lx0).trans gx0
  replace lx0 := Nat.lt_of_lt_of_le lx0 bxg0.size
  replace s0 := s0.below bxg0
  replace x0 := x0.below bxg0
  replace x1 := x1.below bxg0
  replace g0 := g0.below bxg0
  have qw10 := bxg0.size
  replace B := B.trans (bxg0.mono B.size)
  clear bxg0
  have qxw10 := lg0
  refine (eqDeal_t _ _ _ _ g0.rd s0.rd hF0.out).mono ?_
  rintro e w11 ⟨rfl, bw11⟩
  replace ga0 := (bw11.block _ la0).trans ga0
  replace la0 := Nat.lt_of_lt_of_le la0 bw11.size
  replace gs0 := (bw11.block _ ls0).trans gs0
  replace ls0 := Nat.lt_of_lt_of_le ls0 bw11.size
  replace gx0 := (bw11.block _ lx0).trans gx0
  replace lx0 := Nat.lt_of_lt_of_le lx0 bw11.size
  replace gg0 := (bw11.block _ lg0).trans gg0
  replace lg0 := Nat.lt_of_lt_of_le lg0 bw11.size
  replace s0 := s0.below bw11
  replace x0 := x0.below bw11
  replace x1 := x1.below bw11
  replace g0 := g0.below bw11
  have qw11 := bw11.size
  replace B := B.trans (bw11.mono B.size)
  clear bw11
  have HB := Lib.hid B
  have HTo := Lib.hid (fun wx (hb : Below w.heap.size w wx) => toDeal_w _ z0 wx (h0.below hb) hl0)
  have HX := Lib.hid (fun wx (hb : Below w11.heap.size w11 wx) => x0.below hb)
  have HG : Hid (∀ wx, Below w11.heap.size w11 wx → wx.heap[w.heap.size]? = some (.cells A0 25 (0, 0)) ∧ wx.heap[w6.heap.size]? = some (.cells Ax0 31 (0, 0))) := Lib.hid (fun wx hb => ⟨(hb.block _ la0).trans ga0, (hb.block _ lx0).trans gx0⟩)
  go_wp2_with fail
  refine wp_region_held_drew (S := fun w' => w'.heap[w.heap.size]? = some (.cells A0 25 (0, 0)) ∧ w'.heap[w6.heap.size]? = some (.cells Ax0 31 (0, 0))) (by kernel_rfl) ⟨ga0, gx0⟩ (fun hHeld => ?_)
  refine wpAnyH_take (i := 0) (oi := { dst := some 52, op := Go.Op.load 31 (Go.Operand.tmp 8), type := 31, pos := "exact.go:3064", after := #[], guard := none }) (v := .agg Ax0) rfl (by kernel_rfl) (by kernel_rfl) (by kernel_rfl) (fun _ _ _ h => h) (yieldsX (by rfl) 31 _ rfl (w6.heap.size) rfl Ax0 31 _ (fun wq hSw => hSw.2) Tryd.underlying31 rfl (by rw [HAx0.out.1]; kernel_rfl)) hHeld ?_
  (try simp only [Act.put, List.setIfInBounds_toArray, List.set_cons_zero, List.set_cons_succ])
  refine wpAnyH_take (i := 1) (oi := { dst := some 53, op := Go.Op.load 25 (Go.Operand.tmp 2), type := 25, pos := "exact.go:3064", after := #[], guard := none }) (v := .agg A0) rfl (by kernel_rfl) (by kernel_rfl) (by kernel_rfl) (fun _ _ _ h => h) (yieldsX (by rfl) 25 _ rfl (w.heap.size) rfl A0 25 _ (fun wq hSw => hSw.1) Tryd.underlying25 rfl (by rw [HAa0.out.1]; kernel_rfl)) hHeld ?_
  (try simp only [Act.put, List.setIfInBounds_toArray, List.set_cons_zero, List.set_cons_succ])
  refine wpAnyH_ready (rs := [2]) (by kernel_rfl) (by simp) ?_
  refine AllReadyH.cons (o := { dst := some 54, op := Go.Op.call { callee := Go.Callee.value (Go.Operand.func 10), args := #[Go.Operand.tmp 53], argTypes := #[25] }, type := 31, pos := "exact.go:3064", after := #[{ on := 1, ground := Go.Ground.data }], guard := none }) rfl (fun K hK => ?_) AllReadyH.nil
  go_simp
  refine (HTo.out _ HB.out.drew).mono ?_
  rintro e wy0 ⟨yv, rfl, hy, By⟩
  go_wp2_with fail
  refine hK.out _ _ (HG.out wy0 ((Below.refl _ _).drew.trans By)) (fun hHeld => ?_)
  clear hK K
  (try simp only [Act.put, List.setIfInBounds_toArray, List.set_cons_zero, List.set_cons_succ])
  refine wpAnyH_ready (rs := [3]) (by kernel_rfl) (by simp) ?_
  refine AllReadyH.cons (o := { dst := some 55, op := Go.Op.call { callee := Go.Callee.value (Go.Operand.func 13), args := #[Go.Operand.tmp 52, Go.Operand.tmp 54], argTypes := #[31, 31] }, type := 4, pos := "exact.go:3064", after := #[{ on := 0, ground := Go.Ground.data }, { on := 2, ground := Go.Ground.data }, { on := 2, ground := Go.Ground.chain }], guard := none }) rfl (fun K hK => ?_) AllReadyH.nil
  go_simp
  refine (eqDeal_t _ _ z0 _ (HX.out _ ((Below.refl _ _).drew.trans By)).rd hy.rd hl0).mono ?_
  rintro e wz0 ⟨rfl, Bz⟩
  go_wp2_with fail
  have By7 : Below w11.heap.size w11 wy0 := (Below.refl _ _).drew.trans By
  have Bc : Below w11.heap.size w11 wz0 := By7.trans (Bz.mono By7.size)
  refine hK.out _ _ (HG.out wz0 Bc) (fun hHeld => ?_)
  clear hK K
  (try simp only [Act.put, List.setIfInBounds_toArray, List.set_cons_zero, List.set_cons_succ])
  refine wpAnyH_take (i := 4) (oi := { dst := some 56, op := Go.Op.unOp Go.UnOp.not 4 (Go.Operand.tmp 55), type := 4, pos := "exact.go:3064", after := #[{ on := 3, ground := Go.Ground.data }], guard := none }) (v := .bool false) rfl (by kernel_rfl) (by kernel_rfl) (by kernel_rfl) (fun _ _ _ h => h) (Or.inl ⟨by rfl, ?_⟩) hHeld ?_
  · intro wq hSw; go_simp
  (try simp only [Act.put, List.setIfInBounds_toArray, List.set_cons_zero, List.set_cons_succ])
  refine wpAnyH_done (by kernel_rfl) ?_ _
  clear HTo HX HG HB hy By Bz By7 hHeld
  replace ga0 := (Bc.block _ la0).trans ga0
  replace la0 := Nat.lt_of_lt_of_le la0 Bc.size
  replace gs0 := (Bc.block _ ls0).trans gs0
  replace ls0 := Nat.lt_of_lt_of_le ls0 Bc.size
  replace gx0 := (Bc.block _ lx0).trans gx0
  replace lx0 := Nat.lt_of_lt_of_le lx0 Bc.size
  replace gg0 := (Bc.block _ lg0).trans gg0
  replace lg0 := Nat.lt_of_lt_of_le lg0 Bc.size
  replace s0 := s0.below Bc
  replace x0 := x0.below Bc
  replace x1 := x1.below Bc
  replace g0 := g0.below Bc
  have qwz0 := Bc.size
  replace B := B.trans (Bc.mono B.size)
  clear Bc
  go_wp2_with (first | (refine wpList_load_rowG (by rfl) 25 _ rfl (w.heap.size) rfl A0 (loadRowX ga0 Tryd.underlying25 rfl (by rw [HAa0.out.1]; kernel_rfl)) ?_) | (refine wpList_load_rowG (by rfl) 31 _ rfl (w4.heap.size) rfl As0 (loadRowX gs0 Tryd.underlying31 rfl (by rw [HAs0.out.1]; kernel_rfl)) ?_) | (refine wpList_load_rowG (by rfl) 31 _ rfl (w6.heap.size) rfl Ax0 (loadRowX gx0 Tryd.underlying31 rfl (by rw [HAx0.out.1]; kernel_rfl)) ?_) | (refine wpList_load_rowG (by rfl) 31 _ rfl (w9.heap.size) rfl Ag0 (loadRowX gg0 Tryd.underlying31 rfl (by rw [HAg0.out.1]; kernel_rfl)) ?_) | fail)
  refine (toIntS_any _ z1 b1 _ (h1.below B) hL1).mono ?_
  rintro e w13 ⟨y1v, rfl, y1, bw13, -⟩
  replace y1 := WrIn.of y1 (Nat.le_refl _)
  replace ga0 := (bw13.block _ la0).trans ga0
  replace la0 := Nat.lt_of_lt_of_le la0 bw13.size
  replace gs0 := (bw13.block _ ls0).trans gs0
  replace ls0 := Nat.lt_of_lt_of_le ls0 bw13.size
  replace gx0 := (bw13.block _ lx0).trans gx0
  replace lx0 := Nat.lt_of_lt_of_le lx0 bw13.size
  replace gg0 := (bw13.block _ lg0).trans gg0
  replace lg0 := Nat.lt_of_lt_of_le lg0 bw13.size
  replace s0 := s0.below bw13
  replace x0 := x0.below bw13
  replace x1 := x1.below bw13
  replace g0 := g0.below bw13
  have qw13 := bw13.size
  replace B := B.trans (bw13.mono B.size)
  clear bw13
  go_wp2_with (first | (refine wpList_load_rowG (by rfl) 25 _ rfl (w.heap.size) rfl A0 (loadRowX ga0 Tryd.underlying25 rfl (by rw [HAa0.out.1]; kernel_rfl)) ?_) | (refine wpList_load_rowG (by rfl) 31 _ rfl (w4.heap.size) rfl As0 (loadRowX gs0 Tryd.underlying31 rfl (by rw [HAs0.out.1]; kernel_rfl)) ?_) | (refine wpList_load_rowG (by rfl) 31 _ rfl (w6.heap.size) rfl Ax0 (loadRowX gx0 Tryd.underlying31 rfl (by rw [HAx0.out.1]; kernel_rfl)) ?_) | (refine wpList_load_rowG (by rfl) 31 _ rfl (w9.heap.size) rfl Ag0 (loadRowX gg0 Tryd.underlying31 rfl (by rw [HAg0.out.1]; kernel_rfl)) ?_) | fail)
  obtain ⟨kxw14, rxw14⟩ := x1.rd
  obtain ⟨kyw14, ryw14⟩ := y1.rd
  refine (eqIntS_t _ _ _ _ _ _ rxw14 ryw14 hL1).mono ?_
  rintro e w14 ⟨rfl, bw14⟩
  replace ga0 := (bw14.block _ la0).trans ga0
  replace la0 := Nat.lt_of_lt_of_le la0 bw14.size
  replace gs0 := (bw14.block _ ls0).trans gs0
  replace ls0 := Nat.lt_of_lt_of_le ls0 bw14.size
  replace gx0 := (bw14.block _ lx0).trans gx0
  replace lx0 := Nat.lt_of_lt_of_le lx0 bw14.size
  replace gg0 := (bw14.block _ lg0).trans gg0
  replace lg0 := Nat.lt_of_lt_of_le lg0 bw14.size
  replace s0 := s0.below bw14
  replace x0 := x0.below bw14
  replace x1 := x1.below bw14
  replace g0 := g0.below bw14
  replace y1 := y1.below bw14
  have qw14 := bw14.size
  replace B := B.trans (bw14.mono B.size)
  clear bw14
  clear y1
  go_wp2_with (first | (refine wpList_load_rowG (by rfl) 25 _ rfl (w.heap.size) rfl A0 (loadRowX ga0 Tryd.underlying25 rfl (by rw [HAa0.out.1]; kernel_rfl)) ?_) | (refine wpList_load_rowG (by rfl) 31 _ rfl (w4.heap.size) rfl As0 (loadRowX gs0 Tryd.underlying31 rfl (by rw [HAs0.out.1]; kernel_rfl)) ?_) | (refine wpList_load_rowG (by rfl) 31 _ rfl (w6.heap.size) rfl Ax0 (loadRowX gx0 Tryd.underlying31 rfl (by rw [HAx0.out.1]; kernel_rfl)) ?_) | (refine wpList_load_rowG (by rfl) 31 _ rfl (w9.heap.size) rfl Ag0 (loadRowX gg0 Tryd.underlying31 rfl (by rw [HAg0.out.1]; kernel_rfl)) ?_) | fail)
  refine (markDeal_any _ (z0) (1) _ x0 hl0 (by omega) (by omega) (fun b hb => by have := hb.1; have := hb.2; omega)).mono ?_
  rintro e w15 ⟨rfl, kx0, tw15⟩
  replace ga0 := touch_heap tw15 ga0 (fun hb => by have := hb.1; have := hb.2; omega)
  replace la0 := Nat.lt_of_lt_of_le la0 tw15.size
  replace gs0 := touch_heap tw15 gs0 (fun hb => by have := hb.1; have := hb.2; omega)
  replace ls0 := Nat.lt_of_lt_of_le ls0 tw15.size
  replace gx0 := touch_heap tw15 gx0 (fun hb => by have := hb.1; have := hb.2; omega)
  replace lx0 := Nat.lt_of_lt_of_le lx0 tw15.size
  replace gg0 := touch_heap tw15 gg0 (fun hb => by have := hb.1; have := hb.2; omega)
  replace lg0 := Nat.lt_of_lt_of_le lg0 tw15.size
  replace s0 := s0.touch tw15 (fun b h1 h2 => by have := h1.1; have := h1.2; have := h2.1; have := h2.2; omega)
  replace x1 := x1.touch tw15 (fun b h1 h2 => by have := h1.1; have := h1.2; have := h2.1; have := h2.2; omega)
  replace g0 := g0.touch tw15 (fun b h1 h2 => by have := h1.1; have := h1.2; have := h2.1; have := h2.2; omega)
  have qw15 : w14.heap.size ≤ w15.heap.size := tw15.size
  replace B := Below.thenTouch B tw15 (by omega) (fun b hb => by have := hb.1; have := hb.2; omega)
  clear tw15 x0
  clear kx0
  go_wp2_with (first | (refine wpList_load_rowG (by rfl) 25 _ rfl (w.heap.size) rfl A0 (loadRowX ga0 Tryd.underlying25 rfl (by rw [HAa0.out.1]; kernel_rfl)) ?_) | (refine wpList_load_rowG (by rfl) 31 _ rfl (w4.heap.size) rfl As0 (loadRowX gs0 Tryd.underlying31 rfl (by rw [HAs0.out.1]; kernel_rfl)) ?_) | (refine wpList_load_rowG (by rfl) 31 _ rfl (w6.heap.size) rfl Ax0 (loadRowX gx0 Tryd.underlying31 rfl (by rw [HAx0.out.1]; kernel_rfl)) ?_) | (refine wpList_load_rowG (by rfl) 31 _ rfl (w9.heap.size) rfl Ag0 (loadRowX gg0 Tryd.underlying31 rfl (by rw [HAg0.out.1]; kernel_rfl)) ?_) | fail)
  refine (markIn (zs := z1) x1 (k := 1 + ((z0).total : Nat)) (by omega) (by omega) (by omega)).mono ?_
  rintro e w16 ⟨rfl, kx1, tw16, -⟩
  replace ga0 := touch_heap tw16 ga0 (fun hb => by have := hb.1; have := hb.2; omega)
  replace la0 := Nat.lt_of_lt_of_le la0 tw16.size
  replace gs0 := touch_heap tw16 gs0 (fun hb => by have := hb.1; have := hb.2; omega)
  replace ls0 := Nat.lt_of_lt_of_le ls0 tw16.size
  replace gx0 := touch_heap tw16 gx0 (fun hb => by have := hb.1; have := hb.2; omega)
  replace lx0 := Nat.lt_of_lt_of_le lx0 tw16.size
  replace gg0 := touch_heap tw16 gg0 (fun hb => by have := hb.1; have := hb.2; omega)
  replace lg0 := Nat.lt_of_lt_of_le lg0 tw16.size
  replace s0 := s0.touch tw16 (fun b h1 h2 => by have := h1.1; have := h1.2; have := h2.1; have := h2.2; omega)
  replace g0 := g0.touch tw16 (fun b h1 h2 => by have := h1.1; have := h1.2; have := h2.1; have := h2.2; omega)
  have qw16 : w15.heap.size ≤ w16.heap.size := tw16.size
  replace B := Below.thenTouch B tw16 (by omega) (fun b hb => by have := hb.1; have := hb.2; omega)
  clear tw16 x1
  clear kx1
  go_wp2_with (first | (refine wpList_load_rowG (by rfl) 25 _ rfl (w.heap.size) rfl A0 (loadRowX ga0 Tryd.underlying25 rfl (by rw [HAa0.out.1]; kernel_rfl)) ?_) | (refine wpList_load_rowG (by rfl) 31 _ rfl (w4.heap.size) rfl As0 (loadRowX gs0 Tryd.underlying31 rfl (by rw [HAs0.out.1]; kernel_rfl)) ?_) | (refine wpList_load_rowG (by rfl) 31 _ rfl (w6.heap.size) rfl Ax0 (loadRowX gx0 Tryd.underlying31 rfl (by rw [HAx0.out.1]; kernel_rfl)) ?_) | (refine wpList_load_rowG (by rfl) 31 _ rfl (w9.heap.size) rfl Ag0 (loadRowX gg0 Tryd.underlying31 rfl (by rw [HAg0.out.1]; kernel_rfl)) ?_) | fail)
  refine (eqDeal_t _ _ _ _ g0.rd s0.rd hF0.out).mono ?_
  rintro e w17 ⟨rfl, bw17⟩
  replace ga0 := (bw17.block _ la0).trans ga0
  replace la0 := Nat.lt_of_lt_of_le la0 bw17.size
  replace gs0 := (bw17.block _ ls0).trans gs0
  replace ls0 := Nat.lt_of_lt_of_le ls0 bw17.size
  replace gx0 := (bw17.block _ lx0).trans gx0
  replace lx0 := Nat.lt_of_lt_of_le lx0 bw17.size
  replace gg0 := (bw17.block _ lg0).trans gg0
  replace lg0 := Nat.lt_of_lt_of_le lg0 bw17.size
  replace s0 := s0.below bw17
  replace g0 := g0.below bw17
  have qw17 := bw17.size
  replace B := B.trans (bw17.mono B.size)
  clear bw17
  go_wp2_with (first | (refine wpList_load_rowG (by rfl) 25 _ rfl (w.heap.size) rfl A0 (loadRowX ga0 Tryd.underlying25 rfl (by rw [HAa0.out.1]; kernel_rfl)) ?_) | (refine wpList_load_rowG (by rfl) 31 _ rfl (w4.heap.size) rfl As0 (loadRowX gs0 Tryd.underlying31 rfl (by rw [HAs0.out.1]; kernel_rfl)) ?_) | (refine wpList_load_rowG (by rfl) 31 _ rfl (w6.heap.size) rfl Ax0 (loadRowX gx0 Tryd.underlying31 rfl (by rw [HAx0.out.1]; kernel_rfl)) ?_) | (refine wpList_load_rowG (by rfl) 31 _ rfl (w9.heap.size) rfl Ag0 (loadRowX gg0 Tryd.underlying31 rfl (by rw [HAg0.out.1]; kernel_rfl)) ?_) | fail)
  refine (markDeal_any _ (playAllD z0 z1) (1) _ g0 hF0.out (by omega) (by omega) (fun b hb => by have := hb.1; have := hb.2; omega)).mono ?_
  rintro e w18 ⟨rfl, kg0, tw18⟩
  replace ga0 := touch_heap tw18 ga0 (fun hb => by have := hb.1; have := hb.2; omega)
  replace la0 := Nat.lt_of_lt_of_le la0 tw18.size
  replace gs0 := touch_heap tw18 gs0 (fun hb => by have := hb.1; have := hb.2; omega)
  replace ls0 := Nat.lt_of_lt_of_le ls0 tw18.size
  replace gx0 := touch_heap tw18 gx0 (fun hb => by have := hb.1; have := hb.2; omega)
  replace lx0 := Nat.lt_of_lt_of_le lx0 tw18.size
  replace gg0 := touch_heap tw18 gg0 (fun hb => by have := hb.1; have := hb.2; omega)
  replace lg0 := Nat.lt_of_lt_of_le lg0 tw18.size
  replace s0 := s0.touch tw18 (fun b h1 h2 => by have := h1.1; have := h1.2; have := h2.1; have := h2.2; omega)
  have qw18 : w17.heap.size ≤ w18.heap.size := tw18.size
  replace B := Below.thenTouch B tw18 (by omega) (fun b hb => by have := hb.1; have := hb.2; omega)
  clear tw18 g0
  go_wp2_with (first | (refine wpList_load_rowG (by rfl) 25 _ rfl (w.heap.size) rfl A0 (loadRowX ga0 Tryd.underlying25 rfl (by rw [HAa0.out.1]; kernel_rfl)) ?_) | (refine wpList_load_rowG (by rfl) 31 _ rfl (w4.heap.size) rfl As0 (loadRowX gs0 Tryd.underlying31 rfl (by rw [HAs0.out.1]; kernel_rfl)) ?_) | (refine wpList_load_rowG (by rfl) 31 _ rfl (w6.heap.size) rfl Ax0 (loadRowX gx0 Tryd.underlying31 rfl (by rw [HAx0.out.1]; kernel_rfl)) ?_) | (refine wpList_load_rowG (by rfl) 31 _ rfl (w9.heap.size) rfl Ag0 (loadRowX gg0 Tryd.underlying31 rfl (by rw [HAg0.out.1]; kernel_rfl)) ?_) | fail)
  refine (heldDeal_any _ (playAllD z0 z1) (1) _ kg0.rd hF0.out (by omega) (by omega)).mono ?_
  rintro e w19 ⟨rfl, bw19⟩
  replace ga0 := (bw19.block _ la0).trans ga0
  replace la0 := Nat.lt_of_lt_of_le la0 bw19.size
  replace gs0 := (bw19.block _ ls0).trans gs0
  replace ls0 := Nat.lt_of_lt_of_le ls0 bw19.size
  replace gx0 := (bw19.block _ lx0).trans gx0
  replace lx0 := Nat.lt_of_lt_of_le lx0 bw19.size
  replace gg0 := (bw19.block _ lg0).trans gg0
  replace lg0 := Nat.lt_of_lt_of_le lg0 bw19.size
  replace s0 := s0.below bw19
  replace kg0 := kg0.below bw19
  have qw19 := bw19.size
  replace B := B.trans (bw19.mono B.size)
  clear bw19
  go_wp2_with (first | (refine wpList_load_rowG (by rfl) 25 _ rfl (w.heap.size) rfl A0 (loadRowX ga0 Tryd.underlying25 rfl (by rw [HAa0.out.1]; kernel_rfl)) ?_) | (refine wpList_load_rowG (by rfl) 31 _ rfl (w4.heap.size) rfl As0 (loadRowX gs0 Tryd.underlying31 rfl (by rw [HAs0.out.1]; kernel_rfl)) ?_) | (refine wpList_load_rowG (by rfl) 31 _ rfl (w6.heap.size) rfl Ax0 (loadRowX gx0 Tryd.underlying31 rfl (by rw [HAx0.out.1]; kernel_rfl)) ?_) | (refine wpList_load_rowG (by rfl) 31 _ rfl (w9.heap.size) rfl Ag0 (loadRowX gg0 Tryd.underlying31 rfl (by rw [HAg0.out.1]; kernel_rfl)) ?_) | fail)
  refine (toDeal_w _ z0 _ (h0.below B) hl0).mono ?_
  rintro e w20 ⟨c0v, rfl, c0, bw20⟩
  replace ga0 := (bw20.block _ la0).trans ga0
  replace la0 := Nat.lt_of_lt_of_le la0 bw20.size
  replace gs0 := (bw20.block _ ls0).trans gs0
  replace ls0 := Nat.lt_of_lt_of_le ls0 bw20.size
  replace gx0 := (bw20.block _ lx0).trans gx0
  replace lx0 := Nat.lt_of_lt_of_le lx0 bw20.size
  replace gg0 := (bw20.block _ lg0).trans gg0
  replace lg0 := Nat.lt_of_lt_of_le lg0 bw20.size
  replace s0 := s0.below bw20
  replace kg0 := kg0.below bw20
  have qw20 := bw20.size
  replace B := B.trans (bw20.mono B.size)
  clear bw20
  go_wp2_with (first | (refine wpList_load_rowG (by rfl) 25 _ rfl (w.heap.size) rfl A0 (loadRowX ga0 Tryd.underlying25 rfl (by rw [HAa0.out.1]; kernel_rfl)) ?_) | (refine wpList_load_rowG (by rfl) 31 _ rfl (w4.heap.size) rfl As0 (loadRowX gs0 Tryd.underlying31 rfl (by rw [HAs0.out.1]; kernel_rfl)) ?_) | (refine wpList_load_rowG (by rfl) 31 _ rfl (w6.heap.size) rfl Ax0 (loadRowX gx0 Tryd.underlying31 rfl (by rw [HAx0.out.1]; kernel_rfl)) ?_) | (refine wpList_load_rowG (by rfl) 31 _ rfl (w9.heap.size) rfl Ag0 (loadRowX gg0 Tryd.underlying31 rfl (by rw [HAg0.out.1]; kernel_rfl)) ?_) | fail)
  refine (toIntS_any _ z1 b1 _ (h1.below B) hL1).mono ?_
  rintro e w21 ⟨c1v, rfl, c1, bw21, -⟩
  replace c1 := WrIn.of c1 (Nat.le_refl _)
  replace ga0 := (bw21.block _ la0).trans ga0
  replace la0 := Nat.lt_of_lt_of_le la0 bw21.size
  replace gs0 := (bw21.block _ ls0).trans gs0
  replace ls0 := Nat.lt_of_lt_of_le ls0 bw21.size
  replace gx0 := (bw21.block _ lx0).trans gx0
  replace lx0 := Nat.lt_of_lt_of_le lx0 bw21.size
  replace gg0 := (bw21.block _ lg0).trans gg0
  replace lg0 := Nat.lt_of_lt_of_le lg0 bw21.size
  replace s0 := s0.below bw21
  replace kg0 := kg0.below bw21
  replace c0 := c0.below bw21
  have qw21 := bw21.size
  replace B := B.trans (bw21.mono B.size)
  clear bw21
  go_wp2_with (first | (refine wpList_load_rowG (by rfl) 25 _ rfl (w.heap.size) rfl A0 (loadRowX ga0 Tryd.underlying25 rfl (by rw [HAa0.out.1]; kernel_rfl)) ?_) | (refine wpList_load_rowG (by rfl) 31 _ rfl (w4.heap.size) rfl As0 (loadRowX gs0 Tryd.underlying31 rfl (by rw [HAs0.out.1]; kernel_rfl)) ?_) | (refine wpList_load_rowG (by rfl) 31 _ rfl (w6.heap.size) rfl Ax0 (loadRowX gx0 Tryd.underlying31 rfl (by rw [HAx0.out.1]; kernel_rfl)) ?_) | (refine wpList_load_rowG (by rfl) 31 _ rfl (w9.heap.size) rfl Ag0 (loadRowX gg0 Tryd.underlying31 rfl (by rw [HAg0.out.1]; kernel_rfl)) ?_) | fail)
  obtain ⟨kc1, rc1⟩ := c1.rd
  refine (playAll_any sa sb _ _ z0 z1 _ _ c0.rd rc1 hl0 (by omega) (hS.below B (Nat.le_refl _))).mono ?_
  rintro e w22 ⟨tv0, rfl, t0, bw22⟩
  replace ga0 := (bw22.block _ la0).trans ga0
  replace la0 := Nat.lt_of_lt_of_le la0 bw22.size
  replace gs0 := (bw22.block _ ls0).trans gs0
  replace ls0 := Nat.lt_of_lt_of_le ls0 bw22.size
  replace gx0 := (bw22.block _ lx0).trans gx0
  replace lx0 := Nat.lt_of_lt_of_le lx0 bw22.size
  replace gg0 := (bw22.block _ lg0).trans gg0
  replace lg0 := Nat.lt_of_lt_of_le lg0 bw22.size
  replace s0 := s0.below bw22
  replace kg0 := kg0.below bw22
  replace c0 := c0.below bw22
  replace c1 := c1.below bw22
  have qw22 := bw22.size
  replace B := B.trans (bw22.mono B.size)
  clear bw22
  clear c0 c1
  obtain ⟨At0, hAt0, hvt0⟩ := aggDealX t0.rd
  subst hvt0
  have HAt0 := Lib.hid hAt0
  clear hAt0
  have HF := freshX w22 #[.slice none 0 0, .int .i64 0, .int .i64 0, .slice none 0 0, .slice none 0 0, .slice none 0 0, .int .i64 0] At0 31
  have Ga0 := ((HF.2.1.block _ la0).trans ga0)
  have Gs0 := ((HF.2.1.block _ ls0).trans gs0)
  have Gx0 := ((HF.2.1.block _ lx0).trans gx0)
  have Gg0 := ((HF.2.1.block _ lg0).trans gg0)
  have HF2 := Lib.hid HF
  clear HF
  go_wp2_with (first | (refine wpList_store_row rfl 31 _ _ rfl w22.heap.size At0 rfl rfl 31 _ (heap_alloc_new _ _) (by rw [HAt0.out.1]; kernel_rfl) (by rw [HAt0.out.1]; rfl) HAt0.out.2 ?_) | (refine wpList_load_rowG (by rfl) 25 _ rfl (w.heap.size) rfl A0 (loadRowX ga0 Tryd.underlying25 rfl (by rw [HAa0.out.1]; kernel_rfl)) ?_) | (refine wpList_load_rowG (by rfl) 31 _ rfl (w4.heap.size) rfl As0 (loadRowX gs0 Tryd.underlying31 rfl (by rw [HAs0.out.1]; kernel_rfl)) ?_) | (refine wpList_load_rowG (by rfl) 31 _ rfl (w6.heap.size) rfl Ax0 (loadRowX gx0 Tryd.underlying31 rfl (by rw [HAx0.out.1]; kernel_rfl)) ?_) | (refine wpList_load_rowG (by rfl) 31 _ rfl (w9.heap.size) rfl Ag0 (loadRowX gg0 Tryd.underlying31 rfl (by rw [HAg0.out.1]; kernel_rfl)) ?_) | (refine wpList_load_rowG (by rfl) 25 _ rfl (w.heap.size) rfl A0 (loadRowX Ga0 Tryd.underlying25 rfl (by rw [HAa0.out.1]; kernel_rfl)) ?_) | (refine wpList_load_rowG (by rfl) 31 _ rfl (w4.heap.size) rfl As0 (loadRowX Gs0 Tryd.underlying31 rfl (by rw [HAs0.out.1]; kernel_rfl)) ?_) | (refine wpList_load_rowG (by rfl) 31 _ rfl (w6.heap.size) rfl Ax0 (loadRowX Gx0 Tryd.underlying31 rfl (by rw [HAx0.out.1]; kernel_rfl)) ?_) | (refine wpList_load_rowG (by rfl) 31 _ rfl (w9.heap.size) rfl Ag0 (loadRowX Gg0 Tryd.underlying31 rfl (by rw [HAg0.out.1]; kernel_rfl)) ?_) | (refine wpList_load_rowG (by rfl) 31 _ rfl (w22.heap.size) rfl At0 (loadRowX HF2.out.1 Tryd.underlying31 rfl (by rw [HAt0.out.1]; kernel_rfl)) ?_) | fail)
  clear Ga0 Gs0 Gx0 Gg0
  have HF := HF2.out
  clear HF2
  generalize (World.setRow (World.alloc w22 (.cells #[.slice none 0 0, .int .i64 0, .int .i64 0, .slice none 0 0, .slice none 0 0, .slice none 0 0, .int .i64 0] 31)) w22.heap.size At0) = w23 at HF ⊢
  obtain ⟨gt0, bxt0, lt0⟩ := HF
  replace ga0 := (bxt0.block _ la0).trans ga0
  replace la0 := Nat.lt_of_lt_of_le la0 bxt0.size
  replace gs0 := (bxt0.block _ ls0).trans gs0
  replace ls0 := Nat.lt_of_lt_of_le ls0 bxt0.size
  replace gx0 := (bxt0.block _ lx0).trans gx0
  replace lx0 := Nat.lt_of_lt_of_le lx0 bxt0.size
  replace gg0 := (bxt0.block _ lg0).trans gg0
  replace lg0 := Nat.lt_of_lt_of_le lg0 bxt0.size
  replace s0 := s0.below bxt0
  replace kg0 := kg0.below bxt0
  replace t0 := t0.below bxt0
  have qw23 := bxt0.size
  replace B := B.trans (bxt0.mono B.size)
  clear bxt0
  have qxw23 := lt0
  refine (eqDeal_t _ _ _ _ t0.rd s0.rd hF0.out).mono ?_
  rintro e w24 ⟨rfl, bw24⟩
  replace ga0 := (bw24.block _ la0).trans ga0
  replace la0 := Nat.lt_of_lt_of_le la0 bw24.size
  replace gs0 := (bw24.block _ ls0).trans gs0
  replace ls0 := Nat.lt_of_lt_of_le ls0 bw24.size
  replace gx0 := (bw24.block _ lx0).trans gx0
  replace lx0 := Nat.lt_of_lt_of_le lx0 bw24.size
  replace gg0 := (bw24.block _ lg0).trans gg0
  replace lg0 := Nat.lt_of_lt_of_le lg0 bw24.size
  replace gt0 := (bw24.block _ lt0).trans gt0
  replace lt0 := Nat.lt_of_lt_of_le lt0 bw24.size
  replace s0 := s0.below bw24
  replace kg0 := kg0.below bw24
  replace t0 := t0.below bw24
  have qw24 := bw24.size
  replace B := B.trans (bw24.mono B.size)
  clear bw24
  clear t0
  clear s0
  go_wp2_with (first | (refine wpList_load_rowG (by rfl) 25 _ rfl (w.heap.size) rfl A0 (loadRowX ga0 Tryd.underlying25 rfl (by rw [HAa0.out.1]; kernel_rfl)) ?_) | (refine wpList_load_rowG (by rfl) 31 _ rfl (w4.heap.size) rfl As0 (loadRowX gs0 Tryd.underlying31 rfl (by rw [HAs0.out.1]; kernel_rfl)) ?_) | (refine wpList_load_rowG (by rfl) 31 _ rfl (w6.heap.size) rfl Ax0 (loadRowX gx0 Tryd.underlying31 rfl (by rw [HAx0.out.1]; kernel_rfl)) ?_) | (refine wpList_load_rowG (by rfl) 31 _ rfl (w9.heap.size) rfl Ag0 (loadRowX gg0 Tryd.underlying31 rfl (by rw [HAg0.out.1]; kernel_rfl)) ?_) | (refine wpList_load_rowG (by rfl) 31 _ rfl (w22.heap.size) rfl At0 (loadRowX gt0 Tryd.underlying31 rfl (by rw [HAt0.out.1]; kernel_rfl)) ?_) | fail)
  refine (heldDeal_any _ (playAllD z0 z1) (1) _ kg0.rd hF0.out (by omega) (by omega)).mono ?_
  rintro e w25 ⟨rfl, bw25⟩
  replace ga0 := (bw25.block _ la0).trans ga0
  replace la0 := Nat.lt_of_lt_of_le la0 bw25.size
  replace gs0 := (bw25.block _ ls0).trans gs0
  replace ls0 := Nat.lt_of_lt_of_le ls0 bw25.size
  replace gx0 := (bw25.block _ lx0).trans gx0
  replace lx0 := Nat.lt_of_lt_of_le lx0 bw25.size
  replace gg0 := (bw25.block _ lg0).trans gg0
  replace lg0 := Nat.lt_of_lt_of_le lg0 bw25.size
  replace gt0 := (bw25.block _ lt0).trans gt0
  replace lt0 := Nat.lt_of_lt_of_le lt0 bw25.size
  replace kg0 := kg0.below bw25
  have qw25 := bw25.size
  replace B := B.trans (bw25.mono B.size)
  clear bw25
  go_wp2_with (first | (refine wpList_load_rowG (by rfl) 25 _ rfl (w.heap.size) rfl A0 (loadRowX ga0 Tryd.underlying25 rfl (by rw [HAa0.out.1]; kernel_rfl)) ?_) | (refine wpList_load_rowG (by rfl) 31 _ rfl (w4.heap.size) rfl As0 (loadRowX gs0 Tryd.underlying31 rfl (by rw [HAs0.out.1]; kernel_rfl)) ?_) | (refine wpList_load_rowG (by rfl) 31 _ rfl (w6.heap.size) rfl Ax0 (loadRowX gx0 Tryd.underlying31 rfl (by rw [HAx0.out.1]; kernel_rfl)) ?_) | (refine wpList_load_rowG (by rfl) 31 _ rfl (w9.heap.size) rfl Ag0 (loadRowX gg0 Tryd.underlying31 rfl (by rw [HAg0.out.1]; kernel_rfl)) ?_) | (refine wpList_load_rowG (by rfl) 31 _ rfl (w22.heap.size) rfl At0 (loadRowX gt0 Tryd.underlying31 rfl (by rw [HAt0.out.1]; kernel_rfl)) ?_) | fail)
  go_ret
  exact ⟨rfl, B⟩

end Go.Proofs.YtbojhbhniollaaaDoor
