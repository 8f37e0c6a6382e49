/-
  The walk of the law FnExactUnseen, out of the contracts of both sides.
-/
import Derived.Test.YtepjijmgfdgfhaaDoorUnseen
import Derived.Test.YtepjijmgfdgfhaaDoorFrX
import Derived.Test.YtepjijmgfdgfhaaDoorNSight
namespace Go.Proofs.YtepjijmgfdgfhaaDoor
open Go.RowKit
set_option linter.unusedVariables false
set_option linter.unusedSimpArgs false

theorem aggSightX {w : World} {v : Value} {D : MSight} (h : RdSight w v D) : ∃ A : Array Value, (A.size = 7 ∧ A.all (·.oneCell') = true) ∧ v = .agg A := by
  obtain ⟨p1, p2, p5, p6, c1, c2, c5, c6, hv⟩ := h.shape
  exact ⟨_, ⟨rfl, by simp [Value.oneCell']⟩, hv⟩
set_option linter.unusedVariables false in
set_option maxRecDepth 100000 in
set_option maxHeartbeats 4000000 in
theorem fnExactUnseen_walk (v0 : Value) (z0 : MSight) (v1 : Value) (z1 : List Int) (b1 : Nat) (w : World) (h0 : RdSight w v0 z0) (h1 : RdAt .i64 w v1 z1 b1) (hZ : TabZ w) :
    Calls Tryd.prog 4 #[v0, v1] w fun e w' => e = .returned (.bool true) ∧ Below w.heap.size w w' := by
  by_cases hbig1 : 1048576 < z1.length
  · skip
    obtain ⟨A0, hA0, hv0⟩ := aggSightX h0
    obtain ⟨p1, cap1, hv1, -⟩ := id h1
    subst hv0
    subst hv1
    have HAx0 := Lib.hid hA0
    clear hA0
    go_enter Tryd.func4, Tryd.ntmps4
    go_wp2_with fail
    go_ret
    exact ⟨rfl, by first | exact Below.refl _ _ | exact (Below.refl _ _).alloc (Nat.le_refl _) _ | exact ((Below.refl _ _).alloc (Nat.le_refl _) _).alloc (by simp) _⟩
  have hl1 : z1.length ≤ 1048576 := by omega
  have hL1 : z1.length ≤ 1099511627776 := by omega
  clear hbig1
  obtain ⟨A0, hA0, hv0⟩ := aggSightX h0
  obtain ⟨p1, cap1, hv1, -⟩ := id h1
  subst hv0
  subst hv1
  have B : Below w.heap.size w (w.alloc (.cells A0 28)) := ((Below.refl w.heap.size w).alloc (by simp) _)
  have ga0 : ((w.alloc (.cells A0 28))).heap[w.heap.size]? = some (.cells A0 28 (0, 0)) := by
    show (Array.push (w.heap) _)[_]? = _
    rw [Array.getElem?_push, if_pos (by simp)]
  have la0 : w.heap.size < ((w.alloc (.cells A0 28))).heap.size := by simp
  have HAa0 := Lib.hid hA0
  clear hA0
  have qla0 := la0
  have qw0 := B.size
  go_enter Tryd.func4, Tryd.ntmps4
  go_wp2_with (first | (refine wpList_load_rowG (by rfl) 28 _ rfl (w.heap.size) rfl A0 (loadRowX ga0 Tryd.underlying28 rfl (by rw [HAa0.out.1]; kernel_rfl)) ?_) | fail)
  generalize (w.alloc (.cells A0 28)) = w0 at B ga0 la0 qla0 qw0 ⊢
  refine (szSight_any _ z0 1048576 _ (h0.below B) (by omega) (by omega)).mono ?_
  rintro e w1 ⟨⟨r0, rfl, rn0, rm0, hr0⟩, bw1⟩
  replace ga0 := (bw1.block _ la0).trans ga0
  replace la0 := Nat.lt_of_lt_of_le la0 bw1.size
  have qw1 := bw1.size
  replace B := B.trans (bw1.mono B.size)
  clear bw1
  by_cases hneg0 : r0 < 0
  · go_wp2_with fail
    go_ret
    exact ⟨rfl, B⟩
  have hl0 : z0.Few := hr0 (by omega)
  have tl0 := MSight.total_le hl0
  clear hr0
  have hF0 : Hid ((missing (unseenL z0 z1)).length ≤ 1048576) := Lib.hid (by have := missing_len (unseenL z0 z1); omega)
  have uF0 := hF0.out
  go_wp2_with (first | (refine wpList_load_rowG (by rfl) 28 _ rfl (w.heap.size) rfl A0 (loadRowX ga0 Tryd.underlying28 rfl (by rw [HAa0.out.1]; kernel_rfl)) ?_) | fail)
  refine (toSight_w _ z0 _ (h0.below B) hl0).mono ?_
  rintro e w2 ⟨m0v, rfl, m0, bw2⟩
  replace ga0 := (bw2.block _ la0).trans ga0
  replace la0 := Nat.lt_of_lt_of_le la0 bw2.size
  have qw2 := bw2.size
  replace B := B.trans (bw2.mono B.size)
  clear bw2
  go_wp2_with (first | (refine wpList_load_rowG (by rfl) 28 _ rfl (w.heap.size) rfl A0 (loadRowX ga0 Tryd.underlying28 rfl (by rw [HAa0.out.1]; kernel_rfl)) ?_) | fail)
  refine (toIntS_any _ z1 b1 _ (h1.below B) hL1).mono ?_
  rintro e w3 ⟨m1v, rfl, m1, bw3, -⟩
  replace m1 := WrIn.of m1 (Nat.le_refl _)
  replace ga0 := (bw3.block _ la0).trans ga0
  replace la0 := Nat.lt_of_lt_of_le la0 bw3.size
  replace m0 := m0.below bw3
  have qw3 := bw3.size
  replace B := B.trans (bw3.mono B.size)
  clear bw3
  go_wp2_with (first | (refine wpList_load_rowG (by rfl) 28 _ rfl (w.heap.size) rfl A0 (loadRowX ga0 Tryd.underlying28 rfl (by rw [HAa0.out.1]; kernel_rfl)) ?_) | fail)
  obtain ⟨km1, rm1⟩ := m1.rd
  refine (toIn1 (sUnseen_any _ _ z0 z1 _ _ m0.rd hl0 rm1 hl1)).mono ?_
  rintro e w4 ⟨sv0, rfl, s0, bw4⟩
  replace ga0 := (bw4.block _ la0).trans ga0
  replace la0 := Nat.lt_of_lt_of_le la0 bw4.size
  replace m0 := m0.below bw4
  replace m1 := m1.below bw4
  have qw4 := bw4.size
  replace B := B.trans (bw4.mono B.size)
  clear bw4
  clear m0 m1
  go_wp2_with (first | (refine wpList_load_rowG (by rfl) 28 _ rfl (w.heap.size) rfl A0 (loadRowX ga0 Tryd.underlying28 rfl (by rw [HAa0.out.1]; kernel_rfl)) ?_) | fail)
  refine (toSight_w _ z0 _ (h0.below B) hl0).mono ?_
  rintro e w5 ⟨x0v, rfl, x0, bw5⟩
  replace ga0 := (bw5.block _ la0).trans ga0
  replace la0 := Nat.lt_of_lt_of_le la0 bw5.size
  replace s0 := s0.below bw5
  have qw5 := bw5.size
  replace B := B.trans (bw5.mono B.size)
  clear bw5
  obtain ⟨Ax0, hAx0, hvx0⟩ := aggSightX x0.rd
  subst hvx0
  have HAx0 := Lib.hid hAx0
  clear hAx0
  have HF := freshX w5 #[.int .i64 0, .slice none 0 0, .slice none 0 0, .int .i64 0, .int .i64 0, .slice none 0 0, .slice none 0 0] Ax0 31
  have Ga0 := ((HF.2.1.block _ la0).trans ga0)
  have HF2 := Lib.hid HF
  clear HF
  go_wp2_with (first | (refine wpList_store_row rfl 31 _ _ rfl w5.heap.size Ax0 rfl rfl 31 _ (heap_alloc_new _ _) (by rw [HAx0.out.1]; kernel_rfl) (by rw [HAx0.out.1]; rfl) HAx0.out.2 ?_) | (refine wpList_load_rowG (by rfl) 28 _ rfl (w.heap.size) rfl A0 (loadRowX ga0 Tryd.underlying28 rfl (by rw [HAa0.out.1]; kernel_rfl)) ?_) | (refine wpList_load_rowG (by rfl) 28 _ rfl (w.heap.size) rfl A0 (loadRowX Ga0 Tryd.underlying28 rfl (by rw [HAa0.out.1]; kernel_rfl)) ?_) | (refine wpList_load_rowG (by rfl) 31 _ rfl (w5.heap.size) rfl Ax0 (loadRowX HF2.out.1 Tryd.underlying31 rfl (by rw [HAx0.out.1]; kernel_rfl)) ?_) | fail)
  clear Ga0
  have HF := HF2.out
  clear HF2
  generalize (World.setRow (World.alloc w5 (.cells #[.int .i64 0, .slice none 0 0, .slice none 0 0, .int .i64 0, .int .i64 0, .slice none 0 0, .slice none 0 0] 31)) w5.heap.size Ax0) = w6 at HF ⊢
  obtain ⟨gx0, bxx0, lx0⟩ := HF
  replace ga0 := (bxx0.block _ la0).trans ga0
  replace la0 := Nat.lt_of_lt_of_le la0 bxx0.size
  replace s0 := s0.below bxx0
  replace x0 := x0.below bxx0
  have qw6 := bxx0.size
  replace B := B.trans (bxx0.mono B.size)
  clear bxx0
  have qxw6 := lx0
  refine (toIntS_any _ z1 b1 _ (h1.below B) hL1).mono ?_
  rintro e w7 ⟨x1v, rfl, x1, bw7, -⟩
  replace x1 := WrIn.of x1 (Nat.le_refl _)
  replace ga0 := (bw7.block _ la0).trans ga0
  replace la0 := Nat.lt_of_lt_of_le la0 bw7.size
  replace gx0 := (bw7.block _ lx0).trans gx0
  replace lx0 := Nat.lt_of_lt_of_le lx0 bw7.size
  replace s0 := s0.below bw7
  replace x0 := x0.below bw7
  have qw7 := bw7.size
  replace B := B.trans (bw7.mono B.size)
  clear bw7
  go_wp2_with (first | (refine wpList_load_rowG (by rfl) 28 _ rfl (w.heap.size) rfl A0 (loadRowX ga0 Tryd.underlying28 rfl (by rw [HAa0.out.1]; kernel_rfl)) ?_) | (refine wpList_load_rowG (by rfl) 31 _ rfl (w5.heap.size) rfl Ax0 (loadRowX gx0 Tryd.underlying31 rfl (by rw [HAx0.out.1]; kernel_rfl)) ?_) | fail)
  obtain ⟨kx1, rx1⟩ := x1.rd
  refine (toIn1 (unseen_any _ _ z0 z1 _ _ x0.rd hl0 rx1 hl1 (hZ.below B))).mono ?_
  rintro e w8 ⟨gv0, rfl, g0, bw8⟩
  replace ga0 := (bw8.block _ la0).trans ga0
  replace la0 := Nat.lt_of_lt_of_le la0 bw8.size
  replace gx0 := (bw8.block _ lx0).trans gx0
  replace lx0 := Nat.lt_of_lt_of_le lx0 bw8.size
  replace s0 := s0.below bw8
  replace x0 := x0.below bw8
  replace x1 := x1.below bw8
  have qw8 := bw8.size
  replace B := B.trans (bw8.mono B.size)
  clear bw8
  skip
  go_wp2_with (first | (refine wpList_load_rowG (by rfl) 28 _ rfl (w.heap.size) rfl A0 (loadRowX ga0 Tryd.underlying28 rfl (by rw [HAa0.out.1]; kernel_rfl)) ?_) | (refine wpList_load_rowG (by rfl) 31 _ rfl (w5.heap.size) rfl Ax0 (loadRowX gx0 Tryd.underlying31 rfl (by rw [HAx0.out.1]; kernel_rfl)) ?_) | fail)
  obtain ⟨kxw9, rxw9⟩ := g0.rd
  obtain ⟨kyw9, ryw9⟩ := s0.rd
  refine (eqIntS_t _ _ _ _ _ _ rxw9 ryw9 (by have := hF0.out; omega)).mono ?_
  rintro e w9 ⟨rfl, bw9⟩
  replace ga0 := (bw9.block _ la0).trans ga0
  replace la0 := Nat.lt_of_lt_of_le la0 bw9.size
  replace gx0 := (bw9.block _ lx0).trans gx0
  replace lx0 := Nat.lt_of_lt_of_le lx0 bw9.size
  replace s0 := s0.below bw9
  replace x0 := x0.below bw9
  replace x1 := x1.below bw9
  replace g0 := g0.below bw9
  have qw9 := bw9.size
  replace B := B.trans (bw9.mono B.size)
  clear bw9
  have HB := Lib.hid B
  have HTo := Lib.hid (fun wx (hb : Below w.heap.size w wx) => toSight_w _ z0 wx (h0.below hb) hl0)
  have HX := Lib.hid (fun wx (hb : Below w9.heap.size w9 wx) => x0.below hb)
  have HG : Hid (∀ wx, Below w9.heap.size w9 wx → wx.heap[w.heap.size]? = some (.cells A0 28 (0, 0)) ∧ wx.heap[w5.heap.size]? = some (.cells Ax0 31 (0, 0))) := Lib.hid (fun wx hb => ⟨(hb.block _ la0).trans ga0, (hb.block _ lx0).trans gx0⟩)
  go_wp2_with fail
  refine wp_region_held_drew (S := fun w' => w'.heap[w.heap.size]? = some (.cells A0 28 (0, 0)) ∧ w'.heap[w5.heap.size]? = some (.cells Ax0 31 (0, 0))) (by kernel_rfl) ⟨ga0, gx0⟩ (fun hHeld => ?_)
  refine wpAnyH_take (i := 0) (oi := { dst := some 38, op := Go.Op.load 31 (Go.Operand.tmp 7), type := 31, pos := "exact.go:4278", after := #[], guard := none }) (v := .agg Ax0) rfl (by kernel_rfl) (by kernel_rfl) (by kernel_rfl) (fun _ _ _ h => h) (yieldsX (by rfl) 31 _ rfl (w5.heap.size) rfl Ax0 31 _ (fun wq hSw => hSw.2) Tryd.underlying31 rfl (by rw [HAx0.out.1]; kernel_rfl)) hHeld ?_
  (try simp only [Act.put, List.setIfInBounds_toArray, List.set_cons_zero, List.set_cons_succ])
  refine wpAnyH_take (i := 1) (oi := { dst := some 39, op := Go.Op.load 28 (Go.Operand.tmp 2), type := 28, pos := "exact.go:4278", after := #[], guard := none }) (v := .agg A0) rfl (by kernel_rfl) (by kernel_rfl) (by kernel_rfl) (fun _ _ _ h => h) (yieldsX (by rfl) 28 _ rfl (w.heap.size) rfl A0 28 _ (fun wq hSw => hSw.1) Tryd.underlying28 rfl (by rw [HAa0.out.1]; kernel_rfl)) hHeld ?_
  (try simp only [Act.put, List.setIfInBounds_toArray, List.set_cons_zero, List.set_cons_succ])
  refine wpAnyH_ready (rs := [2]) (by kernel_rfl) (by simp) ?_
  refine AllReadyH.cons (o := { dst := some 40, op := Go.Op.call { callee := Go.Callee.value (Go.Operand.func 14), args := #[Go.Operand.tmp 39], argTypes := #[28] }, type := 31, pos := "exact.go:4278", after := #[{ on := 1, ground := Go.Ground.data }], guard := none }) rfl (fun K hK => ?_) AllReadyH.nil
  go_simp
  refine (HTo.out _ HB.out.drew).mono ?_
  rintro e wy0 ⟨yv, rfl, hy, By⟩
  go_wp2_with fail
  refine hK.out _ _ (HG.out wy0 ((Below.refl _ _).drew.trans By)) (fun hHeld => ?_)
  clear hK K
  (try simp only [Act.put, List.setIfInBounds_toArray, List.set_cons_zero, List.set_cons_succ])
  refine wpAnyH_ready (rs := [3]) (by kernel_rfl) (by simp) ?_
  refine AllReadyH.cons (o := { dst := some 41, op := Go.Op.call { callee := Go.Callee.value (Go.Operand.func 16), args := #[Go.Operand.tmp 38, Go.Operand.tmp 40], argTypes := #[31, 31] }, type := 4, pos := "exact.go:4278", after := #[{ on := 0, ground := Go.Ground.data }, { on := 2, ground := Go.Ground.data }, { on := 2, ground := Go.Ground.chain }], guard := none }) rfl (fun K hK => ?_) AllReadyH.nil
  go_simp
  refine (eqSight_t _ _ z0 _ (HX.out _ ((Below.refl _ _).drew.trans By)).rd hy.rd hl0).mono ?_
  rintro e wz0 ⟨rfl, Bz⟩
  go_wp2_with fail
  have By7 : Below w9.heap.size w9 wy0 := (Below.refl _ _).drew.trans By
  have Bc : Below w9.heap.size w9 wz0 := By7.trans (Bz.mono By7.size)
  refine hK.out _ _ (HG.out wz0 Bc) (fun hHeld => ?_)
  clear hK K
  (try simp only [Act.put, List.setIfInBounds_toArray, List.set_cons_zero, List.set_cons_succ])
  refine wpAnyH_take (i := 4) (oi := { dst := some 42, op := Go.Op.unOp Go.UnOp.not 4 (Go.Operand.tmp 41), type := 4, pos := "exact.go:4278", after := #[{ on := 3, ground := Go.Ground.data }], guard := none }) (v := .bool false) rfl (by kernel_rfl) (by kernel_rfl) (by kernel_rfl) (fun _ _ _ h => h) (Or.inl ⟨by rfl, ?_⟩) hHeld ?_
  · intro wq hSw; go_simp
  (try simp only [Act.put, List.setIfInBounds_toArray, List.set_cons_zero, List.set_cons_succ])
  refine wpAnyH_done (by kernel_rfl) ?_ _
  clear HTo HX HG HB hy By Bz By7 hHeld
  replace ga0 := (Bc.block _ la0).trans ga0
  replace la0 := Nat.lt_of_lt_of_le la0 Bc.size
  replace gx0 := (Bc.block _ lx0).trans gx0
  replace lx0 := Nat.lt_of_lt_of_le lx0 Bc.size
  replace s0 := s0.below Bc
  replace x0 := x0.below Bc
  replace x1 := x1.below Bc
  replace g0 := g0.below Bc
  have qwz0 := Bc.size
  replace B := B.trans (Bc.mono B.size)
  clear Bc
  go_wp2_with (first | (refine wpList_load_rowG (by rfl) 28 _ rfl (w.heap.size) rfl A0 (loadRowX ga0 Tryd.underlying28 rfl (by rw [HAa0.out.1]; kernel_rfl)) ?_) | (refine wpList_load_rowG (by rfl) 31 _ rfl (w5.heap.size) rfl Ax0 (loadRowX gx0 Tryd.underlying31 rfl (by rw [HAx0.out.1]; kernel_rfl)) ?_) | fail)
  refine (toIntS_any _ z1 b1 _ (h1.below B) hL1).mono ?_
  rintro e w11 ⟨y1v, rfl, y1, bw11, -⟩
  replace y1 := WrIn.of y1 (Nat.le_refl _)
  replace ga0 := (bw11.block _ la0).trans ga0
  replace la0 := Nat.lt_of_lt_of_le la0 bw11.size
  replace gx0 := (bw11.block _ lx0).trans gx0
  replace lx0 := Nat.lt_of_lt_of_le lx0 bw11.size
  replace s0 := s0.below bw11
  replace x0 := x0.below bw11
  replace x1 := x1.below bw11
  replace g0 := g0.below bw11
  have qw11 := bw11.size
  replace B := B.trans (bw11.mono B.size)
  clear bw11
  go_wp2_with (first | (refine wpList_load_rowG (by rfl) 28 _ rfl (w.heap.size) rfl A0 (loadRowX ga0 Tryd.underlying28 rfl (by rw [HAa0.out.1]; kernel_rfl)) ?_) | (refine wpList_load_rowG (by rfl) 31 _ rfl (w5.heap.size) rfl Ax0 (loadRowX gx0 Tryd.underlying31 rfl (by rw [HAx0.out.1]; kernel_rfl)) ?_) | fail)
  obtain ⟨kxw12, rxw12⟩ := x1.rd
  obtain ⟨kyw12, ryw12⟩ := y1.rd
  refine (eqIntS_t _ _ _ _ _ _ rxw12 ryw12 hL1).mono ?_
  rintro e w12 ⟨rfl, bw12⟩
  replace ga0 := (bw12.block _ la0).trans ga0
  replace la0 := Nat.lt_of_lt_of_le la0 bw12.size
  replace gx0 := (bw12.block _ lx0).trans gx0
  replace lx0 := Nat.lt_of_lt_of_le lx0 bw12.size
  replace s0 := s0.below bw12
  replace x0 := x0.below bw12
  replace x1 := x1.below bw12
  replace g0 := g0.below bw12
  replace y1 := y1.below bw12
  have qw12 := bw12.size
  replace B := B.trans (bw12.mono B.size)
  clear bw12
  clear y1
  go_wp2_with (first | (refine wpList_load_rowG (by rfl) 28 _ rfl (w.heap.size) rfl A0 (loadRowX ga0 Tryd.underlying28 rfl (by rw [HAa0.out.1]; kernel_rfl)) ?_) | (refine wpList_load_rowG (by rfl) 31 _ rfl (w5.heap.size) rfl Ax0 (loadRowX gx0 Tryd.underlying31 rfl (by rw [HAx0.out.1]; kernel_rfl)) ?_) | fail)
  refine (markSight_any _ (z0) (1) _ x0 hl0 (by omega) (by omega) (fun b hb => by have := hb.1; have := hb.2; omega)).mono ?_
  rintro e w13 ⟨rfl, kx0, tw13⟩
  replace ga0 := touch_heap tw13 ga0 (fun hb => by have := hb.1; have := hb.2; omega)
  replace la0 := Nat.lt_of_lt_of_le la0 tw13.size
  replace gx0 := touch_heap tw13 gx0 (fun hb => by have := hb.1; have := hb.2; omega)
  replace lx0 := Nat.lt_of_lt_of_le lx0 tw13.size
  replace s0 := s0.touch tw13 (fun b h1 h2 => by have := h1.1; have := h1.2; have := h2.1; have := h2.2; omega)
  replace x1 := x1.touch tw13 (fun b h1 h2 => by have := h1.1; have := h1.2; have := h2.1; have := h2.2; omega)
  replace g0 := g0.touch tw13 (fun b h1 h2 => by have := h1.1; have := h1.2; have := h2.1; have := h2.2; omega)
  have qw13 : w12.heap.size ≤ w13.heap.size := tw13.size
  replace B := Below.thenTouch B tw13 (by omega) (fun b hb => by have := hb.1; have := hb.2; omega)
  clear tw13 x0
  clear kx0
  go_wp2_with (first | (refine wpList_load_rowG (by rfl) 28 _ rfl (w.heap.size) rfl A0 (loadRowX ga0 Tryd.underlying28 rfl (by rw [HAa0.out.1]; kernel_rfl)) ?_) | (refine wpList_load_rowG (by rfl) 31 _ rfl (w5.heap.size) rfl Ax0 (loadRowX gx0 Tryd.underlying31 rfl (by rw [HAx0.out.1]; kernel_rfl)) ?_) | fail)
  refine (markIn (zs := z1) x1 (k := 1 + ((z0).total : Nat)) (by omega) (by omega) (by omega)).mono ?_
  rintro e w14 ⟨rfl, kx1, tw14, -⟩
  replace ga0 := touch_heap tw14 ga0 (fun hb => by have := hb.1; have := hb.2; omega)
  replace la0 := Nat.lt_of_lt_of_le la0 tw14.size
  replace gx0 := touch_heap tw14 gx0 (fun hb => by have := hb.1; have := hb.2; omega)
  replace lx0 := Nat.lt_of_lt_of_le lx0 tw14.size
  replace s0 := s0.touch tw14 (fun b h1 h2 => by have := h1.1; have := h1.2; have := h2.1; have := h2.2; omega)
  replace g0 := g0.touch tw14 (fun b h1 h2 => by have := h1.1; have := h1.2; have := h2.1; have := h2.2; omega)
  have qw14 : w13.heap.size ≤ w14.heap.size := tw14.size
  replace B := Below.thenTouch B tw14 (by omega) (fun b hb => by have := hb.1; have := hb.2; omega)
  clear tw14 x1
  clear kx1
  go_wp2_with (first | (refine wpList_load_rowG (by rfl) 28 _ rfl (w.heap.size) rfl A0 (loadRowX ga0 Tryd.underlying28 rfl (by rw [HAa0.out.1]; kernel_rfl)) ?_) | (refine wpList_load_rowG (by rfl) 31 _ rfl (w5.heap.size) rfl Ax0 (loadRowX gx0 Tryd.underlying31 rfl (by rw [HAx0.out.1]; kernel_rfl)) ?_) | fail)
  obtain ⟨kxw15, rxw15⟩ := g0.rd
  obtain ⟨kyw15, ryw15⟩ := s0.rd
  refine (eqIntS_t _ _ _ _ _ _ rxw15 ryw15 (by have := hF0.out; omega)).mono ?_
  rintro e w15 ⟨rfl, bw15⟩
  replace ga0 := (bw15.block _ la0).trans ga0
  replace la0 := Nat.lt_of_lt_of_le la0 bw15.size
  replace gx0 := (bw15.block _ lx0).trans gx0
  replace lx0 := Nat.lt_of_lt_of_le lx0 bw15.size
  replace s0 := s0.below bw15
  replace g0 := g0.below bw15
  have qw15 := bw15.size
  replace B := B.trans (bw15.mono B.size)
  clear bw15
  go_wp2_with (first | (refine wpList_load_rowG (by rfl) 28 _ rfl (w.heap.size) rfl A0 (loadRowX ga0 Tryd.underlying28 rfl (by rw [HAa0.out.1]; kernel_rfl)) ?_) | (refine wpList_load_rowG (by rfl) 31 _ rfl (w5.heap.size) rfl Ax0 (loadRowX gx0 Tryd.underlying31 rfl (by rw [HAx0.out.1]; kernel_rfl)) ?_) | fail)
  refine (markIn (zs := missing (unseenL z0 z1)) g0 (k := 1) (by omega) (by omega) (by omega)).mono ?_
  rintro e w16 ⟨rfl, kg0, tw16, -⟩
  replace ga0 := touch_heap tw16 ga0 (fun hb => by have := hb.1; have := hb.2; omega)
  replace la0 := Nat.lt_of_lt_of_le la0 tw16.size
  replace gx0 := touch_heap tw16 gx0 (fun hb => by have := hb.1; have := hb.2; omega)
  replace lx0 := Nat.lt_of_lt_of_le lx0 tw16.size
  replace s0 := s0.touch tw16 (fun b h1 h2 => by have := h1.1; have := h1.2; have := h2.1; have := h2.2; omega)
  have qw16 : w15.heap.size ≤ w16.heap.size := tw16.size
  replace B := Below.thenTouch B tw16 (by omega) (fun b hb => by have := hb.1; have := hb.2; omega)
  clear tw16 g0
  go_wp2_with (first | (refine wpList_load_rowG (by rfl) 28 _ rfl (w.heap.size) rfl A0 (loadRowX ga0 Tryd.underlying28 rfl (by rw [HAa0.out.1]; kernel_rfl)) ?_) | (refine wpList_load_rowG (by rfl) 31 _ rfl (w5.heap.size) rfl Ax0 (loadRowX gx0 Tryd.underlying31 rfl (by rw [HAx0.out.1]; kernel_rfl)) ?_) | fail)
  obtain ⟨kk0, rk0⟩ := kg0.rd
  refine (heldIntS_any _ kk0 (1) (missing (unseenL z0 z1)).length _ rk0 (by omega) (by omega) (by omega)).mono ?_
  rintro e _w ⟨rfl, rfl⟩
  clear rk0
  go_wp2_with (first | (refine wpList_load_rowG (by rfl) 28 _ rfl (w.heap.size) rfl A0 (loadRowX ga0 Tryd.underlying28 rfl (by rw [HAa0.out.1]; kernel_rfl)) ?_) | (refine wpList_load_rowG (by rfl) 31 _ rfl (w5.heap.size) rfl Ax0 (loadRowX gx0 Tryd.underlying31 rfl (by rw [HAx0.out.1]; kernel_rfl)) ?_) | fail)
  refine (toSight_w _ z0 _ (h0.below B) hl0).mono ?_
  rintro e w17 ⟨c0v, rfl, c0, bw17⟩
  replace ga0 := (bw17.block _ la0).trans ga0
  replace la0 := Nat.lt_of_lt_of_le la0 bw17.size
  replace gx0 := (bw17.block _ lx0).trans gx0
  replace lx0 := Nat.lt_of_lt_of_le lx0 bw17.size
  replace s0 := s0.below bw17
  replace kg0 := kg0.below bw17
  have qw17 := bw17.size
  replace B := B.trans (bw17.mono B.size)
  clear bw17
  go_wp2_with (first | (refine wpList_load_rowG (by rfl) 28 _ rfl (w.heap.size) rfl A0 (loadRowX ga0 Tryd.underlying28 rfl (by rw [HAa0.out.1]; kernel_rfl)) ?_) | (refine wpList_load_rowG (by rfl) 31 _ rfl (w5.heap.size) rfl Ax0 (loadRowX gx0 Tryd.underlying31 rfl (by rw [HAx0.out.1]; kernel_rfl)) ?_) | fail)
  refine (toIntS_any _ z1 b1 _ (h1.below B) hL1).mono ?_
  rintro e w18 ⟨c1v, rfl, c1, bw18, -⟩
  replace c1 := WrIn.of c1 (Nat.le_refl _)
  replace ga0 := (bw18.block _ la0).trans ga0
  replace la0 := Nat.lt_of_lt_of_le la0 bw18.size
  replace gx0 := (bw18.block _ lx0).trans gx0
  replace lx0 := Nat.lt_of_lt_of_le lx0 bw18.size
  replace s0 := s0.below bw18
  replace kg0 := kg0.below bw18
  replace c0 := c0.below bw18
  have qw18 := bw18.size
  replace B := B.trans (bw18.mono B.size)
  clear bw18
  go_wp2_with (first | (refine wpList_load_rowG (by rfl) 28 _ rfl (w.heap.size) rfl A0 (loadRowX ga0 Tryd.underlying28 rfl (by rw [HAa0.out.1]; kernel_rfl)) ?_) | (refine wpList_load_rowG (by rfl) 31 _ rfl (w5.heap.size) rfl Ax0 (loadRowX gx0 Tryd.underlying31 rfl (by rw [HAx0.out.1]; kernel_rfl)) ?_) | fail)
  obtain ⟨kc1, rc1⟩ := c1.rd
  refine (toIn1 (unseen_any _ _ z0 z1 _ _ c0.rd hl0 rc1 hl1 (hZ.below B))).mono ?_
  rintro e w19 ⟨tv0, rfl, t0, bw19⟩
  replace ga0 := (bw19.block _ la0).trans ga0
  replace la0 := Nat.lt_of_lt_of_le la0 bw19.size
  replace gx0 := (bw19.block _ lx0).trans gx0
  replace lx0 := Nat.lt_of_lt_of_le lx0 bw19.size
  replace s0 := s0.below bw19
  replace kg0 := kg0.below bw19
  replace c0 := c0.below bw19
  replace c1 := c1.below bw19
  have qw19 := bw19.size
  replace B := B.trans (bw19.mono B.size)
  clear bw19
  clear c0 c1
  go_wp2_with (first | (refine wpList_load_rowG (by rfl) 28 _ rfl (w.heap.size) rfl A0 (loadRowX ga0 Tryd.underlying28 rfl (by rw [HAa0.out.1]; kernel_rfl)) ?_) | (refine wpList_load_rowG (by rfl) 31 _ rfl (w5.heap.size) rfl Ax0 (loadRowX gx0 Tryd.underlying31 rfl (by rw [HAx0.out.1]; kernel_rfl)) ?_) | fail)
  obtain ⟨kxw20, rxw20⟩ := t0.rd
  obtain ⟨kyw20, ryw20⟩ := s0.rd
  refine (eqIntS_t _ _ _ _ _ _ rxw20 ryw20 (by have := hF0.out; omega)).mono ?_
  rintro e w20 ⟨rfl, bw20⟩
  replace ga0 := (bw20.block _ la0).trans ga0
  replace la0 := Nat.lt_of_lt_of_le la0 bw20.size
  replace gx0 := (bw20.block _ lx0).trans gx0
  replace lx0 := Nat.lt_of_lt_of_le lx0 bw20.size
  replace s0 := s0.below bw20
  replace kg0 := kg0.below bw20
  replace t0 := t0.below bw20
  have qw20 := bw20.size
  replace B := B.trans (bw20.mono B.size)
  clear bw20
  clear t0
  clear s0
  go_wp2_with (first | (refine wpList_load_rowG (by rfl) 28 _ rfl (w.heap.size) rfl A0 (loadRowX ga0 Tryd.underlying28 rfl (by rw [HAa0.out.1]; kernel_rfl)) ?_) | (refine wpList_load_rowG (by rfl) 31 _ rfl (w5.heap.size) rfl Ax0 (loadRowX gx0 Tryd.underlying31 rfl (by rw [HAx0.out.1]; kernel_rfl)) ?_) | fail)
  obtain ⟨kk0, rk0⟩ := kg0.rd
  refine (heldIntS_any _ kk0 (1) (missing (unseenL z0 z1)).length _ rk0 (by omega) (by omega) (by omega)).mono ?_
  rintro e _w ⟨rfl, rfl⟩
  clear rk0
  go_wp2_with (first | (refine wpList_load_rowG (by rfl) 28 _ rfl (w.heap.size) rfl A0 (loadRowX ga0 Tryd.underlying28 rfl (by rw [HAa0.out.1]; kernel_rfl)) ?_) | (refine wpList_load_rowG (by rfl) 31 _ rfl (w5.heap.size) rfl Ax0 (loadRowX gx0 Tryd.underlying31 rfl (by rw [HAx0.out.1]; kernel_rfl)) ?_) | fail)
  go_ret
  exact ⟨rfl, B⟩

end Go.Proofs.YtepjijmgfdgfhaaDoor
