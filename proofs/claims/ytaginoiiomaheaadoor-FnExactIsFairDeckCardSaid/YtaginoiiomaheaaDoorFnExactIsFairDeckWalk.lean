/-
  The walk of the law FnExactIsFairDeck, out of the contracts of both sides.
-/
import Derived.Test.YtaginoiiomaheaaDoorFair
import Derived.Test.YtaginoiiomaheaaDoorFrX
import Derived.Test.YtaginoiiomaheaaDoorNTable
namespace Go.Proofs.YtaginoiiomaheaaDoor
open Go.RowKit
set_option linter.unusedVariables false
set_option linter.unusedSimpArgs false

theorem aggTableX {w : World} {v : Value} {D : MTable} (h : RdTable w v D) : ∃ A : Array Value, (A.size = 27 ∧ A.all (·.oneCell') = true) ∧ v = .agg A := by
  obtain ⟨p4, p5, p8, p10, p15, p16, p19, p20, p21, p25, p26, c4, c5, c8, c10, c15, c16, c19, c20, c21, c25, c26, hv⟩ := h.shape
  exact ⟨_, ⟨rfl, by simp [Value.oneCell']⟩, hv⟩
set_option linter.unusedVariables false in
set_option maxRecDepth 100000 in
set_option maxHeartbeats 4000000 in
theorem fnExactIsFairDeck_walk (v0 : Value) (z0 : MTable) (v1 : Value) (z1 : List Int) (b1 : Nat) (v2 : Value) (z2 : List Int) (b2 : Nat) (w : World) (h0 : RdTable w v0 z0) (h1 : RdAt .i64 w v1 z1 b1) (h2 : RdAt .i64 w v2 z2 b2) (sa sb : Addr) (hS : Sent sa sb w) :
    Calls Tryd.prog 3 #[v0, v1, v2] w fun e w' => e = .returned (.bool true) ∧ Below w.heap.size w w' := by
  by_cases hbig1 : 1048576 < z1.length
  · skip
    obtain ⟨A0, hA0, hv0⟩ := aggTableX h0
    obtain ⟨p1, cap1, hv1, -⟩ := id h1
    obtain ⟨p2, cap2, hv2, -⟩ := id h2
    subst hv0
    subst hv1
    subst hv2
    have HAx0 := Lib.hid hA0
    clear hA0
    go_enter Tryd.func3, Tryd.ntmps3
    go_wp2_with fail
    go_ret
    exact ⟨rfl, by first | exact Below.refl _ _ | exact (Below.refl _ _).alloc (Nat.le_refl _) _ | exact ((Below.refl _ _).alloc (Nat.le_refl _) _).alloc (by simp) _⟩
  by_cases hbig2 : 1048576 < z2.length
  · skip
    obtain ⟨A0, hA0, hv0⟩ := aggTableX h0
    obtain ⟨p1, cap1, hv1, -⟩ := id h1
    obtain ⟨p2, cap2, hv2, -⟩ := id h2
    have hn1 : ¬ (1048576 < (z1.length : Int)) := by omega
    subst hv0
    subst hv1
    subst hv2
    have HAx0 := Lib.hid hA0
    clear hA0
    go_enter Tryd.func3, Tryd.ntmps3
    go_wp2_with fail
    go_ret
    exact ⟨rfl, by first | exact Below.refl _ _ | exact (Below.refl _ _).alloc (Nat.le_refl _) _ | exact ((Below.refl _ _).alloc (Nat.le_refl _) _).alloc (by simp) _⟩
  have hl1 : z1.length ≤ 1048576 := by omega
  have hL1 : z1.length ≤ 1099511627776 := by omega
  clear hbig1
  have hl2 : z2.length ≤ 1048576 := by omega
  have hL2 : z2.length ≤ 1099511627776 := by omega
  clear hbig2
  obtain ⟨A0, hA0, hv0⟩ := aggTableX h0
  obtain ⟨p1, cap1, hv1, -⟩ := id h1
  obtain ⟨p2, cap2, hv2, -⟩ := id h2
  subst hv0
  subst hv1
  subst hv2
  have B : Below w.heap.size w (w.alloc (.cells A0 29)) := ((Below.refl w.heap.size w).alloc (by simp) _)
  have ga0 : ((w.alloc (.cells A0 29))).heap[w.heap.size]? = some (.cells A0 29 (0, 0)) := by
    show (Array.push (w.heap) _)[_]? = _
    rw [Array.getElem?_push, if_pos (by simp)]
  have la0 : w.heap.size < ((w.alloc (.cells A0 29))).heap.size := by simp
  have HAa0 := Lib.hid hA0
  clear hA0
  go_enter Tryd.func3, Tryd.ntmps3
  go_wp2_with (first | (refine wpList_load_rowG (by rfl) 29 _ rfl (w.heap.size) rfl A0 (loadRowX ga0 Tryd.underlying29 rfl (by rw [HAa0.out.1]; kernel_rfl)) ?_) | fail)
  generalize (w.alloc (.cells A0 29)) = w0 at B ga0 la0 ⊢
  refine (szTable_any _ z0 1048576 _ (h0.below B) (by omega) (by omega)).mono ?_
  rintro e w1 ⟨⟨r0, rfl, rn0, rm0, hr0⟩, bw1⟩
  replace ga0 := (bw1.block _ la0).trans ga0
  replace la0 := Nat.lt_of_lt_of_le la0 bw1.size
  have qw1 := bw1.size
  replace B := B.trans (bw1.mono B.size)
  clear bw1
  by_cases hneg0 : r0 < 0
  · go_wp2_with fail
    go_ret
    exact ⟨rfl, B⟩
  have hl0 : z0.Few := hr0 (by omega)
  have tl0 := MTable.total_le hl0
  clear hr0
  go_wp2_with (first | (refine wpList_load_rowG (by rfl) 29 _ rfl (w.heap.size) rfl A0 (loadRowX ga0 Tryd.underlying29 rfl (by rw [HAa0.out.1]; kernel_rfl)) ?_) | fail)
  refine (toTable_w _ z0 _ (h0.below B) hl0).mono ?_
  rintro e w2 ⟨m0v, rfl, m0, bw2⟩
  replace ga0 := (bw2.block _ la0).trans ga0
  replace la0 := Nat.lt_of_lt_of_le la0 bw2.size
  have qw2 := bw2.size
  replace B := B.trans (bw2.mono B.size)
  clear bw2
  go_wp2_with (first | (refine wpList_load_rowG (by rfl) 29 _ rfl (w.heap.size) rfl A0 (loadRowX ga0 Tryd.underlying29 rfl (by rw [HAa0.out.1]; kernel_rfl)) ?_) | fail)
  refine (toIntS_any _ z1 b1 _ (h1.below B) hL1).mono ?_
  rintro e w3 ⟨m1v, rfl, m1, bw3, -⟩
  replace m1 := WrIn.of m1 (Nat.le_refl _)
  replace ga0 := (bw3.block _ la0).trans ga0
  replace la0 := Nat.lt_of_lt_of_le la0 bw3.size
  replace m0 := m0.below bw3
  have qw3 := bw3.size
  replace B := B.trans (bw3.mono B.size)
  clear bw3
  go_wp2_with (first | (refine wpList_load_rowG (by rfl) 29 _ rfl (w.heap.size) rfl A0 (loadRowX ga0 Tryd.underlying29 rfl (by rw [HAa0.out.1]; kernel_rfl)) ?_) | fail)
  refine (toIntS_any _ z2 b2 _ (h2.below B) hL2).mono ?_
  rintro e w4 ⟨m2v, rfl, m2, bw4, -⟩
  replace m2 := WrIn.of m2 (Nat.le_refl _)
  replace ga0 := (bw4.block _ la0).trans ga0
  replace la0 := Nat.lt_of_lt_of_le la0 bw4.size
  replace m0 := m0.below bw4
  replace m1 := m1.below bw4
  have qw4 := bw4.size
  replace B := B.trans (bw4.mono B.size)
  clear bw4
  go_wp2_with (first | (refine wpList_load_rowG (by rfl) 29 _ rfl (w.heap.size) rfl A0 (loadRowX ga0 Tryd.underlying29 rfl (by rw [HAa0.out.1]; kernel_rfl)) ?_) | fail)
  obtain ⟨km1, rm1⟩ := m1.rd
  obtain ⟨km2, rm2⟩ := m2.rd
  refine (sIsFairDeck_any _ _ _ z0 z1 z2 _ _ _ m0.rd hl0 rm1 rm2 hl1 hl2 _ rfl).mono ?_
  rintro e w5 ⟨rfl, bw5⟩
  replace ga0 := (bw5.block _ la0).trans ga0
  replace la0 := Nat.lt_of_lt_of_le la0 bw5.size
  replace m0 := m0.below bw5
  replace m1 := m1.below bw5
  replace m2 := m2.below bw5
  have qw5 := bw5.size
  replace B := B.trans (bw5.mono B.size)
  clear bw5
  go_wp2_with (first | (refine wpList_load_rowG (by rfl) 29 _ rfl (w.heap.size) rfl A0 (loadRowX ga0 Tryd.underlying29 rfl (by rw [HAa0.out.1]; kernel_rfl)) ?_) | fail)
  refine (toTable_w _ z0 _ (h0.below B) hl0).mono ?_
  rintro e w6 ⟨x0v, rfl, x0, bw6⟩
  replace ga0 := (bw6.block _ la0).trans ga0
  replace la0 := Nat.lt_of_lt_of_le la0 bw6.size
  replace m0 := m0.below bw6
  replace m1 := m1.below bw6
  replace m2 := m2.below bw6
  have qw6 := bw6.size
  replace B := B.trans (bw6.mono B.size)
  clear bw6
  obtain ⟨Ax0, hAx0, hvx0⟩ := aggTableX x0.rd
  subst hvx0
  have HAx0 := Lib.hid hAx0
  clear hAx0
  have HF := freshX w6 #[.int .i64 0, .int .i64 0, .bool false, .bool false, .slice none 0 0, .slice none 0 0, .int .i64 0, .int .i64 0, .slice none 0 0, .bool false, .slice none 0 0, .int .i64 0, .int .i64 0, .bool false, .bool false, .slice none 0 0, .slice none 0 0, .int .i64 0, .int .i64 0, .slice none 0 0, .slice none 0 0, .slice none 0 0, .int .i64 0, .int .i64 0, .int .i64 0, .slice none 0 0, .slice none 0 0] Ax0 36
  have Ga0 := ((HF.2.1.block _ la0).trans ga0)
  have HF2 := Lib.hid HF
  clear HF
  go_wp2_with (first | (refine wpList_store_row rfl 36 _ _ rfl w6.heap.size Ax0 rfl rfl 36 _ (heap_alloc_new _ _) (by rw [HAx0.out.1]; kernel_rfl) (by rw [HAx0.out.1]; rfl) HAx0.out.2 ?_) | (refine wpList_load_rowG (by rfl) 29 _ rfl (w.heap.size) rfl A0 (loadRowX ga0 Tryd.underlying29 rfl (by rw [HAa0.out.1]; kernel_rfl)) ?_) | (refine wpList_load_rowG (by rfl) 29 _ rfl (w.heap.size) rfl A0 (loadRowX Ga0 Tryd.underlying29 rfl (by rw [HAa0.out.1]; kernel_rfl)) ?_) | (refine wpList_load_rowG (by rfl) 36 _ rfl (w6.heap.size) rfl Ax0 (loadRowX HF2.out.1 Tryd.underlying36 rfl (by rw [HAx0.out.1]; kernel_rfl)) ?_) | fail)
  clear Ga0
  have HF := HF2.out
  clear HF2
  generalize (World.setRow (World.alloc w6 (.cells #[.int .i64 0, .int .i64 0, .bool false, .bool false, .slice none 0 0, .slice none 0 0, .int .i64 0, .int .i64 0, .slice none 0 0, .bool false, .slice none 0 0, .int .i64 0, .int .i64 0, .bool false, .bool false, .slice none 0 0, .slice none 0 0, .int .i64 0, .int .i64 0, .slice none 0 0, .slice none 0 0, .slice none 0 0, .int .i64 0, .int .i64 0, .int .i64 0, .slice none 0 0, .slice none 0 0] 36)) w6.heap.size Ax0) = w7 at HF ⊢
  obtain ⟨gx0, bxx0, lx0⟩ := HF
  replace ga0 := (bxx0.block _ la0).trans ga0
  replace la0 := Nat.lt_of_lt_of_le la0 bxx0.size
  replace m0 := m0.below bxx0
  replace m1 := m1.below bxx0
  replace m2 := m2.below bxx0
  replace x0 := x0.below bxx0
  have qw7 := bxx0.size
  replace B := B.trans (bxx0.mono B.size)
  clear bxx0
  have qxw7 := lx0
  refine (toIntS_any _ z1 b1 _ (h1.below B) hL1).mono ?_
  rintro e w8 ⟨x1v, rfl, x1, bw8, -⟩
  replace x1 := WrIn.of x1 (Nat.le_refl _)
  replace ga0 := (bw8.block _ la0).trans ga0
  replace la0 := Nat.lt_of_lt_of_le la0 bw8.size
  replace gx0 := (bw8.block _ lx0).trans gx0
  replace lx0 := Nat.lt_of_lt_of_le lx0 bw8.size
  replace m0 := m0.below bw8
  replace m1 := m1.below bw8
  replace m2 := m2.below bw8
  replace x0 := x0.below bw8
  have qw8 := bw8.size
  replace B := B.trans (bw8.mono B.size)
  clear bw8
  go_wp2_with (first | (refine wpList_load_rowG (by rfl) 29 _ rfl (w.heap.size) rfl A0 (loadRowX ga0 Tryd.underlying29 rfl (by rw [HAa0.out.1]; kernel_rfl)) ?_) | (refine wpList_load_rowG (by rfl) 36 _ rfl (w6.heap.size) rfl Ax0 (loadRowX gx0 Tryd.underlying36 rfl (by rw [HAx0.out.1]; kernel_rfl)) ?_) | fail)
  refine (toIntS_any _ z2 b2 _ (h2.below B) hL2).mono ?_
  rintro e w9 ⟨x2v, rfl, x2, bw9, -⟩
  replace x2 := WrIn.of x2 (Nat.le_refl _)
  replace ga0 := (bw9.block _ la0).trans ga0
  replace la0 := Nat.lt_of_lt_of_le la0 bw9.size
  replace gx0 := (bw9.block _ lx0).trans gx0
  replace lx0 := Nat.lt_of_lt_of_le lx0 bw9.size
  replace m0 := m0.below bw9
  replace m1 := m1.below bw9
  replace m2 := m2.below bw9
  replace x0 := x0.below bw9
  replace x1 := x1.below bw9
  have qw9 := bw9.size
  replace B := B.trans (bw9.mono B.size)
  clear bw9
  go_wp2_with (first | (refine wpList_load_rowG (by rfl) 29 _ rfl (w.heap.size) rfl A0 (loadRowX ga0 Tryd.underlying29 rfl (by rw [HAa0.out.1]; kernel_rfl)) ?_) | (refine wpList_load_rowG (by rfl) 36 _ rfl (w6.heap.size) rfl Ax0 (loadRowX gx0 Tryd.underlying36 rfl (by rw [HAx0.out.1]; kernel_rfl)) ?_) | fail)
  obtain ⟨kx1, rx1⟩ := x1.rd
  obtain ⟨kx2, rx2⟩ := x2.rd
  refine (isFairDeck_any sa sb _ _ _ z0 z1 z2 _ _ _ x0.rd hl0 rx1 rx2 hl1 hl2 (hS.below B (Nat.le_refl _)) _ rfl).mono ?_
  rintro e w10 ⟨rfl, bw10⟩
  replace ga0 := (bw10.block _ la0).trans ga0
  replace la0 := Nat.lt_of_lt_of_le la0 bw10.size
  replace gx0 := (bw10.block _ lx0).trans gx0
  replace lx0 := Nat.lt_of_lt_of_le lx0 bw10.size
  replace m0 := m0.below bw10
  replace m1 := m1.below bw10
  replace m2 := m2.below bw10
  replace x0 := x0.below bw10
  replace x1 := x1.below bw10
  replace x2 := x2.below bw10
  have qw10 := bw10.size
  replace B := B.trans (bw10.mono B.size)
  clear bw10
  have HB := Lib.hid B
  have HTo := Lib.hid (fun wx (hb : Below w.heap.size w wx) => toTable_w _ z0 wx (h0.below hb) hl0)
  have HX := Lib.hid (fun wx (hb : Below w10.heap.size w10 wx) => x0.below hb)
  have HG : Hid (∀ wx, Below w10.heap.size w10 wx → wx.heap[w.heap.size]? = some (.cells A0 29 (0, 0)) ∧ wx.heap[w6.heap.size]? = some (.cells Ax0 36 (0, 0))) := Lib.hid (fun wx hb => ⟨(hb.block _ la0).trans ga0, (hb.block _ lx0).trans gx0⟩)
  go_wp2_with fail
  refine wp_region_held_drew (S := fun w' => w'.heap[w.heap.size]? = some (.cells A0 29 (0, 0)) ∧ w'.heap[w6.heap.size]? = some (.cells Ax0 36 (0, 0))) (by kernel_rfl) ⟨ga0, gx0⟩ (fun hHeld => ?_)
  refine wpAnyH_take (i := 0) (oi := { dst := some 44, op := Go.Op.load 36 (Go.Operand.tmp 9), type := 36, pos := "exact.go:7065", after := #[], guard := none }) (v := .agg Ax0) rfl (by kernel_rfl) (by kernel_rfl) (by kernel_rfl) (fun _ _ _ h => h) (yieldsX (by rfl) 36 _ rfl (w6.heap.size) rfl Ax0 36 _ (fun wq hSw => hSw.2) Tryd.underlying36 rfl (by rw [HAx0.out.1]; kernel_rfl)) hHeld ?_
  (try simp only [Act.put, List.setIfInBounds_toArray, List.set_cons_zero, List.set_cons_succ])
  refine wpAnyH_take (i := 1) (oi := { dst := some 45, op := Go.Op.load 29 (Go.Operand.tmp 3), type := 29, pos := "exact.go:7065", after := #[], guard := none }) (v := .agg A0) rfl (by kernel_rfl) (by kernel_rfl) (by kernel_rfl) (fun _ _ _ h => h) (yieldsX (by rfl) 29 _ rfl (w.heap.size) rfl A0 29 _ (fun wq hSw => hSw.1) Tryd.underlying29 rfl (by rw [HAa0.out.1]; kernel_rfl)) hHeld ?_
  (try simp only [Act.put, List.setIfInBounds_toArray, List.set_cons_zero, List.set_cons_succ])
  refine wpAnyH_ready (rs := [2]) (by kernel_rfl) (by simp) ?_
  refine AllReadyH.cons (o := { dst := some 46, op := Go.Op.call { callee := Go.Callee.value (Go.Operand.func 6), args := #[Go.Operand.tmp 45], argTypes := #[29] }, type := 36, pos := "exact.go:7065", after := #[{ on := 1, ground := Go.Ground.data }], guard := none }) rfl (fun K hK => ?_) AllReadyH.nil
  go_simp
  refine (HTo.out _ HB.out.drew).mono ?_
  rintro e wy0 ⟨yv, rfl, hy, By⟩
  go_wp2_with fail
  refine hK.out _ _ (HG.out wy0 ((Below.refl _ _).drew.trans By)) (fun hHeld => ?_)
  clear hK K
  (try simp only [Act.put, List.setIfInBounds_toArray, List.set_cons_zero, List.set_cons_succ])
  refine wpAnyH_ready (rs := [3]) (by kernel_rfl) (by simp) ?_
  refine AllReadyH.cons (o := { dst := some 47, op := Go.Op.call { callee := Go.Callee.value (Go.Operand.func 9), args := #[Go.Operand.tmp 44, Go.Operand.tmp 46], argTypes := #[36, 36] }, type := 4, pos := "exact.go:7065", after := #[{ on := 0, ground := Go.Ground.data }, { on := 2, ground := Go.Ground.data }, { on := 2, ground := Go.Ground.chain }], guard := none }) rfl (fun K hK => ?_) AllReadyH.nil
  go_simp
  refine (eqTable_t _ _ z0 _ (HX.out _ ((Below.refl _ _).drew.trans By)).rd hy.rd hl0).mono ?_
  rintro e wz0 ⟨rfl, Bz⟩
  go_wp2_with fail
  have By7 : Below w10.heap.size w10 wy0 := (Below.refl _ _).drew.trans By
  have Bc : Below w10.heap.size w10 wz0 := By7.trans (Bz.mono By7.size)
  refine hK.out _ _ (HG.out wz0 Bc) (fun hHeld => ?_)
  clear hK K
  (try simp only [Act.put, List.setIfInBounds_toArray, List.set_cons_zero, List.set_cons_succ])
  refine wpAnyH_take (i := 4) (oi := { dst := some 48, op := Go.Op.unOp Go.UnOp.not 4 (Go.Operand.tmp 47), type := 4, pos := "exact.go:7065", after := #[{ on := 3, ground := Go.Ground.data }], guard := none }) (v := .bool false) rfl (by kernel_rfl) (by kernel_rfl) (by kernel_rfl) (fun _ _ _ h => h) (Or.inl ⟨by rfl, ?_⟩) hHeld ?_
  · intro wq hSw; go_simp
  (try simp only [Act.put, List.setIfInBounds_toArray, List.set_cons_zero, List.set_cons_succ])
  refine wpAnyH_done (by kernel_rfl) ?_ _
  clear HTo HX HG HB hy By Bz By7 hHeld
  replace ga0 := (Bc.block _ la0).trans ga0
  replace la0 := Nat.lt_of_lt_of_le la0 Bc.size
  replace gx0 := (Bc.block _ lx0).trans gx0
  replace lx0 := Nat.lt_of_lt_of_le lx0 Bc.size
  replace m0 := m0.below Bc
  replace m1 := m1.below Bc
  replace m2 := m2.below Bc
  replace x0 := x0.below Bc
  replace x1 := x1.below Bc
  replace x2 := x2.below Bc
  have qwz0 := Bc.size
  replace B := B.trans (Bc.mono B.size)
  clear Bc
  go_wp2_with (first | (refine wpList_load_rowG (by rfl) 29 _ rfl (w.heap.size) rfl A0 (loadRowX ga0 Tryd.underlying29 rfl (by rw [HAa0.out.1]; kernel_rfl)) ?_) | (refine wpList_load_rowG (by rfl) 36 _ rfl (w6.heap.size) rfl Ax0 (loadRowX gx0 Tryd.underlying36 rfl (by rw [HAx0.out.1]; kernel_rfl)) ?_) | fail)
  refine (toIntS_any _ z1 b1 _ (h1.below B) hL1).mono ?_
  rintro e w12 ⟨y1v, rfl, y1, bw12, -⟩
  replace y1 := WrIn.of y1 (Nat.le_refl _)
  replace ga0 := (bw12.block _ la0).trans ga0
  replace la0 := Nat.lt_of_lt_of_le la0 bw12.size
  replace gx0 := (bw12.block _ lx0).trans gx0
  replace lx0 := Nat.lt_of_lt_of_le lx0 bw12.size
  replace m0 := m0.below bw12
  replace m1 := m1.below bw12
  replace m2 := m2.below bw12
  replace x0 := x0.below bw12
  replace x1 := x1.below bw12
  replace x2 := x2.below bw12
  have qw12 := bw12.size
  replace B := B.trans (bw12.mono B.size)
  clear bw12
  go_wp2_with (first | (refine wpList_load_rowG (by rfl) 29 _ rfl (w.heap.size) rfl A0 (loadRowX ga0 Tryd.underlying29 rfl (by rw [HAa0.out.1]; kernel_rfl)) ?_) | (refine wpList_load_rowG (by rfl) 36 _ rfl (w6.heap.size) rfl Ax0 (loadRowX gx0 Tryd.underlying36 rfl (by rw [HAx0.out.1]; kernel_rfl)) ?_) | fail)
  obtain ⟨kxw13, rxw13⟩ := x1.rd
  obtain ⟨kyw13, ryw13⟩ := y1.rd
  refine (eqIntS_t _ _ _ _ _ _ rxw13 ryw13 hL1).mono ?_
  rintro e w13 ⟨rfl, bw13⟩
  replace ga0 := (bw13.block _ la0).trans ga0
  replace la0 := Nat.lt_of_lt_of_le la0 bw13.size
  replace gx0 := (bw13.block _ lx0).trans gx0
  replace lx0 := Nat.lt_of_lt_of_le lx0 bw13.size
  replace m0 := m0.below bw13
  replace m1 := m1.below bw13
  replace m2 := m2.below bw13
  replace x0 := x0.below bw13
  replace x1 := x1.below bw13
  replace x2 := x2.below bw13
  replace y1 := y1.below bw13
  have qw13 := bw13.size
  replace B := B.trans (bw13.mono B.size)
  clear bw13
  clear y1
  go_wp2_with (first | (refine wpList_load_rowG (by rfl) 29 _ rfl (w.heap.size) rfl A0 (loadRowX ga0 Tryd.underlying29 rfl (by rw [HAa0.out.1]; kernel_rfl)) ?_) | (refine wpList_load_rowG (by rfl) 36 _ rfl (w6.heap.size) rfl Ax0 (loadRowX gx0 Tryd.underlying36 rfl (by rw [HAx0.out.1]; kernel_rfl)) ?_) | fail)
  refine (toIntS_any _ z2 b2 _ (h2.below B) hL2).mono ?_
  rintro e w14 ⟨y2v, rfl, y2, bw14, -⟩
  replace y2 := WrIn.of y2 (Nat.le_refl _)
  replace ga0 := (bw14.block _ la0).trans ga0
  replace la0 := Nat.lt_of_lt_of_le la0 bw14.size
  replace gx0 := (bw14.block _ lx0).trans gx0
  replace lx0 := Nat.lt_of_lt_of_le lx0 bw14.size
  replace m0 := m0.below bw14
  replace m1 := m1.below bw14
  replace m2 := m2.below bw14
  replace x0 := x0.below bw14
  replace x1 := x1.below bw14
  replace x2 := x2.below bw14
  have qw14 := bw14.size
  replace B := B.trans (bw14.mono B.size)
  clear bw14
  go_wp2_with (first | (refine wpList_load_rowG (by rfl) 29 _ rfl (w.heap.size) rfl A0 (loadRowX ga0 Tryd.underlying29 rfl (by rw [HAa0.out.1]; kernel_rfl)) ?_) | (refine wpList_load_rowG (by rfl) 36 _ rfl (w6.heap.size) rfl Ax0 (loadRowX gx0 Tryd.underlying36 rfl (by rw [HAx0.out.1]; kernel_rfl)) ?_) | fail)
  obtain ⟨kxw15, rxw15⟩ := x2.rd
  obtain ⟨kyw15, ryw15⟩ := y2.rd
  refine (eqIntS_t _ _ _ _ _ _ rxw15 ryw15 hL2).mono ?_
  rintro e w15 ⟨rfl, bw15⟩
  replace ga0 := (bw15.block _ la0).trans ga0
  replace la0 := Nat.lt_of_lt_of_le la0 bw15.size
  replace gx0 := (bw15.block _ lx0).trans gx0
  replace lx0 := Nat.lt_of_lt_of_le lx0 bw15.size
  replace m0 := m0.below bw15
  replace m1 := m1.below bw15
  replace m2 := m2.below bw15
  replace x0 := x0.below bw15
  replace x1 := x1.below bw15
  replace x2 := x2.below bw15
  replace y2 := y2.below bw15
  have qw15 := bw15.size
  replace B := B.trans (bw15.mono B.size)
  clear bw15
  clear y2
  go_wp2_with (first | (refine wpList_load_rowG (by rfl) 29 _ rfl (w.heap.size) rfl A0 (loadRowX ga0 Tryd.underlying29 rfl (by rw [HAa0.out.1]; kernel_rfl)) ?_) | (refine wpList_load_rowG (by rfl) 36 _ rfl (w6.heap.size) rfl Ax0 (loadRowX gx0 Tryd.underlying36 rfl (by rw [HAx0.out.1]; kernel_rfl)) ?_) | fail)
  go_ret
  exact ⟨rfl, B⟩

end Go.Proofs.YtaginoiiomaheaaDoor
