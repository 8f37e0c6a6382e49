/-
  The walk of the law FnExactChoiceOf, out of the contracts of both sides.
-/
import Derived.Test.YtmhbonbjnpcpeaaGreatDoorChoice
import Derived.Test.YtmhbonbjnpcpeaaGreatDoorM10
import Derived.Test.YtmhbonbjnpcpeaaGreatDoorM5
namespace Go.Proofs.YtmhbonbjnpcpeaaGreatDoor
open Go.RowKit
set_option linter.unusedVariables false
set_option linter.unusedSimpArgs false

theorem aggGameX {w : World} {v : Value} {D : MGame} (h : RdGame w v D) : ∃ A : Array Value, (A.size = 14 ∧ A.all (·.oneCell') = true) ∧ v = .agg A := by
  obtain ⟨p4, p5, p8, p9, p10, c4, c5, c8, c9, c10, hv⟩ := h.shape
  exact ⟨_, ⟨rfl, by simp [Value.oneCell']⟩, hv⟩
set_option linter.unusedVariables false in
set_option maxRecDepth 100000 in
set_option maxHeartbeats 4000000 in
theorem fnExactChoiceOf_walk (v0 : Value) (z0 : MGame) (a1 : Int) (w : World) (h0 : RdGame w v0 z0) (wf1 : (Lit.int .i64 a1).wf = true) (hG : Grps w) :
    Calls Tryz.prog 3 #[v0, .int .i64 a1] w fun e w' => e = .returned (.bool true) ∧ Below w.heap.size w w' := by
  obtain ⟨A0, hA0, hv0⟩ := aggGameX h0
  subst hv0
  have B : Below w.heap.size w (w.alloc (.cells A0 27)) := ((Below.refl w.heap.size w).alloc (by simp) _)
  have ga0 : ((w.alloc (.cells A0 27))).heap[w.heap.size]? = some (.cells A0 27 (0, 0)) := by
    show (Array.push (w.heap) _)[_]? = _
    rw [Array.getElem?_push, if_pos (by simp)]
  have la0 : w.heap.size < ((w.alloc (.cells A0 27))).heap.size := by simp
  have HAa0 := Lib.hid hA0
  clear hA0
  have qla0 := la0
  have qw0 := B.size
  go_enter Tryz.func3, Tryz.ntmps3
  go_wp2_with (first | (refine wpList_load_rowG (by rfl) 27 _ rfl (w.heap.size) rfl A0 (loadRowX ga0 Tryz.underlying27 rfl (by rw [HAa0.out.1]; kernel_rfl)) ?_) | fail)
  generalize (w.alloc (.cells A0 27)) = w0 at B ga0 la0 qla0 qw0 ⊢
  refine (szGame_any _ z0 1048576 _ (h0.below B) (by omega) (by omega)).mono ?_
  rintro e w1 ⟨⟨r0, rfl, rn0, rm0, hr0⟩, bw1⟩
  replace ga0 := (bw1.block _ la0).trans ga0
  replace la0 := Nat.lt_of_lt_of_le la0 bw1.size
  have qw1 := bw1.size
  replace B := B.trans (bw1.mono B.size)
  clear bw1
  by_cases hneg0 : r0 < 0
  · go_wp2_with fail
    go_ret
    exact ⟨rfl, B⟩
  have hl0 : z0.Few := hr0 (by omega)
  have tl0 := MGame.total_le hl0
  clear hr0
  go_wp2_with (first | (refine wpList_load_rowG (by rfl) 27 _ rfl (w.heap.size) rfl A0 (loadRowX ga0 Tryz.underlying27 rfl (by rw [HAa0.out.1]; kernel_rfl)) ?_) | fail)
  refine (toGame_w _ z0 _ (h0.below B) hl0).mono ?_
  rintro e w2 ⟨m0v, rfl, m0, bw2⟩
  replace ga0 := (bw2.block _ la0).trans ga0
  replace la0 := Nat.lt_of_lt_of_le la0 bw2.size
  have qw2 := bw2.size
  replace B := B.trans (bw2.mono B.size)
  clear bw2
  go_wp2_with (first | (refine wpList_load_rowG (by rfl) 27 _ rfl (w.heap.size) rfl A0 (loadRowX ga0 Tryz.underlying27 rfl (by rw [HAa0.out.1]; kernel_rfl)) ?_) | fail)
  refine (sChoiceOf_any _ z0 a1 _ m0.rd hl0).mono ?_
  rintro e w3 ⟨rfl, bw3⟩
  replace ga0 := (bw3.block _ la0).trans ga0
  replace la0 := Nat.lt_of_lt_of_le la0 bw3.size
  replace m0 := m0.below bw3
  have qw3 := bw3.size
  replace B := B.trans (bw3.mono B.size)
  clear bw3
  go_wp2_with (first | (refine wpList_load_rowG (by rfl) 27 _ rfl (w.heap.size) rfl A0 (loadRowX ga0 Tryz.underlying27 rfl (by rw [HAa0.out.1]; kernel_rfl)) ?_) | fail)
  refine (toGame_w _ z0 _ (h0.below B) hl0).mono ?_
  rintro e w4 ⟨x0v, rfl, x0, bw4⟩
  replace ga0 := (bw4.block _ la0).trans ga0
  replace la0 := Nat.lt_of_lt_of_le la0 bw4.size
  replace m0 := m0.below bw4
  have qw4 := bw4.size
  replace B := B.trans (bw4.mono B.size)
  clear bw4
  obtain ⟨Ax0, hAx0, hvx0⟩ := aggGameX x0.rd
  subst hvx0
  have HAx0 := Lib.hid hAx0
  clear hAx0
  have HF := freshX w4 #[.int .i64 0, .int .i64 0, .bool false, .bool false, .slice none 0 0, .slice none 0 0, .int .i64 0, .int .i64 0, .slice none 0 0, .slice none 0 0, .slice none 0 0, .int .i64 0, .int .i64 0, .int .i64 0] Ax0 32
  have Ga0 := ((HF.2.1.block _ la0).trans ga0)
  have HF2 := Lib.hid HF
  clear HF
  go_wp2_with (first | (refine wpList_store_row rfl 32 _ _ rfl w4.heap.size Ax0 rfl rfl 32 _ (heap_alloc_new _ _) (by rw [HAx0.out.1]; kernel_rfl) (by rw [HAx0.out.1]; rfl) HAx0.out.2 ?_) | (refine wpList_load_rowG (by rfl) 27 _ rfl (w.heap.size) rfl A0 (loadRowX ga0 Tryz.underlying27 rfl (by rw [HAa0.out.1]; kernel_rfl)) ?_) | (refine wpList_load_rowG (by rfl) 27 _ rfl (w.heap.size) rfl A0 (loadRowX Ga0 Tryz.underlying27 rfl (by rw [HAa0.out.1]; kernel_rfl)) ?_) | (refine wpList_load_rowG (by rfl) 32 _ rfl (w4.heap.size) rfl Ax0 (loadRowX HF2.out.1 Tryz.underlying32 rfl (by rw [HAx0.out.1]; kernel_rfl)) ?_) | fail)
  clear Ga0
  have HF := HF2.out
  clear HF2
  generalize (World.setRow (World.alloc w4 (.cells #[.int .i64 0, .int .i64 0, .bool false, .bool false, .slice none 0 0, .slice none 0 0, .int .i64 0, .int .i64 0, .slice none 0 0, .slice none 0 0, .slice none 0 0, .int .i64 0, .int .i64 0, .int .i64 0] 32)) w4.heap.size Ax0) = w5 at HF ⊢
  obtain ⟨gx0, bxx0, lx0⟩ := HF
  replace ga0 := (bxx0.block _ la0).trans ga0
  replace la0 := Nat.lt_of_lt_of_le la0 bxx0.size
  replace m0 := m0.below bxx0
  replace x0 := x0.below bxx0
  have qw5 := bxx0.size
  replace B := B.trans (bxx0.mono B.size)
  clear bxx0
  have qxw5 := lx0
  refine (choiceOf_any _ z0 a1 _ x0.rd hl0 (hG.below B)).mono ?_
  rintro e w6 ⟨rfl, bw6⟩
  replace ga0 := (bw6.block _ la0).trans ga0
  replace la0 := Nat.lt_of_lt_of_le la0 bw6.size
  replace gx0 := (bw6.block _ lx0).trans gx0
  replace lx0 := Nat.lt_of_lt_of_le lx0 bw6.size
  replace m0 := m0.below bw6
  replace x0 := x0.below bw6
  have qw6 := bw6.size
  replace B := B.trans (bw6.mono B.size)
  clear bw6
  have HB := Lib.hid B
  have HTo := Lib.hid (fun wx (hb : Below w.heap.size w wx) => toGame_w _ z0 wx (h0.below hb) hl0)
  have HX := Lib.hid (fun wx (hb : Below w6.heap.size w6 wx) => x0.below hb)
  have HG : Hid (∀ wx, Below w6.heap.size w6 wx → wx.heap[w.heap.size]? = some (.cells A0 27 (0, 0)) ∧ wx.heap[w4.heap.size]? = some (.cells Ax0 32 (0, 0))) := Lib.hid (fun wx hb => ⟨(hb.block _ la0).trans ga0, (hb.block _ lx0).trans gx0⟩)
  go_wp2_with fail
  refine wp_region_held_drew (S := fun w' => w'.heap[w.heap.size]? = some (.cells A0 27 (0, 0)) ∧ w'.heap[w4.heap.size]? = some (.cells Ax0 32 (0, 0))) (by kernel_rfl) ⟨ga0, gx0⟩ (fun hHeld => ?_)
  refine wpAnyH_take (i := 0) (oi := { dst := some 26, op := Go.Op.load 32 (Go.Operand.tmp 7), type := 32, pos := "exact.go:5029", after := #[], guard := none }) (v := .agg Ax0) rfl (by kernel_rfl) (by kernel_rfl) (by kernel_rfl) (fun _ _ _ h => h) (yieldsX (by rfl) 32 _ rfl (w4.heap.size) rfl Ax0 32 _ (fun wq hSw => hSw.2) Tryz.underlying32 rfl (by rw [HAx0.out.1]; kernel_rfl)) hHeld ?_
  (try simp only [Act.put, List.setIfInBounds_toArray, List.set_cons_zero, List.set_cons_succ])
  refine wpAnyH_take (i := 1) (oi := { dst := some 27, op := Go.Op.load 27 (Go.Operand.tmp 2), type := 27, pos := "exact.go:5029", after := #[], guard := none }) (v := .agg A0) rfl (by kernel_rfl) (by kernel_rfl) (by kernel_rfl) (fun _ _ _ h => h) (yieldsX (by rfl) 27 _ rfl (w.heap.size) rfl A0 27 _ (fun wq hSw => hSw.1) Tryz.underlying27 rfl (by rw [HAa0.out.1]; kernel_rfl)) hHeld ?_
  (try simp only [Act.put, List.setIfInBounds_toArray, List.set_cons_zero, List.set_cons_succ])
  refine wpAnyH_ready (rs := [2]) (by kernel_rfl) (by simp) ?_
  refine AllReadyH.cons (o := { dst := some 28, op := Go.Op.call { callee := Go.Callee.value (Go.Operand.func 6), args := #[Go.Operand.tmp 27], argTypes := #[27] }, type := 32, pos := "exact.go:5029", after := #[{ on := 1, ground := Go.Ground.data }], guard := none }) rfl (fun K hK => ?_) AllReadyH.nil
  go_simp
  refine (HTo.out _ HB.out.drew).mono ?_
  rintro e wy0 ⟨yv, rfl, hy, By⟩
  go_wp2_with fail
  refine hK.out _ _ (HG.out wy0 ((Below.refl _ _).drew.trans By)) (fun hHeld => ?_)
  clear hK K
  (try simp only [Act.put, List.setIfInBounds_toArray, List.set_cons_zero, List.set_cons_succ])
  refine wpAnyH_ready (rs := [3]) (by kernel_rfl) (by simp) ?_
  refine AllReadyH.cons (o := { dst := some 29, op := Go.Op.call { callee := Go.Callee.value (Go.Operand.func 8), args := #[Go.Operand.tmp 26, Go.Operand.tmp 28], argTypes := #[32, 32] }, type := 4, pos := "exact.go:5029", after := #[{ on := 0, ground := Go.Ground.data }, { on := 2, ground := Go.Ground.data }, { on := 2, ground := Go.Ground.chain }], guard := none }) rfl (fun K hK => ?_) AllReadyH.nil
  go_simp
  refine (eqGame_t _ _ z0 _ (HX.out _ ((Below.refl _ _).drew.trans By)).rd hy.rd hl0).mono ?_
  rintro e wz0 ⟨rfl, Bz⟩
  go_wp2_with fail
  have By7 : Below w6.heap.size w6 wy0 := (Below.refl _ _).drew.trans By
  have Bc : Below w6.heap.size w6 wz0 := By7.trans (Bz.mono By7.size)
  refine hK.out _ _ (HG.out wz0 Bc) (fun hHeld => ?_)
  clear hK K
  (try simp only [Act.put, List.setIfInBounds_toArray, List.set_cons_zero, List.set_cons_succ])
  refine wpAnyH_take (i := 4) (oi := { dst := some 30, op := Go.Op.unOp Go.UnOp.not 4 (Go.Operand.tmp 29), type := 4, pos := "exact.go:5029", after := #[{ on := 3, ground := Go.Ground.data }], guard := none }) (v := .bool false) rfl (by kernel_rfl) (by kernel_rfl) (by kernel_rfl) (fun _ _ _ h => h) (Or.inl ⟨by rfl, ?_⟩) hHeld ?_
  · intro wq hSw; go_simp
  (try simp only [Act.put, List.setIfInBounds_toArray, List.set_cons_zero, List.set_cons_succ])
  refine wpAnyH_done (by kernel_rfl) ?_ _
  clear HTo HX HG HB hy By Bz By7 hHeld
  replace ga0 := (Bc.block _ la0).trans ga0
  replace la0 := Nat.lt_of_lt_of_le la0 Bc.size
  replace gx0 := (Bc.block _ lx0).trans gx0
  replace lx0 := Nat.lt_of_lt_of_le lx0 Bc.size
  replace m0 := m0.below Bc
  replace x0 := x0.below Bc
  have qwz0 := Bc.size
  replace B := B.trans (Bc.mono B.size)
  clear Bc
  go_wp2_with (first | (refine wpList_load_rowG (by rfl) 27 _ rfl (w.heap.size) rfl A0 (loadRowX ga0 Tryz.underlying27 rfl (by rw [HAa0.out.1]; kernel_rfl)) ?_) | (refine wpList_load_rowG (by rfl) 32 _ rfl (w4.heap.size) rfl Ax0 (loadRowX gx0 Tryz.underlying32 rfl (by rw [HAx0.out.1]; kernel_rfl)) ?_) | fail)
  go_ret
  exact ⟨rfl, B⟩

end Go.Proofs.YtmhbonbjnpcpeaaGreatDoor
