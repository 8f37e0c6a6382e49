/-
  The walk of the law FnExactFormatTable, out of the contracts of both sides; the struct's cells are never opened.
-/
import Derived.Test.YtmfammgdcdlceaaDoorFTab
import Derived.Deep.RegionHeld3
namespace Go.Proofs.YtmfammgdcdlceaaDoor
open Go.RowKit
set_option linter.unusedVariables false
set_option linter.unusedSimpArgs false

theorem loadRowT {w : World} {g : Nat} {t ty : TypeId} {cs : Array Value} {fr : Nat × Nat} {d : TypeDesc} (hg : w.heap[g]? = some (.cells cs t fr)) (hu : Tryd.prog.underlying ty = some d) (hd : d.isRow = true) (hi : (Tryd.prog.info? ty).map (·.size) = some cs.size) :
    (Instr.loadAt ty (.pointer (some ⟨g, 0, none⟩))).run Tryd.prog w = .ok (.agg cs) w := by
  have := run_loadAt_mid (P := Tryd.prog) w g 0 ty cs.toList d (fun j v hv => by
    have hc : w.cell? ⟨g, 0 + j, none⟩ = cs[0 + j]? := cell_of_row w g (0 + j) cs t fr hg
    rw [hc, Nat.zero_add]; simpa using hv) hu hd (by rw [hi]; simp)
  simpa using this
theorem yieldsT {ops : Array Oper} {S : World → Prop} {op : Oper} {a : Act} (hw : Region.wanted op (yielded ops a.tmps) = true) (ty : TypeId) (x : Operand) (ho : op.op = .load ty x)
    (b : Nat) (hx : a.eval x = .pointer (some ⟨b, 0, none⟩)) (cs : Array Value) (t : TypeId) (d : TypeDesc) (hS : ∀ w : World, S w → w.heap[b]? = some (.cells cs t (0, 0)))
    (hu : Tryd.prog.underlying ty = some d) (hd : d.isRow = true) (hi : (Tryd.prog.info? ty).map (·.size) = some cs.size) : YieldsIf Tryd.prog ops S op (.agg cs) a := by
  have := yieldsIf_load_mid (P := Tryd.prog) hw ty x ho b 0 hx cs.toList d (fun w h j v hv => by
    have hc : w.cell? ⟨b, 0 + j, none⟩ = cs[0 + j]? := cell_of_row w b (0 + j) cs t (0, 0) (hS w h)
    rw [hc, Nat.zero_add]; simpa using hv) hu hd (by rw [hi]; simp)
  simpa using this
theorem aggTable {w : World} {v : Value} {D : MTable} (h : RdTable w v D) : ∃ A : Array Value, (A.size = 27 ∧ A.all (·.oneCell') = true) ∧ v = .agg A := by
  obtain ⟨p0_4, p0_5, p0_8, p0_10, p0_15, p0_16, p0_19, p0_20, p0_21, p0_25, p0_26, c0_4, c0_5, c0_8, c0_10, c0_15, c0_16, c0_19, c0_20, c0_21, c0_25, c0_26, hv0⟩ := h.shape
  exact ⟨_, ⟨rfl, by simp [Value.oneCell']⟩, hv0⟩
set_option maxRecDepth 100000 in
set_option maxHeartbeats 2000000 in
theorem fnExactFormatTable_walk (v0 : Value) (z0 : MTable) (w : World) (h0 : RdTable w v0 z0) (hP : Pow w) :
    Calls Tryd.prog 7 #[v0] w fun e w' => e = .returned (.bool true) ∧ Below w.heap.size w w' := by
  obtain ⟨A0, hA0, rfl⟩ := aggTable h0
  have L0 : ∀ wx : World, wx.heap[w.heap.size]? = some (.cells A0 52 (0, 0)) → (Instr.loadAt 52 (.pointer (some ⟨w.heap.size, 0, none⟩))).run Tryd.prog wx = .ok (.agg A0) wx := fun wx hg => loadRowT hg Tryd.underlying52 rfl (by rw [hA0.1]; kernel_rfl)
  obtain ⟨W0, hW0⟩ : ∃ W, W = w.alloc (.cells A0 52) := ⟨_, rfl⟩
  have B : Below w.heap.size w W0 := by rw [hW0]; exact (Below.refl w.heap.size w).alloc (by simp) _
  have ga0 : W0.heap[w.heap.size]? = some (.cells A0 52 (0, 0)) := by rw [hW0]; exact heap_alloc_new _ _
  have la0 : w.heap.size < W0.heap.size := by rw [hW0]; simp
  have HL0 := Lib.hid L0
  have HW0 := Lib.hid hW0
  have HA0 := Lib.hid hA0
  clear hW0 L0 hA0
  go_enter Tryd.func7, Tryd.ntmps7
  go_upto_region 2 with fail
  rw [← HW0.out]
  refine wp_region_lit ?_
  refine wpList_load_row rfl 52 _ rfl w.heap.size rfl 52 _ _ _ ga0 Tryd.underlying52 rfl (by rw [HA0.out.1]; kernel_rfl) ?_
  go_wp2_with fail
  refine (szTable_any _ z0 1048576 _ (h0.below B) (by omega) (by omega)).mono ?_
  rintro e w2 ⟨⟨r0, rfl, rn0, rm0, hr0⟩, bw2⟩
  replace ga0 := (bw2.block _ la0).trans ga0
  replace la0 := Nat.lt_of_lt_of_le la0 bw2.size
  replace B := B.trans (bw2.mono B.size)
  clear bw2
  by_cases hneg0 : r0 < 0
  · go_wp2_with fail
    go_ret
    exact ⟨rfl, B⟩
  have hl0 : z0.Few := hr0 (by omega)
  clear hr0
  go_upto_region 5 with fail
  refine wp_region_lit ?_
  refine wpList_load_row rfl 52 _ rfl w.heap.size rfl 52 _ _ _ ga0 Tryd.underlying52 rfl (by rw [HA0.out.1]; kernel_rfl) ?_
  go_wp2_with fail
  refine (toTable_any _ z0 _ (h0.below B) hl0).mono ?_
  rintro e w3 ⟨m0v, rfl, m0, bw3⟩
  replace ga0 := (bw3.block _ la0).trans ga0
  replace la0 := Nat.lt_of_lt_of_le la0 bw3.size
  replace B := B.trans (bw3.mono B.size)
  clear bw3
  go_wp2_with fail
  refine (sFormatTable_any _ z0 _ m0 hl0).mono ?_
  rintro e w4 ⟨rfl, bw4⟩
  replace ga0 := (bw4.block _ la0).trans ga0
  replace la0 := Nat.lt_of_lt_of_le la0 bw4.size
  replace B := B.trans (bw4.mono B.size)
  clear bw4 m0
  go_upto_region 6 with fail
  refine wp_region_lit ?_
  refine wpList_load_row rfl 52 _ rfl w.heap.size rfl 52 _ _ _ ga0 Tryd.underlying52 rfl (by rw [HA0.out.1]; kernel_rfl) ?_
  go_wp2_with fail
  refine (toTable_any _ z0 _ (h0.below B) hl0).mono ?_
  rintro e w5 ⟨x0v, rfl, x0, bw5⟩
  replace ga0 := (bw5.block _ la0).trans ga0
  replace la0 := Nat.lt_of_lt_of_le la0 bw5.size
  replace B := B.trans (bw5.mono B.size)
  clear bw5
  obtain ⟨A1, hA1, rfl⟩ := aggTable x0
  have HA1 := Lib.hid hA1
  clear hA1
  have F : ∀ Z : Array Value, ((w5.alloc (.cells Z 56)).setRow w5.heap.size A1).heap[w5.heap.size]? = some (.cells A1 56 (0, 0)) ∧ Below w5.heap.size w5 ((w5.alloc (.cells Z 56)).setRow w5.heap.size A1) ∧ w5.heap.size < ((w5.alloc (.cells Z 56)).setRow w5.heap.size A1).heap.size := fun Z =>
    ⟨setRow_heap _ _ Z A1 _ _ (heap_alloc_new _ _), below_setRow ((Below.refl _ _).alloc (Nat.le_refl _) _) (Nat.le_refl _) _, by simp [World.setRow]⟩
  have HF := Lib.hid F
  clear F
  go_upto_region 7 with (first | (refine wpList_store_row rfl 56 _ _ rfl w5.heap.size A1 rfl rfl 56 _ (heap_alloc_new _ _) (by rw [HA1.out.1]; kernel_rfl) (by rw [HA1.out.1]; rfl) HA1.out.2 ?_) | fail)
  refine wp_region_lit ?_
  refine wpList_load_row rfl 56 _ rfl w5.heap.size rfl 56 _ _ _ (HF.out _).1 Tryd.underlying56 rfl (by rw [HA1.out.1]; kernel_rfl) ?_
  go_wp2_with fail
  refine (formatTable_any _ z0 _ (x0.below (HF.out _).2.1) hl0 (hP.below (B.trans ((HF.out _).2.1.mono B.size)) (Nat.le_refl _))).mono ?_
  rintro e w7 ⟨rfl, bw7⟩
  have lx0 : w5.heap.size < w7.heap.size := Nat.lt_of_lt_of_le (HF.out _).2.2 bw7.size
  have gx0 : w7.heap[w5.heap.size]? = some (.cells A1 56 (0, 0)) := (bw7.block _ (HF.out _).2.2).trans (HF.out _).1
  have bw : Below w5.heap.size w5 w7 := (HF.out _).2.1.trans (bw7.mono (HF.out _).2.1.size)
  clear bw7
  replace ga0 := (bw.block _ la0).trans ga0
  replace la0 := Nat.lt_of_lt_of_le la0 bw.size
  replace B := B.trans (bw.mono B.size)
  replace x0 := x0.below bw
  clear bw HF
  have HB := Lib.hid B
  have HTo := Lib.hid (fun wx (hb : Below w.heap.size w wx) => toTable_any _ z0 wx (h0.below hb) hl0)
  have HX := Lib.hid (fun wx (hb : Below w7.heap.size w7 wx) => x0.below hb)
  have HG : Hid (∀ wx, Below w7.heap.size w7 wx → wx.heap[w.heap.size]? = some (.cells A0 52 (0, 0)) ∧ wx.heap[w5.heap.size]? = some (.cells A1 56 (0, 0))) := Lib.hid (fun wx hb => ⟨(hb.block _ la0).trans ga0, (hb.block _ lx0).trans gx0⟩)
  have R0 := HL0.out
  have R1 : ∀ wx : World, wx.heap[w5.heap.size]? = some (.cells A1 56 (0, 0)) → (Instr.loadAt 56 (.pointer (some ⟨w5.heap.size, 0, none⟩))).run Tryd.prog wx = .ok (.agg A1) wx := fun wx hg => loadRowT hg Tryd.underlying56 rfl (by rw [HA1.out.1]; kernel_rfl)
  clear HW0 h0 x0 B
  go_wp2_with fail
  refine wp_region_held_drew (S := fun w' => w'.heap[w.heap.size]? = some (.cells A0 52 (0, 0)) ∧ w'.heap[w5.heap.size]? = some (.cells A1 56 (0, 0))) (by kernel_rfl) ⟨ga0, gx0⟩ (fun hHeld => ?_)
  refine wpAnyH_take (i := 0) (oi := { dst := some 22, op := Go.Op.load 56 (Go.Operand.tmp 5), type := 56, pos := "exact.go:7490", after := #[], guard := none }) (v := .agg A1) rfl (by kernel_rfl) (by kernel_rfl) (by kernel_rfl) (fun _ _ _ h => h) (yieldsT (by rfl) 56 _ rfl w5.heap.size rfl A1 56 _ (fun wq hSw => hSw.2) Tryd.underlying56 rfl (by rw [HA1.out.1]; kernel_rfl)) hHeld ?_
  (try simp only [Act.put, List.setIfInBounds_toArray, List.set_cons_zero, List.set_cons_succ])
  refine wpAnyH_take (i := 1) (oi := { dst := some 23, op := Go.Op.load 52 (Go.Operand.tmp 1), type := 52, pos := "exact.go:7490", after := #[], guard := none }) (v := .agg A0) rfl (by kernel_rfl) (by kernel_rfl) (by kernel_rfl) (fun _ _ _ h => h) (yieldsT (by rfl) 52 _ rfl w.heap.size rfl A0 52 _ (fun wq hSw => hSw.1) Tryd.underlying52 rfl (by rw [HA0.out.1]; kernel_rfl)) hHeld ?_
  (try simp only [Act.put, List.setIfInBounds_toArray, List.set_cons_zero, List.set_cons_succ])
  refine wpAnyH_ready (rs := [2]) (by kernel_rfl) (by simp) ?_
  refine AllReadyH.cons (o := { dst := some 24, op := Go.Op.call { callee := Go.Callee.value (Go.Operand.func 27), args := #[Go.Operand.tmp 23], argTypes := #[52] }, type := 56, pos := "exact.go:7490", after := #[{ on := 1, ground := Go.Ground.data }], guard := none }) rfl (fun K hK => ?_) AllReadyH.nil
  go_simp
  refine (HTo.out _ HB.out.drew).mono ?_
  rintro e wy0 ⟨yv, rfl, hy, By⟩
  go_wp2_with fail
  refine hK.out _ _ (HG.out wy0 ((Below.refl _ _).drew.trans By)) (fun hHeld => ?_)
  clear hK K
  (try simp only [Act.put, List.setIfInBounds_toArray, List.set_cons_zero, List.set_cons_succ])
  refine wpAnyH_ready (rs := [3]) (by kernel_rfl) (by simp) ?_
  refine AllReadyH.cons (o := { dst := some 25, op := Go.Op.call { callee := Go.Callee.value (Go.Operand.func 29), args := #[Go.Operand.tmp 22, Go.Operand.tmp 24], argTypes := #[56, 56] }, type := 4, pos := "exact.go:7490", after := #[{ on := 0, ground := Go.Ground.data }, { on := 2, ground := Go.Ground.data }, { on := 2, ground := Go.Ground.chain }], guard := none }) rfl (fun K hK => ?_) AllReadyH.nil
  go_simp
  refine (eqTable_t _ _ z0 _ (HX.out _ ((Below.refl _ _).drew.trans By)) hy hl0).mono ?_
  rintro e wz0 ⟨rfl, Bz⟩
  go_wp2_with fail
  have By7 : Below w7.heap.size w7 wy0 := (Below.refl _ _).drew.trans By
  have Bz7 : Below w7.heap.size w7 wz0 := By7.trans (Bz.mono By7.size)
  refine hK.out _ _ (HG.out wz0 Bz7) (fun hHeld => ?_)
  clear hK K
  (try simp only [Act.put, List.setIfInBounds_toArray, List.set_cons_zero, List.set_cons_succ])
  refine wpAnyH_take (i := 4) (oi := { dst := some 26, op := Go.Op.unOp Go.UnOp.not 4 (Go.Operand.tmp 25), type := 4, pos := "exact.go:7490", after := #[{ on := 3, ground := Go.Ground.data }], guard := none }) (v := .bool false) rfl (by kernel_rfl) (by kernel_rfl) (by kernel_rfl) (fun _ _ _ h => h) (Or.inl ⟨by rfl, ?_⟩) hHeld ?_
  · intro wq hSw; go_simp
  (try simp only [Act.put, List.setIfInBounds_toArray, List.set_cons_zero, List.set_cons_succ])
  refine wpAnyH_done (by kernel_rfl) ?_ _
  have Bw := HB.out.trans (Bz7.mono HB.out.size)
  clear hy
  go_wp2_with fail
  go_ret
  exact ⟨rfl, Bw⟩
end Go.Proofs.YtmfammgdcdlceaaDoor
