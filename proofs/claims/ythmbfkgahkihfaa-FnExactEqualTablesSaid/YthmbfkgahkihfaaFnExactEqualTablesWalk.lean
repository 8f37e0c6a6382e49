/-
  The walk of the law FnExactEqualTables, out of the contracts of both sides; the struct's cells are never opened.
-/
import Derived.Test.YthmbfkgahkihfaaNTable
import Derived.Test.YthmbfkgahkihfaaEqTable
import Derived.Deep.RegionHeld3
namespace Go.Proofs.Ythmbfkgahkihfaa
open Go.RowKit
set_option linter.unusedVariables false
set_option linter.unusedSimpArgs false

theorem loadRowT {w : World} {g : Nat} {t ty : TypeId} {cs : Array Value} {fr : Nat × Nat} {d : TypeDesc} (hg : w.heap[g]? = some (.cells cs t fr)) (hu : Try.prog.underlying ty = some d) (hd : d.isRow = true) (hi : (Try.prog.info? ty).map (·.size) = some cs.size) :
    (Instr.loadAt ty (.pointer (some ⟨g, 0, none⟩))).run Try.prog w = .ok (.agg cs) w := by
  have := run_loadAt_mid (P := Try.prog) w g 0 ty cs.toList d (fun j v hv => by
    have hc : w.cell? ⟨g, 0 + j, none⟩ = cs[0 + j]? := cell_of_row w g (0 + j) cs t fr hg
    rw [hc, Nat.zero_add]; simpa using hv) hu hd (by rw [hi]; simp)
  simpa using this
theorem yieldsT {ops : Array Oper} {S : World → Prop} {op : Oper} {a : Act} (hw : Region.wanted op (yielded ops a.tmps) = true) (ty : TypeId) (x : Operand) (ho : op.op = .load ty x)
    (b : Nat) (hx : a.eval x = .pointer (some ⟨b, 0, none⟩)) (cs : Array Value) (t : TypeId) (d : TypeDesc) (hS : ∀ w : World, S w → w.heap[b]? = some (.cells cs t (0, 0)))
    (hu : Try.prog.underlying ty = some d) (hd : d.isRow = true) (hi : (Try.prog.info? ty).map (·.size) = some cs.size) : YieldsIf Try.prog ops S op (.agg cs) a := by
  have := yieldsIf_load_mid (P := Try.prog) hw ty x ho b 0 hx cs.toList d (fun w h j v hv => by
    have hc : w.cell? ⟨b, 0 + j, none⟩ = cs[0 + j]? := cell_of_row w b (0 + j) cs t (0, 0) (hS w h)
    rw [hc, Nat.zero_add]; simpa using hv) hu hd (by rw [hi]; simp)
  simpa using this
theorem aggTable {w : World} {v : Value} {D : MTable} (h : RdTable w v D) : ∃ A : Array Value, (A.size = 27 ∧ A.all (·.oneCell') = true) ∧ v = .agg A := by
  obtain ⟨p0_4, p0_5, p0_8, p0_10, p0_15, p0_16, p0_19, p0_20, p0_21, p0_25, p0_26, c0_4, c0_5, c0_8, c0_10, c0_15, c0_16, c0_19, c0_20, c0_21, c0_25, c0_26, hv0⟩ := h.shape
  exact ⟨_, ⟨rfl, by simp [Value.oneCell']⟩, hv0⟩
theorem freshT (w5 : World) (A1 : Array Value) (t : TypeId) : ∀ Z : Array Value, ((w5.alloc (.cells Z t)).setRow w5.heap.size A1).heap[w5.heap.size]? = some (.cells A1 t (0, 0)) ∧ Below w5.heap.size w5 ((w5.alloc (.cells Z t)).setRow w5.heap.size A1) ∧ w5.heap.size < ((w5.alloc (.cells Z t)).setRow w5.heap.size A1).heap.size := fun Z =>
  ⟨setRow_heap _ _ Z A1 _ _ (heap_alloc_new _ _), below_setRow ((Below.refl _ _).alloc (Nat.le_refl _) _) (Nat.le_refl _) _, by simp [World.setRow]⟩
set_option maxRecDepth 100000 in
set_option maxHeartbeats 2000000 in
theorem fnExactEqualTables_walk (v0 : Value) (z0 : MTable) (v1 : Value) (z1 : MTable) (w : World) (h0 : RdTable w v0 z0) (h1 : RdTable w v1 z1) :
    Calls Try.prog 9 #[v0, v1] w fun e w' => e = .returned (.bool true) ∧ Below w.heap.size w w' := by
  obtain ⟨A0, hA0, rfl⟩ := aggTable h0
  obtain ⟨A1, hA1, rfl⟩ := aggTable h1
  obtain ⟨W0, hW0⟩ : ∃ W, W = (w.alloc (.cells A0 41)).alloc (.cells A1 41) := ⟨_, rfl⟩
  have B : Below w.heap.size w W0 := by rw [hW0]; exact ((Below.refl w.heap.size w).alloc (by simp) _).alloc (by simp) _
  have ga : W0.heap[w.heap.size]? = some (.cells A0 41 (0, 0)) := by
    rw [hW0, ((Below.refl (w.alloc (.cells A0 41)).heap.size _).alloc (Nat.le_refl _) _).block w.heap.size (by simp)]
    exact heap_alloc_new _ _
  have gb : W0.heap[w.heap.size + 1]? = some (.cells A1 41 (0, 0)) := by
    rw [hW0]
    have := heap_alloc_new (w.alloc (.cells A0 41)) (.cells A1 41)
    simpa using this
  have la : w.heap.size < W0.heap.size := by rw [hW0]; simp; omega
  have lb : w.heap.size + 1 < W0.heap.size := by rw [hW0]; simp
  have HW0 := Lib.hid hW0
  have HA0 := Lib.hid hA0
  have HA1 := Lib.hid hA1
  clear hW0 hA0 hA1
  go_enter Try.func9, Try.ntmps9
  go_upto_region 2 with fail
  rw [← HW0.out]
  refine wp_region_lit ?_
  refine wpList_load_row rfl 41 _ rfl w.heap.size rfl 41 _ _ _ ga Try.underlying41 rfl (by rw [HA0.out.1]; kernel_rfl) ?_
  go_wp2_with fail
  refine (szTable_any _ z0 1048576 _ (h0.below B) (by omega) (by omega)).mono ?_
  rintro e w2 ⟨⟨r0, rfl, rn0, rm0, hr0⟩, bw2⟩
  replace ga := (bw2.block _ la).trans ga
  replace la := Nat.lt_of_lt_of_le la bw2.size
  replace gb := (bw2.block _ lb).trans gb
  replace lb := Nat.lt_of_lt_of_le lb bw2.size
  replace B := B.trans (bw2.mono B.size)
  clear bw2
  by_cases hneg0 : r0 < 0
  · go_wp2_with fail
    go_ret
    exact ⟨rfl, B⟩
  have hl0 : z0.Few := hr0 (by omega)
  clear hr0
  go_upto_region 5 with fail
  refine wp_region_lit ?_
  refine wpList_load_row rfl 41 _ rfl (w.heap.size + 1) rfl 41 _ _ _ gb Try.underlying41 rfl (by rw [HA1.out.1]; kernel_rfl) ?_
  go_wp2_with fail
  refine (szTable_any _ z1 r0 _ (h1.below B) (by omega) (by omega)).mono ?_
  rintro e w3 ⟨⟨r1, rfl, rn1, rm1, hr1⟩, bw3⟩
  replace ga := (bw3.block _ la).trans ga
  replace la := Nat.lt_of_lt_of_le la bw3.size
  replace gb := (bw3.block _ lb).trans gb
  replace lb := Nat.lt_of_lt_of_le lb bw3.size
  replace B := B.trans (bw3.mono B.size)
  clear bw3
  by_cases hneg1 : r1 < 0
  · go_wp2_with fail
    go_ret
    exact ⟨rfl, B⟩
  have hl1 : z1.Few := hr1 (by omega)
  clear hr1
  obtain ⟨r, hr⟩ : ∃ r, eqTables z0 z1 = r := ⟨_, rfl⟩
  have HTa := Lib.hid (fun wx (hb : Below w.heap.size w wx) => toTable_any _ z0 wx (h0.below hb) hl0)
  have HTb := Lib.hid (fun wx (hb : Below w.heap.size w wx) => toTable_any _ z1 wx (h1.below hb) hl1)
  have HG : Hid (∀ wx, Below w3.heap.size w3 wx → wx.heap[w.heap.size]? = some (.cells A0 41 (0, 0)) ∧ wx.heap[w.heap.size + 1]? = some (.cells A1 41 (0, 0))) := Lib.hid (fun wx hb => ⟨(hb.block _ la).trans ga, (hb.block _ lb).trans gb⟩)
  have HB := Lib.hid B
  go_upto_region 8 with fail
  refine wp_region_held_drew (S := fun w' => w'.heap[w.heap.size]? = some (.cells A0 41 (0, 0)) ∧ w'.heap[w.heap.size + 1]? = some (.cells A1 41 (0, 0))) (by kernel_rfl) ⟨ga, gb⟩ (fun hHeld => ?_)
  refine wpAnyH_take (i := 0) (oi := { dst := some 20, op := Go.Op.load 41 (Go.Operand.tmp 2), type := 41, pos := "exact.go:6483", after := #[], guard := none }) (v := .agg A0) rfl (by kernel_rfl) (by kernel_rfl) (by kernel_rfl) (fun _ _ _ h => h) (yieldsT (by rfl) 41 _ rfl w.heap.size rfl A0 41 _ (fun wq hSw => hSw.1) Try.underlying41 rfl (by rw [HA0.out.1]; kernel_rfl)) hHeld ?_
  (try simp only [Act.put, List.setIfInBounds_toArray, List.set_cons_zero, List.set_cons_succ])
  refine wpAnyH_take (i := 2) (oi := { dst := some 22, op := Go.Op.load 41 (Go.Operand.tmp 3), type := 41, pos := "exact.go:6483", after := #[], guard := none }) (v := .agg A1) rfl (by kernel_rfl) (by kernel_rfl) (by kernel_rfl) (fun _ _ _ h => h) (yieldsT (by rfl) 41 _ rfl (w.heap.size + 1) rfl A1 41 _ (fun wq hSw => hSw.2) Try.underlying41 rfl (by rw [HA1.out.1]; kernel_rfl)) hHeld ?_
  (try simp only [Act.put, List.setIfInBounds_toArray, List.set_cons_zero, List.set_cons_succ])
  refine wpAnyH_ready (rs := [1]) (by kernel_rfl) (by simp) ?_
  refine AllReadyH.cons (o := { dst := some 21, op := Go.Op.call { callee := Go.Callee.value (Go.Operand.func 25), args := #[Go.Operand.tmp 20], argTypes := #[41] }, type := 45, pos := "exact.go:6483", after := #[{ on := 0, ground := Go.Ground.data }], guard := none }) rfl (fun K hK => ?_) AllReadyH.nil
  go_simp
  refine (HTa.out _ HB.out.drew).mono ?_
  rintro e wa ⟨ma, rfl, ra, Ba⟩
  go_wp2_with fail
  have Ba7 : Below w3.heap.size w3 wa := (Below.refl _ _).drew.trans Ba
  refine hK.out _ _ (HG.out wa Ba7) (fun hHeld => ?_)
  clear hK K
  (try simp only [Act.put, List.setIfInBounds_toArray, List.set_cons_zero, List.set_cons_succ])
  refine wpAnyH_ready (rs := [3]) (by kernel_rfl) (by simp) ?_
  refine AllReadyH.cons (o := { dst := some 23, op := Go.Op.call { callee := Go.Callee.value (Go.Operand.func 25), args := #[Go.Operand.tmp 22], argTypes := #[41] }, type := 45, pos := "exact.go:6483", after := #[{ on := 2, ground := Go.Ground.data }, { on := 1, ground := Go.Ground.chain }], guard := none }) rfl (fun K hK => ?_) AllReadyH.nil
  go_simp
  refine (HTb.out _ (HB.out.trans (Ba7.mono HB.out.size))).mono ?_
  rintro e wb ⟨mb, rfl, rb, Bb⟩
  go_wp2_with fail
  have Bb7 : Below w3.heap.size w3 wb := Ba7.trans (Bb.mono Ba7.size)
  refine hK.out _ _ (HG.out wb Bb7) (fun hHeld => ?_)
  clear hK K
  (try simp only [Act.put, List.setIfInBounds_toArray, List.set_cons_zero, List.set_cons_succ])
  refine wpAnyH_ready (rs := [4]) (by kernel_rfl) (by simp) ?_
  refine AllReadyH.cons (o := { dst := some 24, op := Go.Op.call { callee := Go.Callee.value (Go.Operand.func 32), args := #[Go.Operand.tmp 21, Go.Operand.tmp 23], argTypes := #[45, 45] }, type := 4, pos := "exact.go:6483", after := #[{ on := 1, ground := Go.Ground.data }, { on := 3, ground := Go.Ground.data }, { on := 3, ground := Go.Ground.chain }], guard := none }) rfl (fun K hK => ?_) AllReadyH.nil
  go_simp
  refine (sEqualTables_any _ _ z0 z1 _ (ra.below Bb) rb hl0 hl1 r hr).mono ?_
  rintro e wc ⟨rfl, Bc⟩
  go_wp2_with fail
  have Bc7 : Below w3.heap.size w3 wc := Bb7.trans (Bc.mono Bb7.size)
  refine hK.out _ _ (HG.out wc Bc7) (fun hHeld => ?_)
  clear hK K
  (try simp only [Act.put, List.setIfInBounds_toArray, List.set_cons_zero, List.set_cons_succ])
  refine wpAnyH_take (i := 5) (oi := { dst := some 6, op := Go.Op.assign (Go.Operand.tmp 24), type := 4, pos := "exact.go:6483", after := #[{ on := 4, ground := Go.Ground.data }, { on := 4, ground := Go.Ground.chain }, { on := 0, ground := Go.Ground.phase }, { on := 1, ground := Go.Ground.phase }, { on := 2, ground := Go.Ground.phase }, { on := 3, ground := Go.Ground.phase }, { on := 4, ground := Go.Ground.phase }], guard := none }) (v := .bool r) rfl (by kernel_rfl) (by kernel_rfl) (by kernel_rfl) (fun _ _ _ h => h) (Or.inl ⟨by rfl, ?_⟩) hHeld ?_
  · intro wq hSw; go_simp
  (try simp only [Act.put, List.setIfInBounds_toArray, List.set_cons_zero, List.set_cons_succ])
  refine wpAnyH_done (by kernel_rfl) ?_ _
  have hgc := HG.out wc Bc7
  replace ga := hgc.1
  replace gb := hgc.2
  replace la := Nat.lt_of_lt_of_le la Bc7.size
  replace lb := Nat.lt_of_lt_of_le lb Bc7.size
  replace B := HB.out.trans (Bc7.mono HB.out.size)
  clear hgc Bc7 Bc Bb7 Bb Ba7 Ba ra rb HG HB hHeld
  go_upto_region 9 with fail
  refine wp_region_lit ?_
  refine wpList_load_row rfl 41 _ rfl w.heap.size rfl 41 _ _ _ ga Try.underlying41 rfl (by rw [HA0.out.1]; kernel_rfl) ?_
  go_wp2_with fail
  refine (HTa.out _ B).mono ?_
  rintro e w5 ⟨x0v, rfl, x0, bw5⟩
  replace ga := (bw5.block _ la).trans ga
  replace la := Nat.lt_of_lt_of_le la bw5.size
  replace gb := (bw5.block _ lb).trans gb
  replace lb := Nat.lt_of_lt_of_le lb bw5.size
  replace B := B.trans (bw5.mono B.size)
  clear bw5
  obtain ⟨X0, hX0, rfl⟩ := aggTable x0
  have HX0 := Lib.hid hX0
  clear hX0
  have HF5 := Lib.hid (freshT w5 X0 45)
  go_upto_region 10 with (first | (refine wpList_store_row rfl 45 _ _ rfl w5.heap.size X0 rfl rfl 45 _ (heap_alloc_new _ _) (by rw [HX0.out.1]; kernel_rfl) (by rw [HX0.out.1]; rfl) HX0.out.2 ?_) | fail)
  refine wp_region_lit ?_
  refine wpList_load_row rfl 41 _ rfl (w.heap.size + 1) rfl 41 _ _ _ (((HF5.out _).2.1.block _ lb).trans gb) Try.underlying41 rfl (by rw [HA1.out.1]; kernel_rfl) ?_
  go_wp2_with fail
  refine (HTb.out _ (B.trans ((HF5.out _).2.1.mono B.size))).mono ?_
  rintro e w7 ⟨x1v, rfl, x1, bw7⟩
  have lx : w5.heap.size < w7.heap.size := Nat.lt_of_lt_of_le (HF5.out _).2.2 bw7.size
  have gx : w7.heap[w5.heap.size]? = some (.cells X0 45 (0, 0)) := (bw7.block _ (HF5.out _).2.2).trans (HF5.out _).1
  have bx : Below w5.heap.size w5 w7 := (HF5.out _).2.1.trans (bw7.mono (HF5.out _).2.1.size)
  clear bw7 HF5
  replace x0 := x0.below bx
  replace ga := (bx.block _ la).trans ga
  replace la := Nat.lt_of_lt_of_le la bx.size
  replace gb := (bx.block _ lb).trans gb
  replace lb := Nat.lt_of_lt_of_le lb bx.size
  replace B := B.trans (bx.mono B.size)
  clear bx
  obtain ⟨X1, hX1, rfl⟩ := aggTable x1
  have HX1 := Lib.hid hX1
  clear hX1
  have HF7 := Lib.hid (freshT w7 X1 45)
  go_upto_region 11 with (first | (refine wpList_store_row rfl 45 _ _ rfl w7.heap.size X1 rfl rfl 45 _ (heap_alloc_new _ _) (by rw [HX1.out.1]; kernel_rfl) (by rw [HX1.out.1]; rfl) HX1.out.2 ?_) | fail)
  refine wp_region_lit ?_
  refine wpList_load_row rfl 45 _ rfl w5.heap.size rfl 45 _ _ _ (((HF7.out _).2.1.block _ lx).trans gx) Try.underlying45 rfl (by rw [HX0.out.1]; kernel_rfl) ?_
  refine wpList_load_row rfl 45 _ rfl w7.heap.size rfl 45 _ _ _ (HF7.out _).1 Try.underlying45 rfl (by rw [HX1.out.1]; kernel_rfl) ?_
  go_wp2_with fail
  refine (eqTables_any _ _ z0 z1 _ (x0.below (HF7.out _).2.1) (x1.below (HF7.out _).2.1) hl0 hl1 r hr).mono ?_
  rintro e w9 ⟨rfl, bw9⟩
  have ly : w7.heap.size < w9.heap.size := Nat.lt_of_lt_of_le (HF7.out _).2.2 bw9.size
  have gy : w9.heap[w7.heap.size]? = some (.cells X1 45 (0, 0)) := (bw9.block _ (HF7.out _).2.2).trans (HF7.out _).1
  have by9 : Below w7.heap.size w7 w9 := (HF7.out _).2.1.trans (bw9.mono (HF7.out _).2.1.size)
  clear bw9 HF7
  replace x0 := x0.below by9
  replace x1 := x1.below by9
  replace ga := (by9.block _ la).trans ga
  replace la := Nat.lt_of_lt_of_le la by9.size
  replace gb := (by9.block _ lb).trans gb
  replace lb := Nat.lt_of_lt_of_le lb by9.size
  replace gx := (by9.block _ lx).trans gx
  replace lx := Nat.lt_of_lt_of_le lx by9.size
  replace B := B.trans (by9.mono B.size)
  clear by9
  clear hr
  have HB35 := Lib.hid B
  have HE35 := Lib.hid (fun wx (hb : Below w9.heap.size w9 wx) => x0.below hb)
  have HG35 : Hid (∀ wx, Below w9.heap.size w9 wx → wx.heap[w.heap.size]? = some (.cells A0 41 (0, 0)) ∧ wx.heap[w5.heap.size]? = some (.cells X0 45 (0, 0))) := Lib.hid (fun wx hb => ⟨(hb.block _ la).trans ga, (hb.block _ lx).trans gx⟩)
  go_upto_region 14 with fail
  refine wp_region_held_drew (S := fun w' => w'.heap[w.heap.size]? = some (.cells A0 41 (0, 0)) ∧ w'.heap[w5.heap.size]? = some (.cells X0 45 (0, 0))) (by kernel_rfl) ⟨ga, gx⟩ (fun hHeld => ?_)
  refine wpAnyH_take (i := 0) (oi := { dst := some 35, op := Go.Op.load 45 (Go.Operand.tmp 7), type := 45, pos := "exact.go:6490", after := #[], guard := none }) (v := .agg X0) rfl (by kernel_rfl) (by kernel_rfl) (by kernel_rfl) (fun _ _ _ h => h) (yieldsT (by rfl) 45 _ rfl w5.heap.size rfl X0 45 _ (fun wq hSw => hSw.2) Try.underlying45 rfl (by rw [HX0.out.1]; kernel_rfl)) hHeld ?_
  (try simp only [Act.put, List.setIfInBounds_toArray, List.set_cons_zero, List.set_cons_succ])
  refine wpAnyH_take (i := 1) (oi := { dst := some 36, op := Go.Op.load 41 (Go.Operand.tmp 2), type := 41, pos := "exact.go:6490", after := #[], guard := none }) (v := .agg A0) rfl (by kernel_rfl) (by kernel_rfl) (by kernel_rfl) (fun _ _ _ h => h) (yieldsT (by rfl) 41 _ rfl w.heap.size rfl A0 41 _ (fun wq hSw => hSw.1) Try.underlying41 rfl (by rw [HA0.out.1]; kernel_rfl)) hHeld ?_
  (try simp only [Act.put, List.setIfInBounds_toArray, List.set_cons_zero, List.set_cons_succ])
  refine wpAnyH_ready (rs := [2]) (by kernel_rfl) (by simp) ?_
  refine AllReadyH.cons (o := { dst := some 37, op := Go.Op.call { callee := Go.Callee.value (Go.Operand.func 25), args := #[Go.Operand.tmp 36], argTypes := #[41] }, type := 45, pos := "exact.go:6490", after := #[{ on := 1, ground := Go.Ground.data }], guard := none }) rfl (fun K hK => ?_) AllReadyH.nil
  go_simp
  refine (HTa.out _ HB35.out.drew).mono ?_
  rintro e wy35 ⟨yv35, rfl, hy35, By⟩
  go_wp2_with fail
  refine hK.out _ _ (HG35.out wy35 ((Below.refl _ _).drew.trans By)) (fun hHeld => ?_)
  clear hK K
  (try simp only [Act.put, List.setIfInBounds_toArray, List.set_cons_zero, List.set_cons_succ])
  refine wpAnyH_ready (rs := [3]) (by kernel_rfl) (by simp) ?_
  refine AllReadyH.cons (o := { dst := some 38, op := Go.Op.call { callee := Go.Callee.value (Go.Operand.func 27), args := #[Go.Operand.tmp 35, Go.Operand.tmp 37], argTypes := #[45, 45] }, type := 4, pos := "exact.go:6490", after := #[{ on := 0, ground := Go.Ground.data }, { on := 2, ground := Go.Ground.data }, { on := 2, ground := Go.Ground.chain }], guard := none }) rfl (fun K hK => ?_) AllReadyH.nil
  go_simp
  refine (eqTable_t _ _ z0 _ (HE35.out _ ((Below.refl _ _).drew.trans By)) hy35 hl0).mono ?_
  rintro e wz1 ⟨rfl, Bz⟩
  go_wp2_with fail
  have By7 : Below w9.heap.size w9 wy35 := (Below.refl _ _).drew.trans By
  have Bz7 : Below w9.heap.size w9 wz1 := By7.trans (Bz.mono By7.size)
  refine hK.out _ _ (HG35.out wz1 Bz7) (fun hHeld => ?_)
  clear hK K
  (try simp only [Act.put, List.setIfInBounds_toArray, List.set_cons_zero, List.set_cons_succ])
  refine wpAnyH_take (i := 4) (oi := { dst := some 39, op := Go.Op.unOp Go.UnOp.not 4 (Go.Operand.tmp 38), type := 4, pos := "exact.go:6490", after := #[{ on := 3, ground := Go.Ground.data }], guard := none }) (v := .bool false) rfl (by kernel_rfl) (by kernel_rfl) (by kernel_rfl) (fun _ _ _ h => h) (Or.inl ⟨by rfl, ?_⟩) hHeld ?_
  · intro wq hSw; go_simp
  (try simp only [Act.put, List.setIfInBounds_toArray, List.set_cons_zero, List.set_cons_succ])
  refine wpAnyH_done (by kernel_rfl) ?_ _
  replace B := HB35.out.trans (Bz7.mono HB35.out.size)
  replace x1 := x1.below Bz7
  replace ga := (Bz7.block _ la).trans ga
  replace la := Nat.lt_of_lt_of_le la Bz7.size
  replace gb := (Bz7.block _ lb).trans gb
  replace lb := Nat.lt_of_lt_of_le lb Bz7.size
  replace gy := (Bz7.block _ ly).trans gy
  replace ly := Nat.lt_of_lt_of_le ly Bz7.size
  clear Bz7 By7 Bz By hHeld HB35 HE35 HG35 hy35 x0 gx lx
  have HB40 := Lib.hid B
  have HE40 := Lib.hid (fun wx (hb : Below wz1.heap.size wz1 wx) => x1.below hb)
  have HG40 : Hid (∀ wx, Below wz1.heap.size wz1 wx → wx.heap[(w.heap.size + 1)]? = some (.cells A1 41 (0, 0)) ∧ wx.heap[w7.heap.size]? = some (.cells X1 45 (0, 0))) := Lib.hid (fun wx hb => ⟨(hb.block _ lb).trans gb, (hb.block _ ly).trans gy⟩)
  go_upto_region 16 with fail
  refine wp_region_held_drew (S := fun w' => w'.heap[(w.heap.size + 1)]? = some (.cells A1 41 (0, 0)) ∧ w'.heap[w7.heap.size]? = some (.cells X1 45 (0, 0))) (by kernel_rfl) ⟨gb, gy⟩ (fun hHeld => ?_)
  refine wpAnyH_take (i := 0) (oi := { dst := some 40, op := Go.Op.load 45 (Go.Operand.tmp 8), type := 45, pos := "exact.go:6493", after := #[], guard := none }) (v := .agg X1) rfl (by kernel_rfl) (by kernel_rfl) (by kernel_rfl) (fun _ _ _ h => h) (yieldsT (by rfl) 45 _ rfl w7.heap.size rfl X1 45 _ (fun wq hSw => hSw.2) Try.underlying45 rfl (by rw [HX1.out.1]; kernel_rfl)) hHeld ?_
  (try simp only [Act.put, List.setIfInBounds_toArray, List.set_cons_zero, List.set_cons_succ])
  refine wpAnyH_take (i := 1) (oi := { dst := some 41, op := Go.Op.load 41 (Go.Operand.tmp 3), type := 41, pos := "exact.go:6493", after := #[], guard := none }) (v := .agg A1) rfl (by kernel_rfl) (by kernel_rfl) (by kernel_rfl) (fun _ _ _ h => h) (yieldsT (by rfl) 41 _ rfl (w.heap.size + 1) rfl A1 41 _ (fun wq hSw => hSw.1) Try.underlying41 rfl (by rw [HA1.out.1]; kernel_rfl)) hHeld ?_
  (try simp only [Act.put, List.setIfInBounds_toArray, List.set_cons_zero, List.set_cons_succ])
  refine wpAnyH_ready (rs := [2]) (by kernel_rfl) (by simp) ?_
  refine AllReadyH.cons (o := { dst := some 42, op := Go.Op.call { callee := Go.Callee.value (Go.Operand.func 25), args := #[Go.Operand.tmp 41], argTypes := #[41] }, type := 45, pos := "exact.go:6493", after := #[{ on := 1, ground := Go.Ground.data }], guard := none }) rfl (fun K hK => ?_) AllReadyH.nil
  go_simp
  refine (HTb.out _ HB40.out.drew).mono ?_
  rintro e wy40 ⟨yv40, rfl, hy40, By⟩
  go_wp2_with fail
  refine hK.out _ _ (HG40.out wy40 ((Below.refl _ _).drew.trans By)) (fun hHeld => ?_)
  clear hK K
  (try simp only [Act.put, List.setIfInBounds_toArray, List.set_cons_zero, List.set_cons_succ])
  refine wpAnyH_ready (rs := [3]) (by kernel_rfl) (by simp) ?_
  refine AllReadyH.cons (o := { dst := some 43, op := Go.Op.call { callee := Go.Callee.value (Go.Operand.func 27), args := #[Go.Operand.tmp 40, Go.Operand.tmp 42], argTypes := #[45, 45] }, type := 4, pos := "exact.go:6493", after := #[{ on := 0, ground := Go.Ground.data }, { on := 2, ground := Go.Ground.data }, { on := 2, ground := Go.Ground.chain }], guard := none }) rfl (fun K hK => ?_) AllReadyH.nil
  go_simp
  refine (eqTable_t _ _ z1 _ (HE40.out _ ((Below.refl _ _).drew.trans By)) hy40 hl1).mono ?_
  rintro e wz2 ⟨rfl, Bz⟩
  go_wp2_with fail
  have By7 : Below wz1.heap.size wz1 wy40 := (Below.refl _ _).drew.trans By
  have Bz7 : Below wz1.heap.size wz1 wz2 := By7.trans (Bz.mono By7.size)
  refine hK.out _ _ (HG40.out wz2 Bz7) (fun hHeld => ?_)
  clear hK K
  (try simp only [Act.put, List.setIfInBounds_toArray, List.set_cons_zero, List.set_cons_succ])
  refine wpAnyH_take (i := 4) (oi := { dst := some 44, op := Go.Op.unOp Go.UnOp.not 4 (Go.Operand.tmp 43), type := 4, pos := "exact.go:6493", after := #[{ on := 3, ground := Go.Ground.data }], guard := none }) (v := .bool false) rfl (by kernel_rfl) (by kernel_rfl) (by kernel_rfl) (fun _ _ _ h => h) (Or.inl ⟨by rfl, ?_⟩) hHeld ?_
  · intro wq hSw; go_simp
  (try simp only [Act.put, List.setIfInBounds_toArray, List.set_cons_zero, List.set_cons_succ])
  refine wpAnyH_done (by kernel_rfl) ?_ _
  replace B := HB40.out.trans (Bz7.mono HB40.out.size)
  clear hy40
  go_wp2_with fail
  go_ret
  exact ⟨rfl, B⟩
end Go.Proofs.Ythmbfkgahkihfaa
