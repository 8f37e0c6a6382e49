/-
  Unseen, both sides.
-/
import Derived.Test.YtepjijmgfdgfhaaDoorMiss
import Derived.Test.YtepjijmgfdgfhaaDoorCatAll
import Derived.Test.YtepjijmgfdgfhaaDoorNSight
import Derived.Deep.RegionHeld3
namespace Go.Proofs.YtepjijmgfdgfhaaDoor
open Go.RowKit
set_option linter.unusedVariables false
set_option linter.unusedSimpArgs false

theorem ofOwnU {w : World} {B : Nat} {v : Value} {zs : List Int} {n : Nat} (h : w.ownsRow B 3 1 v n (zs.map (Value.int .i64))) (hn : n = zs.length) (hw : ∀ x ∈ zs, (Lit.int .i64 x).wf = true) : ∃ b, B ≤ b ∧ RdAt .i64 w v zs b := by
  subst hn
  obtain ⟨b, hb, hr⟩ := own_wr h hw
  exact ⟨b, hb, hr.rd⟩
theorem rows_threeU {w : World} {g : Nat} {v0 v1 v2 : Value} {z0 z1 z2 : List Int} {b0 b1 b2 : Nat} {t : TypeId} (hg : w.heap[g]? = some (.cells #[v0, v1, v2] t (0, 0))) (h0 : RdAt .i64 w v0 z0 b0) (h1 : RdAt .i64 w v1 z1 b1) (h2 : RdAt .i64 w v2 z2 b2) :
    RdRows .i64 w (.slice (some ⟨g, 0, none⟩) 3 3) [z0, z1, z2] := by
  refine ⟨_, 3, rfl, ⟨Nat.le_refl _, by unfold maxLen; decide, fun e => by cases e⟩, .inr ⟨g, 0, rfl, fun j hj => ?_⟩⟩
  have hc : ∀ i, w.cell? ⟨g, i, none⟩ = #[v0, v1, v2][i]? := fun i => by simp [World.cell?, hg]
  match j, hj with
  | 0, _ => exact ⟨v0, b0, by rw [hc]; rfl, h0⟩
  | 1, _ => exact ⟨v1, b1, by rw [hc]; rfl, h1⟩
  | 2, _ => exact ⟨v2, b2, by rw [hc]; rfl, h2⟩
theorem step_append_runU {P : Program} {ops : Array Oper} {o : Oper} {a : Act} {w : World} {K : Act → World → Prop} {Q : Exit → Act → World → Prop} {E : Prop} (hg : o.guard = none) (s x : Operand) (t tn : TypeId)
    (ho : o.op = .call { callee := .builtin .append, args := #[s, x], argTypes := #[t, tn] }) (vs vx : Value) (hs : a.eval s = vs) (hx : a.eval x = vx)
    (v' : Value) (w' : World) (hr : (Builtin.append_ #[t, tn] o.type #[vs, vx]).run P w = .ok v' w') (h : K (a.put o.dst v') w') : if Region.wanted o (yielded ops a.tmps) = true then Oper.wp P o a w K Q else E := by
  have hw : Region.wanted o (yielded ops a.tmps) = true := by simp [Region.wanted, hg]
  rw [if_pos hw]
  exact Lib.wp_append_run w s x t tn ho vs vx hs hx v' w' hr h
def unseenL (D : MSight) (zg : List Int) : List Int := [D.hand, D.trick, zg].flatten
theorem unseen_eq (D : MSight) (zg : List Int) : D.hand ++ D.trick ++ zg = unseenL D zg := by simp [unseenL]
set_option maxRecDepth 100000 in
set_option maxHeartbeats 1000000 in
theorem unseen_any (v vg : Value) (D : MSight) (zg : List Int) (bg : Nat) (w : World) (h : RdSight w v D) (hf : D.Few) (hg : RdAt .i64 w vg zg bg) (hlg : zg.length ≤ 1048576) (hT : TabZ w) :
    Calls Tryd.prog 15 #[v, vg] w fun e w' => ∃ v' b', e = .returned v' ∧ w.heap.size ≤ b' ∧ WrAt .i64 w' v' (missing (unseenL D zg)) b' ∧ Below w.heap.size w w' := by
  obtain ⟨v1, v2, v5, v6, b1, b2, b5, b6, rfl, h1, h2, h5, h6, -, -, -⟩ := h
  obtain ⟨f1, f2, f5, f6⟩ := hf
  obtain ⟨p1, c1, e1, -⟩ := id h1
  obtain ⟨p2, c2, e2, -⟩ := id h2
  obtain ⟨p5, c5, e5, -⟩ := id h5
  obtain ⟨p6, c6, e6, -⟩ := id h6
  obtain ⟨pg, cg, eg, -⟩ := id hg
  subst e1 e2 e5 e6 eg
  have wf1 := h1.wf
  have wf2 := h2.wf
  have wfg := hg.wf
  obtain ⟨W0, hW0⟩ : ∃ W0, W0 = w.alloc (.cells #[.int .i64 D.me, .slice p1 D.hand.length c1, .slice p2 D.trick.length c2, .int .i64 D.leader, .int .i64 D.trump, .slice p5 D.sizes.length c5, .slice p6 D.won.length c6] 31) := ⟨_, rfl⟩
  have B0 : Below w.heap.size w W0 := by rw [hW0]; exact (Below.refl _ _).alloc (Nat.le_refl _) _
  obtain ⟨W1, hW1⟩ : ∃ W1, W1 = W0.alloc (.cells #[.slice p1 D.hand.length c1, .slice p2 D.trick.length c2, .slice pg zg.length cg] 22) := ⟨_, rfl⟩
  have B1 : Below w.heap.size w W1 := by rw [hW1]; exact B0.alloc B0.size _
  have g1 : W1.heap[W0.heap.size]? = some (.cells #[.slice p1 D.hand.length c1, .slice p2 D.trick.length c2, .slice pg zg.length cg] 22 (0, 0)) := by rw [hW1]; exact heap_alloc_new _ _
  have hrows := rows_threeU g1 (h1.below B1) (h2.below B1) (hg.below B1)
  have hC := catAll_any _ _ W1 hrows (by simp) (by simp [sumLen]; omega)
  have hlen : (unseenL D zg).length = sumLen [D.hand, D.trick, zg] := by unfold unseenL; rw [flat_len]
  have hwfU : ∀ x ∈ unseenL D zg, (Lit.int .i64 x).wf = true := by
    intro x hx
    rw [← unseen_eq] at hx
    rcases List.mem_append.1 hx with hx | hx
    · rcases List.mem_append.1 hx with hx | hx
      · exact wf1 x hx
      · exact wf2 x hx
    · exact wfg x hx
  have hlb : (unseenL D zg).length ≤ 1099511627776 := by rw [hlen]; simp [sumLen]; omega
  have hs0 : W0.heap.size = w.heap.size + 1 := by rw [hW0]; simp
  rw [hs0] at hC
  clear hs0
  have HC := Lib.hid hC
  have HM := Lib.hid (fun (wx : World) (v : Value) (b : Nat) (hb : Below w.heap.size w wx) (hr : RdAt .i64 wx v (unseenL D zg) b) => missing_any v _ b wx hr hlb (hT.below hb))
  have HO := Lib.hid (fun (wx : World) (v : Value) (n : Nat) (ho : wx.ownsRow W1.heap.size 3 1 v n ((unseenL D zg).map (Value.int .i64))) (hn : n = sumLen [D.hand, D.trick, zg]) => ofOwnU ho (by rw [hn, hlen]) hwfU)
  have HW0 := Lib.hid hW0
  have HW1 := Lib.hid hW1
  have HB1 := Lib.hid B1
  clear hW0 hW1 h1 h2 h5 h6 hg hT f1 f2 f5 f6 wf1 wf2 wfg hC hlen hwfU hlb hrows g1 B0 B1
  go_enter Tryd.func15, Tryd.ntmps15
  go_wp2_with fail
  rw [← HW0.out, ← HW1.out]
  refine HC.out.mono ?_
  rintro e w2 ⟨v2, rfl, hown, B2⟩
  obtain ⟨b2, -, hr2⟩ := HO.out w2 _ _ hown rfl
  have B12 := HB1.out.trans (B2.mono HB1.out.size)
  have HM2 := Lib.hid (HM.out w2 _ b2 B12 hr2)
  have HB12 := Lib.hid B12
  clear hown hr2
  go_wp2_with fail
  refine HM2.out.mono ?_
  rintro e w3 ⟨v3, b3, rfl, hb3, hw3, B3⟩
  have B4 := HB12.out.trans (B3.mono HB12.out.size)
  have hsz := HB12.out.size
  have HW3 := Lib.hid hw3
  clear hw3
  go_wp2_with fail
  go_ret
  exact ⟨_, b3, rfl, by omega, HW3.out, B4⟩
set_option maxRecDepth 100000 in
set_option maxHeartbeats 1000000 in
theorem sUnseen_any (v vg : Value) (D : MSight) (zg : List Int) (bg : Nat) (w : World) (h : RdSight w v D) (hf : D.Few) (hg : RdAt .i64 w vg zg bg) (hlg : zg.length ≤ 1048576) :
    Calls Tryd.prog 13 #[v, vg] w fun e w' => ∃ v' b', e = .returned v' ∧ w.heap.size ≤ b' ∧ WrAt .i64 w' v' (missing (unseenL D zg)) b' ∧ Below w.heap.size w w' := by
  obtain ⟨i0, hi, hz0, hz1, hz2⟩ := info_parts info_i64
  obtain ⟨v1, v2, v5, v6, b1, b2, b5, b6, rfl, h1, h2, h5, h6, -, -, -⟩ := h
  obtain ⟨f1, f2, f5, f6⟩ := hf
  obtain ⟨p1, c1, e1, -⟩ := id h1
  obtain ⟨p2, c2, e2, -⟩ := id h2
  obtain ⟨p5, c5, e5, -⟩ := id h5
  obtain ⟨p6, c6, e6, -⟩ := id h6
  obtain ⟨pg, cg, eg, -⟩ := id hg
  subst e1 e2 e5 e6 eg
  have wf1 := h1.wf
  have wf2 := h2.wf
  have wfg := hg.wf
  obtain ⟨W0, hW0⟩ : ∃ W0, W0 = w.alloc (.cells #[.int .i64 D.me, .slice p1 D.hand.length c1, .slice p2 D.trick.length c2, .int .i64 D.leader, .int .i64 D.trump, .slice p5 D.sizes.length c5, .slice p6 D.won.length c6] 31) := ⟨_, rfl⟩
  have B0 : Below w.heap.size w W0 := by rw [hW0]; exact (Below.refl _ _).alloc (Nat.le_refl _) _
  have G0 : W0.heap[w.heap.size]? = some (.cells #[.int .i64 D.me, .slice p1 D.hand.length c1, .slice p2 D.trick.length c2, .int .i64 D.leader, .int .i64 D.trump, .slice p5 D.sizes.length c5, .slice p6 D.won.length c6] 31 (0, 0)) := by rw [hW0]; exact heap_alloc_new _ _
  have l0 : w.heap.size < W0.heap.size := by rw [hW0]; simp
  have hown0 := World.ownsRow_lit (base := W0.heap.size) (e := 3) (size := 1) W0.drew #[] 0 (Nat.le_refl _) (Nat.zero_le _) rfl
  have b0 : Below W0.heap.size W0 (W0.drew.alloc (.cells #[] 3)) := ((Below.refl _ _).drew).alloc (Nat.le_refl _) _
  obtain ⟨v2, w2, hr2, hown2, hgr2⟩ := run_append_vals (W0.drew.alloc (.cells #[] 3)) W0.heap.size 22 22 3 i0 (.int .i64 0) 8 Tryd.underlying22 hi hz0 hz1 hz2 rfl _ 0 [] hown0 _ _ (h1.below (B0.trans (b0.mono B0.size))).vals int_one (by rw [List.length_map]; unfold maxLen; omega) (by rw [List.length_map]; omega) b0.size
  have bb2 := b0.grown hgr2 b0.size (own_block hown0)
  rw [List.length_map, Nat.zero_add, List.nil_append] at hown2
  obtain ⟨pa, ca, ea⟩ := own_shape hown2
  subst ea
  obtain ⟨v3, w3, hr3, hown3, hgr3⟩ := run_append_vals w2 W0.heap.size 22 22 3 i0 (.int .i64 0) 8 Tryd.underlying22 hi hz0 hz1 hz2 rfl _ _ _ hown2 _ _ (h2.below (B0.trans (bb2.mono B0.size))).vals int_one (by rw [List.length_map]; unfold maxLen; omega) (by rw [List.length_map]; omega) bb2.size
  have bb3 := bb2.grown hgr3 bb2.size (own_block hown2)
  rw [List.length_map, ← List.map_append] at hown3
  obtain ⟨pb, cb, eb⟩ := own_shape hown3
  subst eb
  obtain ⟨v4, w4, hr4, hown4, hgr4⟩ := run_append_vals w3 W0.heap.size 22 22 3 i0 (.int .i64 0) 8 Tryd.underlying22 hi hz0 hz1 hz2 rfl _ _ _ hown3 _ _ (hg.below (B0.trans (bb3.mono B0.size))).vals int_one (by rw [List.length_map]; unfold maxLen; omega) (by rw [List.length_map]; omega) bb3.size
  have bb4 := bb3.grown hgr4 bb3.size (own_block hown3)
  rw [List.length_map, ← List.map_append, unseen_eq] at hown4
  obtain ⟨pc, cc, ec⟩ := own_shape hown4
  subst ec
  have hlen : (unseenL D zg).length = D.hand.length + D.trick.length + zg.length := by rw [← unseen_eq]; simp only [List.length_append]
  have hwfU : ∀ x ∈ unseenL D zg, (Lit.int .i64 x).wf = true := by
    intro x hx
    rw [← unseen_eq] at hx
    rcases List.mem_append.1 hx with hx | hx
    · rcases List.mem_append.1 hx with hx | hx
      · exact wf1 x hx
      · exact wf2 x hx
    · exact wfg x hx
  obtain ⟨b4, -, hrd4⟩ := ofOwnU hown4 hlen.symm hwfU
  have HMs := Lib.hid (sMissing2_any _ _ b4 w4 hrd4 (by rw [hlen]; omega))
  have Q2 := Lib.hid hr2
  have Q3 := Lib.hid hr3
  have Q4 := Lib.hid hr4
  have HB4 := Lib.hid (B0.trans (bb4.mono B0.size))
  have HBs := Lib.hid bb4
  have HG : Hid (∀ wx, Below W0.heap.size W0 wx → wx.cell? ⟨w.heap.size, 1, none⟩ = some (.slice p1 D.hand.length c1) ∧ wx.cell? ⟨w.heap.size, 2, none⟩ = some (.slice p2 D.trick.length c2)) := Lib.hid (fun wx hx => by
    have G := (hx.block _ l0).trans G0
    refine ⟨?_, ?_⟩ <;> rw [box_cell G] <;> rfl)
  obtain ⟨k1, k2⟩ := HG.out W0 (Below.refl _ _)
  have HX := Lib.hid (And.intro (HG.out w2 bb2) (And.intro (HG.out w3 bb3) (HG.out w4 bb4)))
  have HW0 := Lib.hid hW0
  clear hW0 h1 h2 h5 h6 hg f5 f6 wf1 wf2 wfg hown0 hr2 hown2 hgr2 hr3 hown3 hgr3 hr4 hown4 hgr4 b0 bb2 bb3 bb4 hwfU hrd4 hlen hi hz0 hz1 hz2 G0 f1 f2 hlg
  generalize D.hand.length + D.trick.length + zg.length = m3 at *
  generalize D.hand.length + D.trick.length = m2 at *
  generalize D.hand.length = n1 at *
  generalize D.trick.length = n2 at *
  generalize zg.length = n3 at *
  go_enter Tryd.func13, Tryd.ntmps13
  go_wp2_with fail
  rw [← HW0.out]
  go_region_held3 (fun w' => w'.cell? ⟨w.heap.size, 1, none⟩ = some (.slice p1 n1 c1) ∧ w'.cell? ⟨w.heap.size, 2, none⟩ = some (.slice p2 n2 c2)) (go_keep) (first
    | (refine step_append_runU rfl (.tmp 5) (.tmp 7) 22 22 rfl _ _ rfl rfl _ _ Q2.out ?_; obtain ⟨⟨x1, x2⟩, -⟩ := HX.out)
    | (refine step_append_runU rfl (.tmp 8) (.tmp 10) 22 22 rfl _ _ rfl rfl _ _ Q3.out ?_; obtain ⟨-, ⟨y1, y2⟩, -⟩ := HX.out)
    | (refine step_append_runU rfl (.tmp 11) (.tmp 12) 22 22 rfl _ _ rfl rfl _ _ Q4.out ?_; obtain ⟨-, -, ⟨z1, z2⟩⟩ := HX.out)
    | (go_at_call 6; (with_reducible refine HMs.out.mono ?_); rintro e w5 ⟨v5, b5, rfl, hb5, hw5, B5⟩; obtain ⟨u1, u2⟩ := HG.out w5 (HBs.out.trans (B5.mono HBs.out.size))))
  all_goals
    have B6 := HB4.out.trans (B5.mono HB4.out.size)
    have hsz := HB4.out.size
    have HW5 := Lib.hid hw5
    clear hw5 k1 k2 x1 x2 y1 y2 z1 z2 u1 u2 HX
    go_wp2_with fail
    go_ret
    exact ⟨_, b5, rfl, by omega, HW5.out, B6⟩
end Go.Proofs.YtepjijmgfdgfhaaDoor
