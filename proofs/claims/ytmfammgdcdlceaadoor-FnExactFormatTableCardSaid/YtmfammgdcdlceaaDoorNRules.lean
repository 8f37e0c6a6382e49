/-
  The struct Rules: what can be read of it, what may be written and in which blocks; the laws' helpers over it.
-/
import Derived.Test.YtmfammgdcdlceaaDoorFr
import Derived.Test.YtmfammgdcdlceaaDoorSetR
import Derived.Test.YtmfammgdcdlceaaDoorSRules
import Derived.Deep.Cut
namespace Go.Proofs.YtmfammgdcdlceaaDoor
open Go.RowKit
set_option linter.unusedVariables false
set_option linter.unusedSimpArgs false

/-- .. and its lists may be written, each in blocks of its own out of S. -/
def WrRules (S : Nat → Prop) (w : World) (v : Value) (D : MRules) : Prop :=
  ∃ (p4 p5 : Option Addr) (c4 c5 : Nat) (S4 S5 : Nat → Prop), v = .agg #[.int .i64 D.players, .int .i64 D.each, .bool D.sameSuit, .bool D.sameRank, .slice p4 D.wild.length c4, .slice p5 D.skip.length c5, .int .i64 D.take, .int .i64 D.limit] ∧ WrIn .i64 S4 w (.slice p4 D.wild.length c4) D.wild ∧ WrIn .i64 S5 w (.slice p5 D.skip.length c5) D.skip ∧ (∀ b, S4 b → S b) ∧ (∀ b, S5 b → S b) ∧ (∀ b, S4 b → ¬ S5 b) ∧ (Lit.int .i64 D.players).wf = true ∧ (Lit.int .i64 D.each).wf = true ∧ (Lit.int .i64 D.take).wf = true ∧ (Lit.int .i64 D.limit).wf = true
theorem WrRules.rd {S : Nat → Prop} {w : World} {v : Value} {D : MRules} (h : WrRules S w v D) : RdRules w v D := by
  obtain ⟨p4, p5, c4, c5, S4, S5, e, h4, h5, s4, s5, d0_1, wf0, wf1, wf2, wf3⟩ := h
  obtain ⟨b4, r4⟩ := h4.rd
  obtain ⟨b5, r5⟩ := h5.rd
  exact ⟨_, _, b4, b5, e, r4, r5, wf0, wf1, wf2, wf3⟩
theorem WrRules.touch {S U : Nat → Prop} {w w' : World} {v : Value} {D : MRules} (h : WrRules S w v D) (t : Touch U w w') (hd : ∀ b, S b → ¬ U b) : WrRules S w' v D := by
  obtain ⟨p4, p5, c4, c5, S4, S5, e, h4, h5, s4, s5, d0_1, wf0, wf1, wf2, wf3⟩ := h
  exact ⟨p4, p5, c4, c5, S4, S5, e, h4.touch t (fun b hb => hd b (s4 b hb)), h5.touch t (fun b hb => hd b (s5 b hb)), s4, s5, d0_1, wf0, wf1, wf2, wf3⟩
theorem WrRules.below {S : Nat → Prop} {w w' : World} {v : Value} {D : MRules} (h : WrRules S w v D) (b : Below w.heap.size w w') : WrRules S w' v D := h.touch (Below.touch (S := fun _ => False) b) (fun _ _ hx => hx)
theorem WrRules.mono {S U : Nat → Prop} {w : World} {v : Value} {D : MRules} (h : WrRules S w v D) (hs : ∀ b, S b → U b) : WrRules U w v D := by
  obtain ⟨p4, p5, c4, c5, S4, S5, e, h4, h5, s4, s5, d0_1, wf0, wf1, wf2, wf3⟩ := h
  exact ⟨p4, p5, c4, c5, S4, S5, e, h4, h5, fun b hb => hs b (s4 b hb), fun b hb => hs b (s5 b hb), d0_1, wf0, wf1, wf2, wf3⟩
theorem WrRules.shape {S : Nat → Prop} {w : World} {v : Value} {D : MRules} (h : WrRules S w v D) : ∃ (p4 p5 : Option Addr) (c4 c5 : Nat), v = .agg #[.int .i64 D.players, .int .i64 D.each, .bool D.sameSuit, .bool D.sameRank, .slice p4 D.wild.length c4, .slice p5 D.skip.length c5, .int .i64 D.take, .int .i64 D.limit] := by
  obtain ⟨p4, p5, c4, c5, S4, S5, e, h4, h5, s4, s5, d0_1, wf0, wf1, wf2, wf3⟩ := h
  exact ⟨p4, p5, c4, c5, e⟩

set_option maxRecDepth 100000 in
set_option maxHeartbeats 1000000 in
theorem toRules_w (v : Value) (D : MRules) (w : World) (h : RdRules w v D) (hf : D.Few) :
    Calls Tryd.prog 53 #[v] w fun e w' => ∃ v', e = .returned v' ∧ WrRules (In w.heap.size w'.heap.size) w' v' D ∧ Below w.heap.size w w' := by
  obtain ⟨v4, v5, b4, b5, rfl, h4, h5, wf0, wf1, wf2, wf3⟩ := h
  obtain ⟨p4, c4, e4, -⟩ := id h4
  subst e4
  obtain ⟨p5, c5, e5, -⟩ := id h5
  subst e5
  obtain ⟨f4, f5⟩ := hf
  have Q := Lib.hid (threeBoxes w (.cells #[.int .i64 D.players, .int .i64 D.each, .bool D.sameSuit, .bool D.sameRank, .slice p4 D.wild.length c4, .slice p5 D.skip.length c5, .int .i64 D.take, .int .i64 D.limit] 40) (.cells #[.int .i64 0, .int .i64 0, .bool false, .bool false, .slice none 0 0, .slice none 0 0, .int .i64 0, .int .i64 0] 45) (.cells #[.int .i64 D.players, .int .i64 D.each, .bool D.sameSuit, .bool D.sameRank, .slice none 0 0, .slice none 0 0, .int .i64 0, .int .i64 0] 45))
  obtain ⟨W0, hW0⟩ : ∃ W0, W0 = (((w.alloc (.cells #[.int .i64 D.players, .int .i64 D.each, .bool D.sameSuit, .bool D.sameRank, .slice p4 D.wild.length c4, .slice p5 D.skip.length c5, .int .i64 D.take, .int .i64 D.limit] 40)).alloc (.cells #[.int .i64 0, .int .i64 0, .bool false, .bool false, .slice none 0 0, .slice none 0 0, .int .i64 0, .int .i64 0] 45)).alloc (.cells #[.int .i64 D.players, .int .i64 D.each, .bool D.sameSuit, .bool D.sameRank, .slice none 0 0, .slice none 0 0, .int .i64 0, .int .i64 0] 45)) := ⟨_, rfl⟩
  have B : Below w.heap.size w W0 := by rw [hW0]; exact (((Below.refl _ _).alloc (Nat.le_refl _) _).alloc (by simp) _).alloc (by simp; omega) _
  obtain ⟨bl, hbl⟩ : ∃ b, b = w.heap.size + 1 + 1 := ⟨_, rfl⟩
  obtain ⟨br, hbr⟩ : ∃ b, b = w.heap.size + 1 := ⟨_, rfl⟩
  have hS0 : bl < W0.heap.size := by rw [hW0, hbl]; simp
  rw [← hW0] at Q
  have HW := Lib.hid hW0
  clear hW0
  obtain ⟨G1, G2, G3⟩ := Q.out
  clear Q
  have e3 : w.heap.size + 2 = bl := by omega
  rw [← hbr] at G2
  rw [e3] at G3
  have hd1 : w.heap.size < br := by omega
  have hd2 : br < bl := by omega
  have Hbl := Lib.hid hbl
  have Hbr := Lib.hid hbr
  clear hbl hbr e3
  go_enter Tryd.func53, Tryd.ntmps53
  go_wp2_with fail
  rw [← HW.out, ← Hbl.out, ← Hbr.out]
  refine (toIntS_any _ _ _ W0 (h4.below B) (by omega)).mono ?_
  rintro e w4 ⟨u4, rfl, y4, bb, -⟩
  have x4 := WrIn.of (lo := W0.heap.size) y4 (Nat.le_refl _)
  clear y4
  obtain ⟨pu4, cu4, eu⟩ := x4.shape
  subst eu
  have l4 : bl < W0.heap.size := hS0
  have HQ4 : Hid (W0.heap.size ≤ w4.heap.size) := Lib.hid bb.size
  have HB4 : Hid (w.heap.size ≤ W0.heap.size) := Lib.hid B.size
  replace B := B.trans (bb.mono B.size)
  replace G1 := (bb.block _ (by omega)).trans G1
  replace G2 := (bb.block _ (by omega)).trans G2
  replace G3 := (bb.block _ (by omega)).trans G3
  replace hS0 := Nat.lt_of_lt_of_le hS0 bb.size
  clear bb
  have c1_5 := box_cell G1 5
  have c3_4 := box_cell G3 4
  have z3_4 := box_free G3 4
  simp at c1_5 c3_4
  go_wp2_with fail
  obtain ⟨X5, hX5⟩ : ∃ X, X = (w4.setCell ⟨bl, 4, none⟩ (.slice pu4 D.wild.length cu4)) := ⟨_, rfl⟩
  have N3 := (box_set G3 4 (.slice pu4 D.wild.length cu4))
  rw [← hX5] at N3
  have K5 : ∀ i, i ≠ bl → X5.heap[i]? = w4.heap[i]? := fun i hi => by rw [hX5]; rw [Below.heap_setCell _ _ _ _ hi]
  have Z5 : X5.heap.size = w4.heap.size := by rw [hX5]; simp [World.setCell]
  have NB : Below w.heap.size w X5 := by rw [hX5]; exact (B.setCell (show w.heap.size ≤ bl by omega) (.slice pu4 D.wild.length cu4))
  have b0 : Below 0 w4 X5 := by rw [hX5]; exact ((Below.refl 0 w4).setCell (Nat.zero_le _) (.slice pu4 D.wild.length cu4))
  have tX : Touch (fun k => k = bl) w4 X5 := ⟨b0.os, b0.tape, b0.output, b0.size, fun k _ hn => K5 k hn⟩
  clear b0
  replace G1 := (K5 _ (by omega)).trans G1
  replace G2 := (K5 _ (by omega)).trans G2
  replace hS0 : bl < X5.heap.size := by rw [Z5]; exact hS0
  replace x4 := x4.touch tX (fun b h1 h2 => by have := h1.1; have := l4; omega)
  have HZ5 := Lib.hid Z5
  rw [← hX5]
  clear hX5 B G3 K5 Z5 tX c1_5 c3_4 z3_4
  have G3 := N3
  have B := NB
  clear N3 NB
  simp only [List.setIfInBounds_toArray, List.set_cons_zero, List.set_cons_succ] at G3
  refine (toIntS_any _ _ _ X5 (h5.below B) (by omega)).mono ?_
  rintro e w5 ⟨u5, rfl, y5, bb, -⟩
  have x5 := WrIn.of (lo := X5.heap.size) y5 (Nat.le_refl _)
  clear y5
  obtain ⟨pu5, cu5, eu⟩ := x5.shape
  subst eu
  have l5 : bl < X5.heap.size := hS0
  have HQ5 : Hid (X5.heap.size ≤ w5.heap.size) := Lib.hid bb.size
  have HB5 : Hid (w.heap.size ≤ X5.heap.size) := Lib.hid B.size
  replace B := B.trans (bb.mono B.size)
  replace G1 := (bb.block _ (by omega)).trans G1
  replace G2 := (bb.block _ (by omega)).trans G2
  replace G3 := (bb.block _ (by omega)).trans G3
  replace hS0 := Nat.lt_of_lt_of_le hS0 bb.size
  replace x4 := x4.touch (Below.touch (S := fun _ => False) bb) (fun _ _ hx => hx)
  clear bb
  have c1_6 := box_cell G1 6
  have c1_7 := box_cell G1 7
  have c3_5 := box_cell G3 5
  have z3_5 := box_free G3 5
  have c3_6 := box_cell G3 6
  have z3_6 := box_free G3 6
  have c3_7 := box_cell G3 7
  have z3_7 := box_free G3 7
  simp at c1_6 c1_7 c3_5 c3_6 c3_7
  have G3f := (box_set (box_set (box_set G3 5 (.slice pu5 D.skip.length cu5)) 6 (.int .i64 D.take)) 7 (.int .i64 D.limit))
  simp only [List.setIfInBounds_toArray, List.set_cons_zero, List.set_cons_succ] at G3f
  have G2a : (((w5.setCell ⟨bl, 5, none⟩ (.slice pu5 D.skip.length cu5)).setCell ⟨bl, 6, none⟩ (.int .i64 D.take)).setCell ⟨bl, 7, none⟩ (.int .i64 D.limit)).heap[br]? = some (.cells #[.int .i64 0, .int .i64 0, .bool false, .bool false, .slice none 0 0, .slice none 0 0, .int .i64 0, .int .i64 0] 45 (0, 0)) := by
    rw [Below.heap_setCell _ _ _ _ (show br ≠ bl by omega), Below.heap_setCell _ _ _ _ (show br ≠ bl by omega), Below.heap_setCell _ _ _ _ (show br ≠ bl by omega)]; exact G2
  obtain ⟨X0, hX0⟩ : ∃ X, X = (((w5.setCell ⟨bl, 5, none⟩ (.slice pu5 D.skip.length cu5)).setCell ⟨bl, 6, none⟩ (.int .i64 D.take)).setCell ⟨bl, 7, none⟩ (.int .i64 D.limit)) := ⟨_, rfl⟩
  have G3x : X0.heap[bl]? = some (.cells #[.int .i64 D.players, .int .i64 D.each, .bool D.sameSuit, .bool D.sameRank, .slice pu4 D.wild.length cu4, .slice pu5 D.skip.length cu5, .int .i64 D.take, .int .i64 D.limit] 45 (0, 0)) := by rw [hX0]; exact G3f
  have G2x : X0.heap[br]? = some (.cells #[.int .i64 0, .int .i64 0, .bool false, .bool false, .slice none 0 0, .slice none 0 0, .int .i64 0, .int .i64 0] 45 (0, 0)) := by rw [hX0]; exact G2a
  have HX0 := Lib.hid hX0
  clear G3f G2a hX0
  go_upto_region 10 with fail
  rw [← HX0.out]
  clear c1_6 c1_7 c3_5 z3_5 c3_6 z3_6 c3_7 z3_7
  refine wp_region_lit ?_
  refine wpList_load_row rfl 45 _ rfl bl rfl 45 _ _ _ G3x Tryd.underlying45 rfl (by kernel_rfl) ?_
  refine wpList_store_row rfl 45 _ _ rfl br #[.int .i64 D.players, .int .i64 D.each, .bool D.sameSuit, .bool D.sameRank, .slice pu4 D.wild.length cu4, .slice pu5 D.skip.length cu5, .int .i64 D.take, .int .i64 D.limit] rfl rfl 45 _ G2x (by kernel_rfl) rfl (by simp [Value.oneCell']) ?_
  go_wp2_with fail
  obtain ⟨X, hX⟩ : ∃ X, X = (X0.setRow br #[.int .i64 D.players, .int .i64 D.each, .bool D.sameSuit, .bool D.sameRank, .slice pu4 D.wild.length cu4, .slice pu5 D.skip.length cu5, .int .i64 D.take, .int .i64 D.limit]) := ⟨_, rfl⟩
  have N2 := setRow_heap X0 br _ #[.int .i64 D.players, .int .i64 D.each, .bool D.sameSuit, .bool D.sameRank, .slice pu4 D.wild.length cu4, .slice pu5 D.skip.length cu5, .int .i64 D.take, .int .i64 D.limit] _ _ G2x
  rw [← hX] at N2
  have K : ∀ i, i ≠ bl → i ≠ br → X.heap[i]? = w5.heap[i]? := fun i hi hr => by rw [hX, HX0.out]; rw [setRow_other _ _ _ _ hr, Below.heap_setCell _ _ _ _ hi, Below.heap_setCell _ _ _ _ hi, Below.heap_setCell _ _ _ _ hi]
  have Z : X.heap.size = w5.heap.size := by rw [hX, HX0.out]; simp [World.setCell]
  have NB : Below w.heap.size w X := by rw [hX, HX0.out]; exact below_setRow (((B.setCell (show w.heap.size ≤ bl by omega) (.slice pu5 D.skip.length cu5)).setCell (show w.heap.size ≤ bl by omega) (.int .i64 D.take)).setCell (show w.heap.size ≤ bl by omega) (.int .i64 D.limit)) (by omega) _
  have b0 : Below 0 w5 X := by rw [hX, HX0.out]; exact below_setRow ((((Below.refl 0 w5).setCell (Nat.zero_le _) (.slice pu5 D.skip.length cu5)).setCell (Nat.zero_le _) (.int .i64 D.take)).setCell (Nat.zero_le _) (.int .i64 D.limit)) (Nat.zero_le _) _
  have tX : Touch (fun k => k = bl ∨ k = br) w5 X := ⟨b0.os, b0.tape, b0.output, b0.size, fun k _ hn => K k (fun e => hn (.inl e)) (fun e => hn (.inr e))⟩
  clear b0
  rw [← hX]
  replace x4 := x4.touch tX (fun b h1 h2 => by have := h1.1; have := l4; omega)
  replace x5 := x5.touch tX (fun b h1 h2 => by have := h1.1; have := l5; omega)
  have q4 := HQ4.out
  have qb4 := HB4.out
  have q5 := HQ5.out
  have qb5 := HB5.out
  have qz5 := HZ5.out
  have HWr : WrRules (In w.heap.size X.heap.size) X (.agg #[.int .i64 D.players, .int .i64 D.each, .bool D.sameSuit, .bool D.sameRank, .slice pu4 D.wild.length cu4, .slice pu5 D.skip.length cu5, .int .i64 D.take, .int .i64 D.limit]) D := ⟨pu4, pu5, cu4, cu5, (In W0.heap.size w4.heap.size), (In X5.heap.size w5.heap.size), rfl, x4, x5, (fun b hb => by obtain ⟨h1, h2⟩ := hb; constructor <;> omega), (fun b hb => by obtain ⟨h1, h2⟩ := hb; constructor <;> omega), (fun b h1 h2 => by obtain ⟨a1, a2⟩ := h1; obtain ⟨a3, a4⟩ := h2; omega), wf0, wf1, wf2, wf3⟩
  (try simp only [Exit.inBlock, Exit.then]); refine bodyPost_ret (results_cell_row rfl _ _ br _ _ _ _ rfl N2 Tryd.underlying45 rfl (by kernel_rfl)) rfl ?_
  exact ⟨_, rfl, HWr, NB⟩
def MRules.total (D : MRules) : Nat := D.wild.length + D.skip.length
def MRules.marked (D : MRules) (k : Int) : MRules := { D with wild := marksI (k) D.wild.length, skip := marksI (k + (D.wild.length : Nat)) D.skip.length }
theorem MRules.total_le {D : MRules} (hf : D.Few) : D.total ≤ 2097152 := by
  obtain ⟨f4, f5⟩ := hf
  unfold MRules.total
  omega

end Go.Proofs.YtmfammgdcdlceaaDoor
