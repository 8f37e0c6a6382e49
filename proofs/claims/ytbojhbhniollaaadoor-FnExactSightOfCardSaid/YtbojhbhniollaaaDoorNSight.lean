/-
  The struct Sight: what can be read of it, what may be written and in which blocks; the laws' helpers over it.
-/
import Derived.Test.YtbojhbhniollaaaDoorFr
import Derived.Test.YtbojhbhniollaaaDoorSetR
import Derived.Test.YtbojhbhniollaaaDoorSSight
import Derived.Deep.Cut
namespace Go.Proofs.YtbojhbhniollaaaDoor
open Go.RowKit
set_option linter.unusedVariables false
set_option linter.unusedSimpArgs false

/-- .. and its lists may be written, each in blocks of its own out of S. -/
def WrSight (S : Nat → Prop) (w : World) (v : Value) (D : MSight) : Prop :=
  ∃ (p1 p2 p5 p6 : Option Addr) (c1 c2 c5 c6 : Nat) (S1 S2 S5 S6 : Nat → Prop), v = .agg #[.int .i64 D.me, .slice p1 D.hand.length c1, .slice p2 D.trick.length c2, .int .i64 D.leader, .int .i64 D.trump, .slice p5 D.sizes.length c5, .slice p6 D.won.length c6] ∧ WrIn .i64 S1 w (.slice p1 D.hand.length c1) D.hand ∧ WrIn .i64 S2 w (.slice p2 D.trick.length c2) D.trick ∧ WrIn .i64 S5 w (.slice p5 D.sizes.length c5) D.sizes ∧ WrIn .i64 S6 w (.slice p6 D.won.length c6) D.won ∧ (∀ b, S1 b → S b) ∧ (∀ b, S2 b → S b) ∧ (∀ b, S5 b → S b) ∧ (∀ b, S6 b → S b) ∧ (∀ b, S1 b → ¬ S2 b) ∧ (∀ b, S1 b → ¬ S5 b) ∧ (∀ b, S1 b → ¬ S6 b) ∧ (∀ b, S2 b → ¬ S5 b) ∧ (∀ b, S2 b → ¬ S6 b) ∧ (∀ b, S5 b → ¬ S6 b) ∧ (Lit.int .i64 D.me).wf = true ∧ (Lit.int .i64 D.leader).wf = true ∧ (Lit.int .i64 D.trump).wf = true
theorem WrSight.rd {S : Nat → Prop} {w : World} {v : Value} {D : MSight} (h : WrSight S w v D) : RdSight w v D := by
  obtain ⟨p1, p2, p5, p6, c1, c2, c5, c6, S1, S2, S5, S6, e, h1, h2, h5, h6, s1, s2, s5, s6, d0_1, d0_2, d0_3, d1_2, d1_3, d2_3, wf0, wf1, wf2⟩ := h
  obtain ⟨b1, r1⟩ := h1.rd
  obtain ⟨b2, r2⟩ := h2.rd
  obtain ⟨b5, r5⟩ := h5.rd
  obtain ⟨b6, r6⟩ := h6.rd
  exact ⟨_, _, _, _, b1, b2, b5, b6, e, r1, r2, r5, r6, wf0, wf1, wf2⟩
theorem WrSight.touch {S U : Nat → Prop} {w w' : World} {v : Value} {D : MSight} (h : WrSight S w v D) (t : Touch U w w') (hd : ∀ b, S b → ¬ U b) : WrSight S w' v D := by
  obtain ⟨p1, p2, p5, p6, c1, c2, c5, c6, S1, S2, S5, S6, e, h1, h2, h5, h6, s1, s2, s5, s6, d0_1, d0_2, d0_3, d1_2, d1_3, d2_3, wf0, wf1, wf2⟩ := h
  exact ⟨p1, p2, p5, p6, c1, c2, c5, c6, S1, S2, S5, S6, e, h1.touch t (fun b hb => hd b (s1 b hb)), h2.touch t (fun b hb => hd b (s2 b hb)), h5.touch t (fun b hb => hd b (s5 b hb)), h6.touch t (fun b hb => hd b (s6 b hb)), s1, s2, s5, s6, d0_1, d0_2, d0_3, d1_2, d1_3, d2_3, wf0, wf1, wf2⟩
theorem WrSight.below {S : Nat → Prop} {w w' : World} {v : Value} {D : MSight} (h : WrSight S w v D) (b : Below w.heap.size w w') : WrSight S w' v D := h.touch (Below.touch (S := fun _ => False) b) (fun _ _ hx => hx)
theorem WrSight.mono {S U : Nat → Prop} {w : World} {v : Value} {D : MSight} (h : WrSight S w v D) (hs : ∀ b, S b → U b) : WrSight U w v D := by
  obtain ⟨p1, p2, p5, p6, c1, c2, c5, c6, S1, S2, S5, S6, e, h1, h2, h5, h6, s1, s2, s5, s6, d0_1, d0_2, d0_3, d1_2, d1_3, d2_3, wf0, wf1, wf2⟩ := h
  exact ⟨p1, p2, p5, p6, c1, c2, c5, c6, S1, S2, S5, S6, e, h1, h2, h5, h6, fun b hb => hs b (s1 b hb), fun b hb => hs b (s2 b hb), fun b hb => hs b (s5 b hb), fun b hb => hs b (s6 b hb), d0_1, d0_2, d0_3, d1_2, d1_3, d2_3, wf0, wf1, wf2⟩
theorem WrSight.shape {S : Nat → Prop} {w : World} {v : Value} {D : MSight} (h : WrSight S w v D) : ∃ (p1 p2 p5 p6 : Option Addr) (c1 c2 c5 c6 : Nat), v = .agg #[.int .i64 D.me, .slice p1 D.hand.length c1, .slice p2 D.trick.length c2, .int .i64 D.leader, .int .i64 D.trump, .slice p5 D.sizes.length c5, .slice p6 D.won.length c6] := by
  obtain ⟨p1, p2, p5, p6, c1, c2, c5, c6, S1, S2, S5, S6, e, h1, h2, h5, h6, s1, s2, s5, s6, d0_1, d0_2, d0_3, d1_2, d1_3, d2_3, wf0, wf1, wf2⟩ := h
  exact ⟨p1, p2, p5, p6, c1, c2, c5, c6, e⟩

set_option maxRecDepth 100000 in
set_option maxHeartbeats 1000000 in
theorem toSight_w (v : Value) (D : MSight) (w : World) (h : RdSight w v D) (hf : D.Few) :
    Calls Tryd.prog 29 #[v] w fun e w' => ∃ v', e = .returned v' ∧ WrSight (In w.heap.size w'.heap.size) w' v' D ∧ Below w.heap.size w w' := by
  obtain ⟨v1, v2, v5, v6, b1, b2, b5, b6, rfl, h1, h2, h5, h6, wf0, wf1, wf2⟩ := h
  obtain ⟨p1, c1, e1, -⟩ := id h1
  subst e1
  obtain ⟨p2, c2, e2, -⟩ := id h2
  subst e2
  obtain ⟨p5, c5, e5, -⟩ := id h5
  subst e5
  obtain ⟨p6, c6, e6, -⟩ := id h6
  subst e6
  obtain ⟨f1, f2, f5, f6⟩ := hf
  have Q := Lib.hid (threeBoxes w (.cells #[.int .i64 D.me, .slice p1 D.hand.length c1, .slice p2 D.trick.length c2, .int .i64 D.leader, .int .i64 D.trump, .slice p5 D.sizes.length c5, .slice p6 D.won.length c6] 48) (.cells #[.int .i64 0, .slice none 0 0, .slice none 0 0, .int .i64 0, .int .i64 0, .slice none 0 0, .slice none 0 0] 28) (.cells #[.int .i64 D.me, .slice none 0 0, .slice none 0 0, .int .i64 0, .int .i64 0, .slice none 0 0, .slice none 0 0] 28))
  obtain ⟨W0, hW0⟩ : ∃ W0, W0 = (((w.alloc (.cells #[.int .i64 D.me, .slice p1 D.hand.length c1, .slice p2 D.trick.length c2, .int .i64 D.leader, .int .i64 D.trump, .slice p5 D.sizes.length c5, .slice p6 D.won.length c6] 48)).alloc (.cells #[.int .i64 0, .slice none 0 0, .slice none 0 0, .int .i64 0, .int .i64 0, .slice none 0 0, .slice none 0 0] 28)).alloc (.cells #[.int .i64 D.me, .slice none 0 0, .slice none 0 0, .int .i64 0, .int .i64 0, .slice none 0 0, .slice none 0 0] 28)) := ⟨_, rfl⟩
  have B : Below w.heap.size w W0 := by rw [hW0]; exact (((Below.refl _ _).alloc (Nat.le_refl _) _).alloc (by simp) _).alloc (by simp; omega) _
  obtain ⟨bl, hbl⟩ : ∃ b, b = w.heap.size + 1 + 1 := ⟨_, rfl⟩
  obtain ⟨br, hbr⟩ : ∃ b, b = w.heap.size + 1 := ⟨_, rfl⟩
  have hS0 : bl < W0.heap.size := by rw [hW0, hbl]; simp
  rw [← hW0] at Q
  have HW := Lib.hid hW0
  clear hW0
  obtain ⟨G1, G2, G3⟩ := Q.out
  clear Q
  have e3 : w.heap.size + 2 = bl := by omega
  rw [← hbr] at G2
  rw [e3] at G3
  have hd1 : w.heap.size < br := by omega
  have hd2 : br < bl := by omega
  have Hbl := Lib.hid hbl
  have Hbr := Lib.hid hbr
  clear hbl hbr e3
  go_enter Tryd.func29, Tryd.ntmps29
  go_wp2_with fail
  rw [← HW.out, ← Hbl.out, ← Hbr.out]
  refine (toIntS_any _ _ _ W0 (h1.below B) (by omega)).mono ?_
  rintro e w1 ⟨u1, rfl, y1, bb, -⟩
  have x1 := WrIn.of (lo := W0.heap.size) y1 (Nat.le_refl _)
  clear y1
  obtain ⟨pu1, cu1, eu⟩ := x1.shape
  subst eu
  have l1 : bl < W0.heap.size := hS0
  have HQ1 : Hid (W0.heap.size ≤ w1.heap.size) := Lib.hid bb.size
  have HB1 : Hid (w.heap.size ≤ W0.heap.size) := Lib.hid B.size
  replace B := B.trans (bb.mono B.size)
  replace G1 := (bb.block _ (by omega)).trans G1
  replace G2 := (bb.block _ (by omega)).trans G2
  replace G3 := (bb.block _ (by omega)).trans G3
  replace hS0 := Nat.lt_of_lt_of_le hS0 bb.size
  clear bb
  have c1_2 := box_cell G1 2
  have c3_1 := box_cell G3 1
  have z3_1 := box_free G3 1
  simp at c1_2 c3_1
  go_wp2_with fail
  obtain ⟨X2, hX2⟩ : ∃ X, X = (w1.setCell ⟨bl, 1, none⟩ (.slice pu1 D.hand.length cu1)) := ⟨_, rfl⟩
  have N3 := (box_set G3 1 (.slice pu1 D.hand.length cu1))
  rw [← hX2] at N3
  have K2 : ∀ i, i ≠ bl → X2.heap[i]? = w1.heap[i]? := fun i hi => by rw [hX2]; rw [Below.heap_setCell _ _ _ _ hi]
  have Z2 : X2.heap.size = w1.heap.size := by rw [hX2]; simp [World.setCell]
  have NB : Below w.heap.size w X2 := by rw [hX2]; exact (B.setCell (show w.heap.size ≤ bl by omega) (.slice pu1 D.hand.length cu1))
  have b0 : Below 0 w1 X2 := by rw [hX2]; exact ((Below.refl 0 w1).setCell (Nat.zero_le _) (.slice pu1 D.hand.length cu1))
  have tX : Touch (fun k => k = bl) w1 X2 := ⟨b0.os, b0.tape, b0.output, b0.size, fun k _ hn => K2 k hn⟩
  clear b0
  replace G1 := (K2 _ (by omega)).trans G1
  replace G2 := (K2 _ (by omega)).trans G2
  replace hS0 : bl < X2.heap.size := by rw [Z2]; exact hS0
  replace x1 := x1.touch tX (fun b h1 h2 => by have := h1.1; have := l1; omega)
  have HZ2 := Lib.hid Z2
  rw [← hX2]
  clear hX2 B G3 K2 Z2 tX c1_2 c3_1 z3_1
  have G3 := N3
  have B := NB
  clear N3 NB
  simp only [List.setIfInBounds_toArray, List.set_cons_zero, List.set_cons_succ] at G3
  refine (toIntS_any _ _ _ X2 (h2.below B) (by omega)).mono ?_
  rintro e w2 ⟨u2, rfl, y2, bb, -⟩
  have x2 := WrIn.of (lo := X2.heap.size) y2 (Nat.le_refl _)
  clear y2
  obtain ⟨pu2, cu2, eu⟩ := x2.shape
  subst eu
  have l2 : bl < X2.heap.size := hS0
  have HQ2 : Hid (X2.heap.size ≤ w2.heap.size) := Lib.hid bb.size
  have HB2 : Hid (w.heap.size ≤ X2.heap.size) := Lib.hid B.size
  replace B := B.trans (bb.mono B.size)
  replace G1 := (bb.block _ (by omega)).trans G1
  replace G2 := (bb.block _ (by omega)).trans G2
  replace G3 := (bb.block _ (by omega)).trans G3
  replace hS0 := Nat.lt_of_lt_of_le hS0 bb.size
  replace x1 := x1.touch (Below.touch (S := fun _ => False) bb) (fun _ _ hx => hx)
  clear bb
  have c1_3 := box_cell G1 3
  have c1_4 := box_cell G1 4
  have c1_5 := box_cell G1 5
  have c3_2 := box_cell G3 2
  have z3_2 := box_free G3 2
  have c3_3 := box_cell G3 3
  have z3_3 := box_free G3 3
  have c3_4 := box_cell G3 4
  have z3_4 := box_free G3 4
  simp at c1_3 c1_4 c1_5 c3_2 c3_3 c3_4
  go_wp2_with fail
  obtain ⟨X5, hX5⟩ : ∃ X, X = (((w2.setCell ⟨bl, 2, none⟩ (.slice pu2 D.trick.length cu2)).setCell ⟨bl, 3, none⟩ (.int .i64 D.leader)).setCell ⟨bl, 4, none⟩ (.int .i64 D.trump)) := ⟨_, rfl⟩
  have N3 := (box_set (box_set (box_set G3 2 (.slice pu2 D.trick.length cu2)) 3 (.int .i64 D.leader)) 4 (.int .i64 D.trump))
  rw [← hX5] at N3
  have K5 : ∀ i, i ≠ bl → X5.heap[i]? = w2.heap[i]? := fun i hi => by rw [hX5]; rw [Below.heap_setCell _ _ _ _ hi, Below.heap_setCell _ _ _ _ hi, Below.heap_setCell _ _ _ _ hi]
  have Z5 : X5.heap.size = w2.heap.size := by rw [hX5]; simp [World.setCell]
  have NB : Below w.heap.size w X5 := by rw [hX5]; exact (((B.setCell (show w.heap.size ≤ bl by omega) (.slice pu2 D.trick.length cu2)).setCell (show w.heap.size ≤ bl by omega) (.int .i64 D.leader)).setCell (show w.heap.size ≤ bl by omega) (.int .i64 D.trump))
  have b0 : Below 0 w2 X5 := by rw [hX5]; exact ((((Below.refl 0 w2).setCell (Nat.zero_le _) (.slice pu2 D.trick.length cu2)).setCell (Nat.zero_le _) (.int .i64 D.leader)).setCell (Nat.zero_le _) (.int .i64 D.trump))
  have tX : Touch (fun k => k = bl) w2 X5 := ⟨b0.os, b0.tape, b0.output, b0.size, fun k _ hn => K5 k hn⟩
  clear b0
  replace G1 := (K5 _ (by omega)).trans G1
  replace G2 := (K5 _ (by omega)).trans G2
  replace hS0 : bl < X5.heap.size := by rw [Z5]; exact hS0
  replace x1 := x1.touch tX (fun b h1 h2 => by have := h1.1; have := l1; omega)
  replace x2 := x2.touch tX (fun b h1 h2 => by have := h1.1; have := l2; omega)
  have HZ5 := Lib.hid Z5
  rw [← hX5]
  clear hX5 B G3 K5 Z5 tX c1_3 c1_4 c1_5 c3_2 z3_2 c3_3 z3_3 c3_4 z3_4
  have G3 := N3
  have B := NB
  clear N3 NB
  simp only [List.setIfInBounds_toArray, List.set_cons_zero, List.set_cons_succ] at G3
  refine (toIntS_any _ _ _ X5 (h5.below B) (by omega)).mono ?_
  rintro e w5 ⟨u5, rfl, y5, bb, -⟩
  have x5 := WrIn.of (lo := X5.heap.size) y5 (Nat.le_refl _)
  clear y5
  obtain ⟨pu5, cu5, eu⟩ := x5.shape
  subst eu
  have l5 : bl < X5.heap.size := hS0
  have HQ5 : Hid (X5.heap.size ≤ w5.heap.size) := Lib.hid bb.size
  have HB5 : Hid (w.heap.size ≤ X5.heap.size) := Lib.hid B.size
  replace B := B.trans (bb.mono B.size)
  replace G1 := (bb.block _ (by omega)).trans G1
  replace G2 := (bb.block _ (by omega)).trans G2
  replace G3 := (bb.block _ (by omega)).trans G3
  replace hS0 := Nat.lt_of_lt_of_le hS0 bb.size
  replace x1 := x1.touch (Below.touch (S := fun _ => False) bb) (fun _ _ hx => hx)
  replace x2 := x2.touch (Below.touch (S := fun _ => False) bb) (fun _ _ hx => hx)
  clear bb
  have c1_6 := box_cell G1 6
  have c3_5 := box_cell G3 5
  have z3_5 := box_free G3 5
  simp at c1_6 c3_5
  go_wp2_with fail
  obtain ⟨X6, hX6⟩ : ∃ X, X = (w5.setCell ⟨bl, 5, none⟩ (.slice pu5 D.sizes.length cu5)) := ⟨_, rfl⟩
  have N3 := (box_set G3 5 (.slice pu5 D.sizes.length cu5))
  rw [← hX6] at N3
  have K6 : ∀ i, i ≠ bl → X6.heap[i]? = w5.heap[i]? := fun i hi => by rw [hX6]; rw [Below.heap_setCell _ _ _ _ hi]
  have Z6 : X6.heap.size = w5.heap.size := by rw [hX6]; simp [World.setCell]
  have NB : Below w.heap.size w X6 := by rw [hX6]; exact (B.setCell (show w.heap.size ≤ bl by omega) (.slice pu5 D.sizes.length cu5))
  have b0 : Below 0 w5 X6 := by rw [hX6]; exact ((Below.refl 0 w5).setCell (Nat.zero_le _) (.slice pu5 D.sizes.length cu5))
  have tX : Touch (fun k => k = bl) w5 X6 := ⟨b0.os, b0.tape, b0.output, b0.size, fun k _ hn => K6 k hn⟩
  clear b0
  replace G1 := (K6 _ (by omega)).trans G1
  replace G2 := (K6 _ (by omega)).trans G2
  replace hS0 : bl < X6.heap.size := by rw [Z6]; exact hS0
  replace x1 := x1.touch tX (fun b h1 h2 => by have := h1.1; have := l1; omega)
  replace x2 := x2.touch tX (fun b h1 h2 => by have := h1.1; have := l2; omega)
  replace x5 := x5.touch tX (fun b h1 h2 => by have := h1.1; have := l5; omega)
  have HZ6 := Lib.hid Z6
  rw [← hX6]
  clear hX6 B G3 K6 Z6 tX c1_6 c3_5 z3_5
  have G3 := N3
  have B := NB
  clear N3 NB
  simp only [List.setIfInBounds_toArray, List.set_cons_zero, List.set_cons_succ] at G3
  refine (toIntS_any _ _ _ X6 (h6.below B) (by omega)).mono ?_
  rintro e w6 ⟨u6, rfl, y6, bb, -⟩
  have x6 := WrIn.of (lo := X6.heap.size) y6 (Nat.le_refl _)
  clear y6
  obtain ⟨pu6, cu6, eu⟩ := x6.shape
  subst eu
  have l6 : bl < X6.heap.size := hS0
  have HQ6 : Hid (X6.heap.size ≤ w6.heap.size) := Lib.hid bb.size
  have HB6 : Hid (w.heap.size ≤ X6.heap.size) := Lib.hid B.size
  replace B := B.trans (bb.mono B.size)
  replace G1 := (bb.block _ (by omega)).trans G1
  replace G2 := (bb.block _ (by omega)).trans G2
  replace G3 := (bb.block _ (by omega)).trans G3
  replace hS0 := Nat.lt_of_lt_of_le hS0 bb.size
  replace x1 := x1.touch (Below.touch (S := fun _ => False) bb) (fun _ _ hx => hx)
  replace x2 := x2.touch (Below.touch (S := fun _ => False) bb) (fun _ _ hx => hx)
  replace x5 := x5.touch (Below.touch (S := fun _ => False) bb) (fun _ _ hx => hx)
  clear bb
  have c3_6 := box_cell G3 6
  have z3_6 := box_free G3 6
  simp at c3_6
  have G3f := (box_set G3 6 (.slice pu6 D.won.length cu6))
  simp only [List.setIfInBounds_toArray, List.set_cons_zero, List.set_cons_succ] at G3f
  have G2a : (w6.setCell ⟨bl, 6, none⟩ (.slice pu6 D.won.length cu6)).heap[br]? = some (.cells #[.int .i64 0, .slice none 0 0, .slice none 0 0, .int .i64 0, .int .i64 0, .slice none 0 0, .slice none 0 0] 28 (0, 0)) := by
    rw [Below.heap_setCell _ _ _ _ (show br ≠ bl by omega)]; exact G2
  obtain ⟨X0, hX0⟩ : ∃ X, X = (w6.setCell ⟨bl, 6, none⟩ (.slice pu6 D.won.length cu6)) := ⟨_, rfl⟩
  have G3x : X0.heap[bl]? = some (.cells #[.int .i64 D.me, .slice pu1 D.hand.length cu1, .slice pu2 D.trick.length cu2, .int .i64 D.leader, .int .i64 D.trump, .slice pu5 D.sizes.length cu5, .slice pu6 D.won.length cu6] 28 (0, 0)) := by rw [hX0]; exact G3f
  have G2x : X0.heap[br]? = some (.cells #[.int .i64 0, .slice none 0 0, .slice none 0 0, .int .i64 0, .int .i64 0, .slice none 0 0, .slice none 0 0] 28 (0, 0)) := by rw [hX0]; exact G2a
  have HX0 := Lib.hid hX0
  clear G3f G2a hX0
  go_upto_region 9 with fail
  rw [← HX0.out]
  clear c3_6 z3_6
  refine wp_region_lit ?_
  refine wpList_load_row rfl 28 _ rfl bl rfl 28 _ _ _ G3x Tryd.underlying28 rfl (by kernel_rfl) ?_
  refine wpList_store_row rfl 28 _ _ rfl br #[.int .i64 D.me, .slice pu1 D.hand.length cu1, .slice pu2 D.trick.length cu2, .int .i64 D.leader, .int .i64 D.trump, .slice pu5 D.sizes.length cu5, .slice pu6 D.won.length cu6] rfl rfl 28 _ G2x (by kernel_rfl) rfl (by simp [Value.oneCell']) ?_
  go_wp2_with fail
  obtain ⟨X, hX⟩ : ∃ X, X = (X0.setRow br #[.int .i64 D.me, .slice pu1 D.hand.length cu1, .slice pu2 D.trick.length cu2, .int .i64 D.leader, .int .i64 D.trump, .slice pu5 D.sizes.length cu5, .slice pu6 D.won.length cu6]) := ⟨_, rfl⟩
  have N2 := setRow_heap X0 br _ #[.int .i64 D.me, .slice pu1 D.hand.length cu1, .slice pu2 D.trick.length cu2, .int .i64 D.leader, .int .i64 D.trump, .slice pu5 D.sizes.length cu5, .slice pu6 D.won.length cu6] _ _ G2x
  rw [← hX] at N2
  have K : ∀ i, i ≠ bl → i ≠ br → X.heap[i]? = w6.heap[i]? := fun i hi hr => by rw [hX, HX0.out]; rw [setRow_other _ _ _ _ hr, Below.heap_setCell _ _ _ _ hi]
  have Z : X.heap.size = w6.heap.size := by rw [hX, HX0.out]; simp [World.setCell]
  have NB : Below w.heap.size w X := by rw [hX, HX0.out]; exact below_setRow (B.setCell (show w.heap.size ≤ bl by omega) (.slice pu6 D.won.length cu6)) (by omega) _
  have b0 : Below 0 w6 X := by rw [hX, HX0.out]; exact below_setRow ((Below.refl 0 w6).setCell (Nat.zero_le _) (.slice pu6 D.won.length cu6)) (Nat.zero_le _) _
  have tX : Touch (fun k => k = bl ∨ k = br) w6 X := ⟨b0.os, b0.tape, b0.output, b0.size, fun k _ hn => K k (fun e => hn (.inl e)) (fun e => hn (.inr e))⟩
  clear b0
  rw [← hX]
  replace x1 := x1.touch tX (fun b h1 h2 => by have := h1.1; have := l1; omega)
  replace x2 := x2.touch tX (fun b h1 h2 => by have := h1.1; have := l2; omega)
  replace x5 := x5.touch tX (fun b h1 h2 => by have := h1.1; have := l5; omega)
  replace x6 := x6.touch tX (fun b h1 h2 => by have := h1.1; have := l6; omega)
  have q1 := HQ1.out
  have qb1 := HB1.out
  have q2 := HQ2.out
  have qb2 := HB2.out
  have q5 := HQ5.out
  have qb5 := HB5.out
  have q6 := HQ6.out
  have qb6 := HB6.out
  have qz2 := HZ2.out
  have qz5 := HZ5.out
  have qz6 := HZ6.out
  have HWr : WrSight (In w.heap.size X.heap.size) X (.agg #[.int .i64 D.me, .slice pu1 D.hand.length cu1, .slice pu2 D.trick.length cu2, .int .i64 D.leader, .int .i64 D.trump, .slice pu5 D.sizes.length cu5, .slice pu6 D.won.length cu6]) D := ⟨pu1, pu2, pu5, pu6, cu1, cu2, cu5, cu6, (In W0.heap.size w1.heap.size), (In X2.heap.size w2.heap.size), (In X5.heap.size w5.heap.size), (In X6.heap.size w6.heap.size), rfl, x1, x2, x5, x6, (fun b hb => by obtain ⟨h1, h2⟩ := hb; constructor <;> omega), (fun b hb => by obtain ⟨h1, h2⟩ := hb; constructor <;> omega), (fun b hb => by obtain ⟨h1, h2⟩ := hb; constructor <;> omega), (fun b hb => by obtain ⟨h1, h2⟩ := hb; constructor <;> omega), (fun b h1 h2 => by obtain ⟨a1, a2⟩ := h1; obtain ⟨a3, a4⟩ := h2; omega), (fun b h1 h2 => by obtain ⟨a1, a2⟩ := h1; obtain ⟨a3, a4⟩ := h2; omega), (fun b h1 h2 => by obtain ⟨a1, a2⟩ := h1; obtain ⟨a3, a4⟩ := h2; omega), (fun b h1 h2 => by obtain ⟨a1, a2⟩ := h1; obtain ⟨a3, a4⟩ := h2; omega), (fun b h1 h2 => by obtain ⟨a1, a2⟩ := h1; obtain ⟨a3, a4⟩ := h2; omega), (fun b h1 h2 => by obtain ⟨a1, a2⟩ := h1; obtain ⟨a3, a4⟩ := h2; omega), wf0, wf1, wf2⟩
  (try simp only [Exit.inBlock, Exit.then]); refine bodyPost_ret (results_cell_row rfl _ _ br _ _ _ _ rfl N2 Tryd.underlying28 rfl (by kernel_rfl)) rfl ?_
  exact ⟨_, rfl, HWr, NB⟩
def MSight.total (D : MSight) : Nat := D.hand.length + D.trick.length + D.sizes.length + D.won.length
def MSight.marked (D : MSight) (k : Int) : MSight := { D with hand := marksI (k) D.hand.length, trick := marksI (k + (D.hand.length : Nat)) D.trick.length, sizes := marksI (k + (D.hand.length : Nat) + (D.trick.length : Nat)) D.sizes.length, won := marksI (k + (D.hand.length : Nat) + (D.trick.length : Nat) + (D.sizes.length : Nat)) D.won.length }
theorem MSight.total_le {D : MSight} (hf : D.Few) : D.total ≤ 4194304 := by
  obtain ⟨f1, f2, f5, f6⟩ := hf
  unfold MSight.total
  omega
set_option maxRecDepth 100000 in
set_option maxHeartbeats 1000000 in
theorem markSight_any {S : Nat → Prop} (v : Value) (D : MSight) (k : Int) (w : World) (h : WrSight S w v D) (hf : D.Few) (k0 : 0 ≤ k) (k1 : k ≤ 1099400000000) (hS : ∀ b, S b → b < w.heap.size) :
    Calls Tryd.prog 15 #[v, .int .i64 k] w fun e w' => e = .returned (.int .i64 (k + (D.total : Nat))) ∧ WrSight S w' v (D.marked k) ∧ Touch S w w' := by
  obtain ⟨p1, p2, p5, p6, c1, c2, c5, c6, S1, S2, S5, S6, rfl, h1, h2, h5, h6, s1, s2, s5, s6, d0_1, d0_2, d0_3, d1_2, d1_3, d2_3, wf0, wf1, wf2⟩ := h
  obtain ⟨f1, f2, f5, f6⟩ := hf
  unfold MSight.total
  obtain ⟨n1, hn1⟩ : ∃ n, n = D.hand.length := ⟨_, rfl⟩
  have Hn1 := Lib.hid hn1
  obtain ⟨n2, hn2⟩ : ∃ n, n = D.trick.length := ⟨_, rfl⟩
  have Hn2 := Lib.hid hn2
  obtain ⟨n5, hn5⟩ : ∃ n, n = D.sizes.length := ⟨_, rfl⟩
  have Hn5 := Lib.hid hn5
  obtain ⟨n6, hn6⟩ : ∃ n, n = D.won.length := ⟨_, rfl⟩
  have Hn6 := Lib.hid hn6
  have nb1 : n1 ≤ 1048576 := by omega
  have nb2 : n2 ≤ 1048576 := by omega
  have nb5 : n5 ≤ 1048576 := by omega
  have nb6 : n6 ≤ 1048576 := by omega
  clear hn1 hn2 hn5 hn6
  obtain ⟨W0, hW0⟩ : ∃ W, W = w.alloc (.cells #[.int .i64 D.me, .slice p1 D.hand.length c1, .slice p2 D.trick.length c2, .int .i64 D.leader, .int .i64 D.trump, .slice p5 D.sizes.length c5, .slice p6 D.won.length c6] 28) := ⟨_, rfl⟩
  have G1 : W0.heap[w.heap.size]? = some (.cells #[.int .i64 D.me, .slice p1 D.hand.length c1, .slice p2 D.trick.length c2, .int .i64 D.leader, .int .i64 D.trump, .slice p5 D.sizes.length c5, .slice p6 D.won.length c6] 28 (0, 0)) := by rw [hW0]; exact heap_alloc_new _ _
  have B : Below w.heap.size w W0 := by rw [hW0]; exact (Below.refl _ _).alloc (Nat.le_refl _) _
  have l1 : w.heap.size < W0.heap.size := by rw [hW0]; simp
  have HW := Lib.hid hW0
  clear hW0
  replace h1 := h1.touch (Below.touch (S := fun _ => False) B) (fun _ _ hx => hx)
  have z1 : ∀ b, S1 b → b < w.heap.size := fun b hb => hS b (s1 b hb)
  replace h2 := h2.touch (Below.touch (S := fun _ => False) B) (fun _ _ hx => hx)
  have z2 : ∀ b, S2 b → b < w.heap.size := fun b hb => hS b (s2 b hb)
  replace h5 := h5.touch (Below.touch (S := fun _ => False) B) (fun _ _ hx => hx)
  have z5 : ∀ b, S5 b → b < w.heap.size := fun b hb => hS b (s5 b hb)
  replace h6 := h6.touch (Below.touch (S := fun _ => False) B) (fun _ _ hx => hx)
  have z6 : ∀ b, S6 b → b < w.heap.size := fun b hb => hS b (s6 b hb)
  have TT : Touch S w W0 := Below.touch B
  go_enter Tryd.func15, Tryd.ntmps15
  go_wp2_with fail
  rw [← HW.out]
  refine (markIn h1 (k := k) (by omega) (by omega) (by omega)).mono ?_
  rintro e w1 ⟨he, hw1, tt, -⟩
  rw [← Hn1.out] at he
  subst he
  replace G1 := touch_heap tt G1 (fun hb => absurd (z1 _ hb) (Nat.lt_irrefl _))
  replace l1 := Nat.lt_of_lt_of_le l1 tt.size
  replace TT := TT.trans (tt.mono s1)
  replace h2 := h2.touch tt (fun b h1 h2 => d0_1 b h2 h1)
  replace h5 := h5.touch tt (fun b h1 h2 => d0_2 b h2 h1)
  replace h6 := h6.touch tt (fun b h1 h2 => d0_3 b h2 h1)
  clear tt
  have k2 := box_cell G1 2
  simp at k2
  go_wp2_with fail
  refine (markIn h2 (k := k + (n1 : Int)) (by omega) (by omega) (by omega)).mono ?_
  rintro e w2 ⟨he, hw2, tt, -⟩
  rw [← Hn2.out] at he
  subst he
  replace G1 := touch_heap tt G1 (fun hb => absurd (z2 _ hb) (Nat.lt_irrefl _))
  replace l1 := Nat.lt_of_lt_of_le l1 tt.size
  replace TT := TT.trans (tt.mono s2)
  replace hw1 := hw1.touch tt d0_1
  replace h5 := h5.touch tt (fun b h1 h2 => d1_2 b h2 h1)
  replace h6 := h6.touch tt (fun b h1 h2 => d1_3 b h2 h1)
  clear tt
  clear k2
  have k5 := box_cell G1 5
  simp at k5
  go_wp2_with fail
  refine (markIn h5 (k := k + (n1 : Int) + (n2 : Int)) (by omega) (by omega) (by omega)).mono ?_
  rintro e w5 ⟨he, hw5, tt, -⟩
  rw [← Hn5.out] at he
  subst he
  replace G1 := touch_heap tt G1 (fun hb => absurd (z5 _ hb) (Nat.lt_irrefl _))
  replace l1 := Nat.lt_of_lt_of_le l1 tt.size
  replace TT := TT.trans (tt.mono s5)
  replace hw1 := hw1.touch tt d0_2
  replace hw2 := hw2.touch tt d1_2
  replace h6 := h6.touch tt (fun b h1 h2 => d2_3 b h2 h1)
  clear tt
  clear k5
  have k6 := box_cell G1 6
  simp at k6
  go_wp2_with fail
  refine (markIn h6 (k := k + (n1 : Int) + (n2 : Int) + (n5 : Int)) (by omega) (by omega) (by omega)).mono ?_
  rintro e w6 ⟨he, hw6, tt, -⟩
  rw [← Hn6.out] at he
  subst he
  replace G1 := touch_heap tt G1 (fun hb => absurd (z6 _ hb) (Nat.lt_irrefl _))
  replace l1 := Nat.lt_of_lt_of_le l1 tt.size
  replace TT := TT.trans (tt.mono s6)
  replace hw1 := hw1.touch tt d0_3
  replace hw2 := hw2.touch tt d1_3
  replace hw5 := hw5.touch tt d2_3
  clear tt
  clear k6
  go_wp2_with fail
  go_ret
  have hn1 := Hn1.out
  have hn2 := Hn2.out
  have hn5 := Hn5.out
  have hn6 := Hn6.out
  refine ⟨congrArg (fun z => Ending.returned (.int .i64 z)) (show k + (n1 : Int) + (n2 : Int) + (n5 : Int) + (n6 : Int) = k + ((D.hand.length + D.trick.length + D.sizes.length + D.won.length : Nat) : Int) by omega), ?_, TT⟩
  subst hn1
  subst hn2
  subst hn5
  subst hn6
  unfold MSight.marked
  refine ⟨p1, p2, p5, p6, c1, c2, c5, c6, S1, S2, S5, S6, ?_, ?_, ?_, ?_, ?_, s1, s2, s5, s6, d0_1, d0_2, d0_3, d1_2, d1_3, d2_3, wf0, wf1, wf2⟩
  · simp [marksI_length, marksII_length]
  · have := hw1
    simpa [marksI_length, marksII_length] using this
  · have := hw2
    simpa [marksI_length, marksII_length] using this
  · have := hw5
    simpa [marksI_length, marksII_length] using this
  · have := hw6
    simpa [marksI_length, marksII_length] using this
set_option maxRecDepth 100000 in
set_option maxHeartbeats 1000000 in
theorem heldSight_any (v : Value) (D : MSight) (k : Int) (w : World) (h : RdSight w v (D.marked k)) (hf : D.Few) (k0 : 0 ≤ k) (k1 : k ≤ 1099400000000) :
    Calls Tryd.prog 16 #[v, .int .i64 k] w fun e w' => e = .returned (.int .i64 (k + (D.total : Nat))) ∧ Below w.heap.size w w' := by
  obtain ⟨v1, v2, v5, v6, b1, b2, b5, b6, rfl, h1, h2, h5, h6, wf0, wf1, wf2⟩ := h
  obtain ⟨p1, c1, e1, -⟩ := id h1
  subst e1
  obtain ⟨p2, c2, e2, -⟩ := id h2
  subst e2
  obtain ⟨p5, c5, e5, -⟩ := id h5
  subst e5
  obtain ⟨p6, c6, e6, -⟩ := id h6
  subst e6
  obtain ⟨f1, f2, f5, f6⟩ := hf
  unfold MSight.total
  unfold MSight.marked at *
  dsimp only at *
  skip
  skip
  skip
  skip
  simp only [marksI_length, marksII_length] at *
  obtain ⟨n1, hn1⟩ : ∃ n, n = D.hand.length := ⟨_, rfl⟩
  have Hn1 := Lib.hid hn1
  obtain ⟨n2, hn2⟩ : ∃ n, n = D.trick.length := ⟨_, rfl⟩
  have Hn2 := Lib.hid hn2
  obtain ⟨n5, hn5⟩ : ∃ n, n = D.sizes.length := ⟨_, rfl⟩
  have Hn5 := Lib.hid hn5
  obtain ⟨n6, hn6⟩ : ∃ n, n = D.won.length := ⟨_, rfl⟩
  have Hn6 := Lib.hid hn6
  have nb1 : n1 ≤ 1048576 := by omega
  have nb2 : n2 ≤ 1048576 := by omega
  have nb5 : n5 ≤ 1048576 := by omega
  have nb6 : n6 ≤ 1048576 := by omega
  clear hn1 hn2 hn5 hn6
  obtain ⟨W0, hW0⟩ : ∃ W, W = w.alloc (.cells #[.int .i64 D.me, .slice p1 D.hand.length c1, .slice p2 D.trick.length c2, .int .i64 D.leader, .int .i64 D.trump, .slice p5 D.sizes.length c5, .slice p6 D.won.length c6] 28) := ⟨_, rfl⟩
  have G1 : W0.heap[w.heap.size]? = some (.cells #[.int .i64 D.me, .slice p1 D.hand.length c1, .slice p2 D.trick.length c2, .int .i64 D.leader, .int .i64 D.trump, .slice p5 D.sizes.length c5, .slice p6 D.won.length c6] 28 (0, 0)) := by rw [hW0]; exact heap_alloc_new _ _
  have B : Below w.heap.size w W0 := by rw [hW0]; exact (Below.refl _ _).alloc (Nat.le_refl _) _
  have l1 : w.heap.size < W0.heap.size := by rw [hW0]; simp
  have HW := Lib.hid hW0
  clear hW0
  go_enter Tryd.func16, Tryd.ntmps16
  go_wp2_with fail
  rw [← HW.out]
  refine (heldIntS_any _ _ (k) D.hand.length _ (by have hx := h1.below B; exact hx) (by omega) (by omega) (by omega)).mono ?_
  rintro e _w ⟨he, rfl⟩
  rw [← Hn1.out] at he
  subst he
  have nn1 : decide (k + (n1 : Int) < 0) = false := by simp; omega
  have k2 := box_cell G1 2
  simp at k2
  go_wp2_with fail
  refine (heldIntS_any _ _ (k + (n1 : Int)) D.trick.length _ (by have hx := h2.below B; (try rw [← Hn1.out] at hx); exact hx) (by omega) (by omega) (by omega)).mono ?_
  rintro e _w ⟨he, rfl⟩
  rw [← Hn2.out] at he
  subst he
  have nn2 : decide (k + (n1 : Int) + (n2 : Int) < 0) = false := by simp; omega
  clear k2
  have k5 := box_cell G1 5
  simp at k5
  go_wp2_with fail
  refine (heldIntS_any _ _ (k + (n1 : Int) + (n2 : Int)) D.sizes.length _ (by have hx := h5.below B; (try rw [← Hn1.out] at hx); (try rw [← Hn2.out] at hx); exact hx) (by omega) (by omega) (by omega)).mono ?_
  rintro e _w ⟨he, rfl⟩
  rw [← Hn5.out] at he
  subst he
  have nn5 : decide (k + (n1 : Int) + (n2 : Int) + (n5 : Int) < 0) = false := by simp; omega
  clear k5
  have k6 := box_cell G1 6
  simp at k6
  go_wp2_with fail
  refine (heldIntS_any _ _ (k + (n1 : Int) + (n2 : Int) + (n5 : Int)) D.won.length _ (by have hx := h6.below B; (try rw [← Hn1.out] at hx); (try rw [← Hn2.out] at hx); (try rw [← Hn5.out] at hx); exact hx) (by omega) (by omega) (by omega)).mono ?_
  rintro e _w ⟨he, rfl⟩
  rw [← Hn6.out] at he
  subst he
  have nn6 : decide (k + (n1 : Int) + (n2 : Int) + (n5 : Int) + (n6 : Int) < 0) = false := by simp; omega
  clear k6
  go_wp2_with fail
  go_ret
  have hn1 := Hn1.out
  have hn2 := Hn2.out
  have hn5 := Hn5.out
  have hn6 := Hn6.out
  exact ⟨congrArg (fun z => Ending.returned (.int .i64 z)) (show k + (n1 : Int) + (n2 : Int) + (n5 : Int) + (n6 : Int) = k + ((D.hand.length + D.trick.length + D.sizes.length + D.won.length : Nat) : Int) by omega), B⟩

end Go.Proofs.YtbojhbhniollaaaDoor
