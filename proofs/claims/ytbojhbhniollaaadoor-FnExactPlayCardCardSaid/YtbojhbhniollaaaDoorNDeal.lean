/-
  The struct Deal: what can be read of it, what may be written and in which blocks; the laws' helpers over it.
-/
import Derived.Test.YtbojhbhniollaaaDoorFr
import Derived.Test.YtbojhbhniollaaaDoorSetR
import Derived.Test.YtbojhbhniollaaaDoorSDeal
import Derived.Deep.Cut
namespace Go.Proofs.YtbojhbhniollaaaDoor
open Go.RowKit
set_option linter.unusedVariables false
set_option linter.unusedSimpArgs false

/-- .. and its lists may be written, each in blocks of its own out of S. -/
def WrDeal (S : Nat → Prop) (w : World) (v : Value) (D : MDeal) : Prop :=
  ∃ (p0 p3 p4 p5 : Option Addr) (c0 c3 c4 c5 : Nat) (S0 S3 S4 S5 : Nat → Prop), v = .agg #[.slice p0 D.hands.length c0, .int .i64 D.leader, .int .i64 D.trump, .slice p3 D.trick.length c3, .slice p4 D.won.length c4, .slice p5 D.points.length c5, .int .i64 D.left] ∧ WrSS .i64 S0 w (.slice p0 D.hands.length c0) D.hands ∧ WrIn .i64 S3 w (.slice p3 D.trick.length c3) D.trick ∧ WrIn .i64 S4 w (.slice p4 D.won.length c4) D.won ∧ WrIn .i64 S5 w (.slice p5 D.points.length c5) D.points ∧ (∀ b, S0 b → S b) ∧ (∀ b, S3 b → S b) ∧ (∀ b, S4 b → S b) ∧ (∀ b, S5 b → S b) ∧ (∀ b, S0 b → ¬ S3 b) ∧ (∀ b, S0 b → ¬ S4 b) ∧ (∀ b, S0 b → ¬ S5 b) ∧ (∀ b, S3 b → ¬ S4 b) ∧ (∀ b, S3 b → ¬ S5 b) ∧ (∀ b, S4 b → ¬ S5 b) ∧ (Lit.int .i64 D.leader).wf = true ∧ (Lit.int .i64 D.trump).wf = true ∧ (Lit.int .i64 D.left).wf = true
theorem WrDeal.rd {S : Nat → Prop} {w : World} {v : Value} {D : MDeal} (h : WrDeal S w v D) : RdDeal w v D := by
  obtain ⟨p0, p3, p4, p5, c0, c3, c4, c5, S0, S3, S4, S5, e, h0, h3, h4, h5, s0, s3, s4, s5, d0_1, d0_2, d0_3, d1_2, d1_3, d2_3, wf0, wf1, wf2⟩ := h
  have r0 := h0.rd
  obtain ⟨b3, r3⟩ := h3.rd
  obtain ⟨b4, r4⟩ := h4.rd
  obtain ⟨b5, r5⟩ := h5.rd
  exact ⟨_, _, _, _, b3, b4, b5, e, r0, r3, r4, r5, wf0, wf1, wf2⟩
theorem WrDeal.touch {S U : Nat → Prop} {w w' : World} {v : Value} {D : MDeal} (h : WrDeal S w v D) (t : Touch U w w') (hd : ∀ b, S b → ¬ U b) : WrDeal S w' v D := by
  obtain ⟨p0, p3, p4, p5, c0, c3, c4, c5, S0, S3, S4, S5, e, h0, h3, h4, h5, s0, s3, s4, s5, d0_1, d0_2, d0_3, d1_2, d1_3, d2_3, wf0, wf1, wf2⟩ := h
  exact ⟨p0, p3, p4, p5, c0, c3, c4, c5, S0, S3, S4, S5, e, h0.touch t (fun b hb => hd b (s0 b hb)), h3.touch t (fun b hb => hd b (s3 b hb)), h4.touch t (fun b hb => hd b (s4 b hb)), h5.touch t (fun b hb => hd b (s5 b hb)), s0, s3, s4, s5, d0_1, d0_2, d0_3, d1_2, d1_3, d2_3, wf0, wf1, wf2⟩
theorem WrDeal.below {S : Nat → Prop} {w w' : World} {v : Value} {D : MDeal} (h : WrDeal S w v D) (b : Below w.heap.size w w') : WrDeal S w' v D := h.touch (Below.touch (S := fun _ => False) b) (fun _ _ hx => hx)
theorem WrDeal.mono {S U : Nat → Prop} {w : World} {v : Value} {D : MDeal} (h : WrDeal S w v D) (hs : ∀ b, S b → U b) : WrDeal U w v D := by
  obtain ⟨p0, p3, p4, p5, c0, c3, c4, c5, S0, S3, S4, S5, e, h0, h3, h4, h5, s0, s3, s4, s5, d0_1, d0_2, d0_3, d1_2, d1_3, d2_3, wf0, wf1, wf2⟩ := h
  exact ⟨p0, p3, p4, p5, c0, c3, c4, c5, S0, S3, S4, S5, e, h0, h3, h4, h5, fun b hb => hs b (s0 b hb), fun b hb => hs b (s3 b hb), fun b hb => hs b (s4 b hb), fun b hb => hs b (s5 b hb), d0_1, d0_2, d0_3, d1_2, d1_3, d2_3, wf0, wf1, wf2⟩
theorem WrDeal.shape {S : Nat → Prop} {w : World} {v : Value} {D : MDeal} (h : WrDeal S w v D) : ∃ (p0 p3 p4 p5 : Option Addr) (c0 c3 c4 c5 : Nat), v = .agg #[.slice p0 D.hands.length c0, .int .i64 D.leader, .int .i64 D.trump, .slice p3 D.trick.length c3, .slice p4 D.won.length c4, .slice p5 D.points.length c5, .int .i64 D.left] := by
  obtain ⟨p0, p3, p4, p5, c0, c3, c4, c5, S0, S3, S4, S5, e, h0, h3, h4, h5, s0, s3, s4, s5, d0_1, d0_2, d0_3, d1_2, d1_3, d2_3, wf0, wf1, wf2⟩ := h
  exact ⟨p0, p3, p4, p5, c0, c3, c4, c5, e⟩

set_option maxRecDepth 100000 in
set_option maxHeartbeats 1000000 in
theorem toDeal_w (v : Value) (D : MDeal) (w : World) (h : RdDeal w v D) (hf : D.Few) :
    Calls Tryd.prog 10 #[v] w fun e w' => ∃ v', e = .returned v' ∧ WrDeal (In w.heap.size w'.heap.size) w' v' D ∧ Below w.heap.size w w' := by
  obtain ⟨v0, v3, v4, v5, b3, b4, b5, rfl, h0, h3, h4, h5, wf0, wf1, wf2⟩ := h
  obtain ⟨p0, c0, e0, -⟩ := id h0
  subst e0
  obtain ⟨p3, c3, e3, -⟩ := id h3
  subst e3
  obtain ⟨p4, c4, e4, -⟩ := id h4
  subst e4
  obtain ⟨p5, c5, e5, -⟩ := id h5
  subst e5
  obtain ⟨f0, fs0, f3, f4, f5⟩ := hf
  have Q := Lib.hid (threeBoxes w (.cells #[.slice p0 D.hands.length c0, .int .i64 D.leader, .int .i64 D.trump, .slice p3 D.trick.length c3, .slice p4 D.won.length c4, .slice p5 D.points.length c5, .int .i64 D.left] 25) (.cells #[.slice none 0 0, .int .i64 0, .int .i64 0, .slice none 0 0, .slice none 0 0, .slice none 0 0, .int .i64 0] 31) (.cells #[.slice none 0 0, .int .i64 0, .int .i64 0, .slice none 0 0, .slice none 0 0, .slice none 0 0, .int .i64 0] 31))
  obtain ⟨W0, hW0⟩ : ∃ W0, W0 = (((w.alloc (.cells #[.slice p0 D.hands.length c0, .int .i64 D.leader, .int .i64 D.trump, .slice p3 D.trick.length c3, .slice p4 D.won.length c4, .slice p5 D.points.length c5, .int .i64 D.left] 25)).alloc (.cells #[.slice none 0 0, .int .i64 0, .int .i64 0, .slice none 0 0, .slice none 0 0, .slice none 0 0, .int .i64 0] 31)).alloc (.cells #[.slice none 0 0, .int .i64 0, .int .i64 0, .slice none 0 0, .slice none 0 0, .slice none 0 0, .int .i64 0] 31)) := ⟨_, rfl⟩
  have B : Below w.heap.size w W0 := by rw [hW0]; exact (((Below.refl _ _).alloc (Nat.le_refl _) _).alloc (by simp) _).alloc (by simp; omega) _
  obtain ⟨bl, hbl⟩ : ∃ b, b = w.heap.size + 1 + 1 := ⟨_, rfl⟩
  obtain ⟨br, hbr⟩ : ∃ b, b = w.heap.size + 1 := ⟨_, rfl⟩
  have hS0 : bl < W0.heap.size := by rw [hW0, hbl]; simp
  rw [← hW0] at Q
  have HW := Lib.hid hW0
  clear hW0
  obtain ⟨G1, G2, G3⟩ := Q.out
  clear Q
  have e3 : w.heap.size + 2 = bl := by omega
  rw [← hbr] at G2
  rw [e3] at G3
  have hd1 : w.heap.size < br := by omega
  have hd2 : br < bl := by omega
  have Hbl := Lib.hid hbl
  have Hbr := Lib.hid hbr
  clear hbl hbr e3
  go_enter Tryd.func10, Tryd.ntmps10
  go_wp2_with fail
  rw [← HW.out, ← Hbl.out, ← Hbr.out]
  refine (toIntSS_any _ _ W0 (h0.below B) f0 fs0).mono ?_
  rintro e w0 ⟨u0, rfl, y0, bb⟩
  have x0 := y0.ss
  clear y0
  obtain ⟨pu0, cu0, eu⟩ := x0.shape
  subst eu
  have l0 : bl < W0.heap.size := hS0
  have HQ0 : Hid (W0.heap.size ≤ w0.heap.size) := Lib.hid bb.size
  have HB0 : Hid (w.heap.size ≤ W0.heap.size) := Lib.hid B.size
  replace B := B.trans (bb.mono B.size)
  replace G1 := (bb.block _ (by omega)).trans G1
  replace G2 := (bb.block _ (by omega)).trans G2
  replace G3 := (bb.block _ (by omega)).trans G3
  replace hS0 := Nat.lt_of_lt_of_le hS0 bb.size
  clear bb
  have c1_1 := box_cell G1 1
  have c1_2 := box_cell G1 2
  have c1_3 := box_cell G1 3
  have c3_0 := box_cell G3 0
  have z3_0 := box_free G3 0
  have c3_1 := box_cell G3 1
  have z3_1 := box_free G3 1
  have c3_2 := box_cell G3 2
  have z3_2 := box_free G3 2
  simp at c1_1 c1_2 c1_3 c3_0 c3_1 c3_2
  go_wp2_with fail
  obtain ⟨X3, hX3⟩ : ∃ X, X = (((w0.setCell ⟨bl, 0, none⟩ (.slice pu0 D.hands.length cu0)).setCell ⟨bl, 1, none⟩ (.int .i64 D.leader)).setCell ⟨bl, 2, none⟩ (.int .i64 D.trump)) := ⟨_, rfl⟩
  have N3 := (box_set (box_set (box_set G3 0 (.slice pu0 D.hands.length cu0)) 1 (.int .i64 D.leader)) 2 (.int .i64 D.trump))
  rw [← hX3] at N3
  have K3 : ∀ i, i ≠ bl → X3.heap[i]? = w0.heap[i]? := fun i hi => by rw [hX3]; rw [Below.heap_setCell _ _ _ _ hi, Below.heap_setCell _ _ _ _ hi, Below.heap_setCell _ _ _ _ hi]
  have Z3 : X3.heap.size = w0.heap.size := by rw [hX3]; simp [World.setCell]
  have NB : Below w.heap.size w X3 := by rw [hX3]; exact (((B.setCell (show w.heap.size ≤ bl by omega) (.slice pu0 D.hands.length cu0)).setCell (show w.heap.size ≤ bl by omega) (.int .i64 D.leader)).setCell (show w.heap.size ≤ bl by omega) (.int .i64 D.trump))
  have b0 : Below 0 w0 X3 := by rw [hX3]; exact ((((Below.refl 0 w0).setCell (Nat.zero_le _) (.slice pu0 D.hands.length cu0)).setCell (Nat.zero_le _) (.int .i64 D.leader)).setCell (Nat.zero_le _) (.int .i64 D.trump))
  have tX : Touch (fun k => k = bl) w0 X3 := ⟨b0.os, b0.tape, b0.output, b0.size, fun k _ hn => K3 k hn⟩
  clear b0
  replace G1 := (K3 _ (by omega)).trans G1
  replace G2 := (K3 _ (by omega)).trans G2
  replace hS0 : bl < X3.heap.size := by rw [Z3]; exact hS0
  replace x0 := x0.touch tX (fun b h1 h2 => by have := h1.1; have := l0; omega)
  have HZ3 := Lib.hid Z3
  rw [← hX3]
  clear hX3 B G3 K3 Z3 tX c1_1 c1_2 c1_3 c3_0 z3_0 c3_1 z3_1 c3_2 z3_2
  have G3 := N3
  have B := NB
  clear N3 NB
  simp only [List.setIfInBounds_toArray, List.set_cons_zero, List.set_cons_succ] at G3
  refine (toIntS_any _ _ _ X3 (h3.below B) (by omega)).mono ?_
  rintro e w3 ⟨u3, rfl, y3, bb, -⟩
  have x3 := WrIn.of (lo := X3.heap.size) y3 (Nat.le_refl _)
  clear y3
  obtain ⟨pu3, cu3, eu⟩ := x3.shape
  subst eu
  have l3 : bl < X3.heap.size := hS0
  have HQ3 : Hid (X3.heap.size ≤ w3.heap.size) := Lib.hid bb.size
  have HB3 : Hid (w.heap.size ≤ X3.heap.size) := Lib.hid B.size
  replace B := B.trans (bb.mono B.size)
  replace G1 := (bb.block _ (by omega)).trans G1
  replace G2 := (bb.block _ (by omega)).trans G2
  replace G3 := (bb.block _ (by omega)).trans G3
  replace hS0 := Nat.lt_of_lt_of_le hS0 bb.size
  replace x0 := x0.touch (Below.touch (S := fun _ => False) bb) (fun _ _ hx => hx)
  clear bb
  have c1_4 := box_cell G1 4
  have c3_3 := box_cell G3 3
  have z3_3 := box_free G3 3
  simp at c1_4 c3_3
  go_wp2_with fail
  obtain ⟨X4, hX4⟩ : ∃ X, X = (w3.setCell ⟨bl, 3, none⟩ (.slice pu3 D.trick.length cu3)) := ⟨_, rfl⟩
  have N3 := (box_set G3 3 (.slice pu3 D.trick.length cu3))
  rw [← hX4] at N3
  have K4 : ∀ i, i ≠ bl → X4.heap[i]? = w3.heap[i]? := fun i hi => by rw [hX4]; rw [Below.heap_setCell _ _ _ _ hi]
  have Z4 : X4.heap.size = w3.heap.size := by rw [hX4]; simp [World.setCell]
  have NB : Below w.heap.size w X4 := by rw [hX4]; exact (B.setCell (show w.heap.size ≤ bl by omega) (.slice pu3 D.trick.length cu3))
  have b0 : Below 0 w3 X4 := by rw [hX4]; exact ((Below.refl 0 w3).setCell (Nat.zero_le _) (.slice pu3 D.trick.length cu3))
  have tX : Touch (fun k => k = bl) w3 X4 := ⟨b0.os, b0.tape, b0.output, b0.size, fun k _ hn => K4 k hn⟩
  clear b0
  replace G1 := (K4 _ (by omega)).trans G1
  replace G2 := (K4 _ (by omega)).trans G2
  replace hS0 : bl < X4.heap.size := by rw [Z4]; exact hS0
  replace x0 := x0.touch tX (fun b h1 h2 => by have := h1.1; have := l0; omega)
  replace x3 := x3.touch tX (fun b h1 h2 => by have := h1.1; have := l3; omega)
  have HZ4 := Lib.hid Z4
  rw [← hX4]
  clear hX4 B G3 K4 Z4 tX c1_4 c3_3 z3_3
  have G3 := N3
  have B := NB
  clear N3 NB
  simp only [List.setIfInBounds_toArray, List.set_cons_zero, List.set_cons_succ] at G3
  refine (toIntS_any _ _ _ X4 (h4.below B) (by omega)).mono ?_
  rintro e w4 ⟨u4, rfl, y4, bb, -⟩
  have x4 := WrIn.of (lo := X4.heap.size) y4 (Nat.le_refl _)
  clear y4
  obtain ⟨pu4, cu4, eu⟩ := x4.shape
  subst eu
  have l4 : bl < X4.heap.size := hS0
  have HQ4 : Hid (X4.heap.size ≤ w4.heap.size) := Lib.hid bb.size
  have HB4 : Hid (w.heap.size ≤ X4.heap.size) := Lib.hid B.size
  replace B := B.trans (bb.mono B.size)
  replace G1 := (bb.block _ (by omega)).trans G1
  replace G2 := (bb.block _ (by omega)).trans G2
  replace G3 := (bb.block _ (by omega)).trans G3
  replace hS0 := Nat.lt_of_lt_of_le hS0 bb.size
  replace x0 := x0.touch (Below.touch (S := fun _ => False) bb) (fun _ _ hx => hx)
  replace x3 := x3.touch (Below.touch (S := fun _ => False) bb) (fun _ _ hx => hx)
  clear bb
  have c1_5 := box_cell G1 5
  have c3_4 := box_cell G3 4
  have z3_4 := box_free G3 4
  simp at c1_5 c3_4
  go_wp2_with fail
  obtain ⟨X5, hX5⟩ : ∃ X, X = (w4.setCell ⟨bl, 4, none⟩ (.slice pu4 D.won.length cu4)) := ⟨_, rfl⟩
  have N3 := (box_set G3 4 (.slice pu4 D.won.length cu4))
  rw [← hX5] at N3
  have K5 : ∀ i, i ≠ bl → X5.heap[i]? = w4.heap[i]? := fun i hi => by rw [hX5]; rw [Below.heap_setCell _ _ _ _ hi]
  have Z5 : X5.heap.size = w4.heap.size := by rw [hX5]; simp [World.setCell]
  have NB : Below w.heap.size w X5 := by rw [hX5]; exact (B.setCell (show w.heap.size ≤ bl by omega) (.slice pu4 D.won.length cu4))
  have b0 : Below 0 w4 X5 := by rw [hX5]; exact ((Below.refl 0 w4).setCell (Nat.zero_le _) (.slice pu4 D.won.length cu4))
  have tX : Touch (fun k => k = bl) w4 X5 := ⟨b0.os, b0.tape, b0.output, b0.size, fun k _ hn => K5 k hn⟩
  clear b0
  replace G1 := (K5 _ (by omega)).trans G1
  replace G2 := (K5 _ (by omega)).trans G2
  replace hS0 : bl < X5.heap.size := by rw [Z5]; exact hS0
  replace x0 := x0.touch tX (fun b h1 h2 => by have := h1.1; have := l0; omega)
  replace x3 := x3.touch tX (fun b h1 h2 => by have := h1.1; have := l3; omega)
  replace x4 := x4.touch tX (fun b h1 h2 => by have := h1.1; have := l4; omega)
  have HZ5 := Lib.hid Z5
  rw [← hX5]
  clear hX5 B G3 K5 Z5 tX c1_5 c3_4 z3_4
  have G3 := N3
  have B := NB
  clear N3 NB
  simp only [List.setIfInBounds_toArray, List.set_cons_zero, List.set_cons_succ] at G3
  refine (toIntS_any _ _ _ X5 (h5.below B) (by omega)).mono ?_
  rintro e w5 ⟨u5, rfl, y5, bb, -⟩
  have x5 := WrIn.of (lo := X5.heap.size) y5 (Nat.le_refl _)
  clear y5
  obtain ⟨pu5, cu5, eu⟩ := x5.shape
  subst eu
  have l5 : bl < X5.heap.size := hS0
  have HQ5 : Hid (X5.heap.size ≤ w5.heap.size) := Lib.hid bb.size
  have HB5 : Hid (w.heap.size ≤ X5.heap.size) := Lib.hid B.size
  replace B := B.trans (bb.mono B.size)
  replace G1 := (bb.block _ (by omega)).trans G1
  replace G2 := (bb.block _ (by omega)).trans G2
  replace G3 := (bb.block _ (by omega)).trans G3
  replace hS0 := Nat.lt_of_lt_of_le hS0 bb.size
  replace x0 := x0.touch (Below.touch (S := fun _ => False) bb) (fun _ _ hx => hx)
  replace x3 := x3.touch (Below.touch (S := fun _ => False) bb) (fun _ _ hx => hx)
  replace x4 := x4.touch (Below.touch (S := fun _ => False) bb) (fun _ _ hx => hx)
  clear bb
  have c1_6 := box_cell G1 6
  have c3_5 := box_cell G3 5
  have z3_5 := box_free G3 5
  have c3_6 := box_cell G3 6
  have z3_6 := box_free G3 6
  simp at c1_6 c3_5 c3_6
  have G3f := (box_set (box_set G3 5 (.slice pu5 D.points.length cu5)) 6 (.int .i64 D.left))
  simp only [List.setIfInBounds_toArray, List.set_cons_zero, List.set_cons_succ] at G3f
  have G2a : ((w5.setCell ⟨bl, 5, none⟩ (.slice pu5 D.points.length cu5)).setCell ⟨bl, 6, none⟩ (.int .i64 D.left)).heap[br]? = some (.cells #[.slice none 0 0, .int .i64 0, .int .i64 0, .slice none 0 0, .slice none 0 0, .slice none 0 0, .int .i64 0] 31 (0, 0)) := by
    rw [Below.heap_setCell _ _ _ _ (show br ≠ bl by omega), Below.heap_setCell _ _ _ _ (show br ≠ bl by omega)]; exact G2
  obtain ⟨X0, hX0⟩ : ∃ X, X = ((w5.setCell ⟨bl, 5, none⟩ (.slice pu5 D.points.length cu5)).setCell ⟨bl, 6, none⟩ (.int .i64 D.left)) := ⟨_, rfl⟩
  have G3x : X0.heap[bl]? = some (.cells #[.slice pu0 D.hands.length cu0, .int .i64 D.leader, .int .i64 D.trump, .slice pu3 D.trick.length cu3, .slice pu4 D.won.length cu4, .slice pu5 D.points.length cu5, .int .i64 D.left] 31 (0, 0)) := by rw [hX0]; exact G3f
  have G2x : X0.heap[br]? = some (.cells #[.slice none 0 0, .int .i64 0, .int .i64 0, .slice none 0 0, .slice none 0 0, .slice none 0 0, .int .i64 0] 31 (0, 0)) := by rw [hX0]; exact G2a
  have HX0 := Lib.hid hX0
  clear G3f G2a hX0
  go_upto_region 9 with fail
  rw [← HX0.out]
  clear c1_6 c3_5 z3_5 c3_6 z3_6
  refine wp_region_lit ?_
  refine wpList_load_row rfl 31 _ rfl bl rfl 31 _ _ _ G3x Tryd.underlying31 rfl (by kernel_rfl) ?_
  refine wpList_store_row rfl 31 _ _ rfl br #[.slice pu0 D.hands.length cu0, .int .i64 D.leader, .int .i64 D.trump, .slice pu3 D.trick.length cu3, .slice pu4 D.won.length cu4, .slice pu5 D.points.length cu5, .int .i64 D.left] rfl rfl 31 _ G2x (by kernel_rfl) rfl (by simp [Value.oneCell']) ?_
  go_wp2_with fail
  obtain ⟨X, hX⟩ : ∃ X, X = (X0.setRow br #[.slice pu0 D.hands.length cu0, .int .i64 D.leader, .int .i64 D.trump, .slice pu3 D.trick.length cu3, .slice pu4 D.won.length cu4, .slice pu5 D.points.length cu5, .int .i64 D.left]) := ⟨_, rfl⟩
  have N2 := setRow_heap X0 br _ #[.slice pu0 D.hands.length cu0, .int .i64 D.leader, .int .i64 D.trump, .slice pu3 D.trick.length cu3, .slice pu4 D.won.length cu4, .slice pu5 D.points.length cu5, .int .i64 D.left] _ _ G2x
  rw [← hX] at N2
  have K : ∀ i, i ≠ bl → i ≠ br → X.heap[i]? = w5.heap[i]? := fun i hi hr => by rw [hX, HX0.out]; rw [setRow_other _ _ _ _ hr, Below.heap_setCell _ _ _ _ hi, Below.heap_setCell _ _ _ _ hi]
  have Z : X.heap.size = w5.heap.size := by rw [hX, HX0.out]; simp [World.setCell]
  have NB : Below w.heap.size w X := by rw [hX, HX0.out]; exact below_setRow ((B.setCell (show w.heap.size ≤ bl by omega) (.slice pu5 D.points.length cu5)).setCell (show w.heap.size ≤ bl by omega) (.int .i64 D.left)) (by omega) _
  have b0 : Below 0 w5 X := by rw [hX, HX0.out]; exact below_setRow (((Below.refl 0 w5).setCell (Nat.zero_le _) (.slice pu5 D.points.length cu5)).setCell (Nat.zero_le _) (.int .i64 D.left)) (Nat.zero_le _) _
  have tX : Touch (fun k => k = bl ∨ k = br) w5 X := ⟨b0.os, b0.tape, b0.output, b0.size, fun k _ hn => K k (fun e => hn (.inl e)) (fun e => hn (.inr e))⟩
  clear b0
  rw [← hX]
  replace x0 := x0.touch tX (fun b h1 h2 => by have := h1.1; have := l0; omega)
  replace x3 := x3.touch tX (fun b h1 h2 => by have := h1.1; have := l3; omega)
  replace x4 := x4.touch tX (fun b h1 h2 => by have := h1.1; have := l4; omega)
  replace x5 := x5.touch tX (fun b h1 h2 => by have := h1.1; have := l5; omega)
  have q0 := HQ0.out
  have qb0 := HB0.out
  have q3 := HQ3.out
  have qb3 := HB3.out
  have q4 := HQ4.out
  have qb4 := HB4.out
  have q5 := HQ5.out
  have qb5 := HB5.out
  have qz3 := HZ3.out
  have qz4 := HZ4.out
  have qz5 := HZ5.out
  have HWr : WrDeal (In w.heap.size X.heap.size) X (.agg #[.slice pu0 D.hands.length cu0, .int .i64 D.leader, .int .i64 D.trump, .slice pu3 D.trick.length cu3, .slice pu4 D.won.length cu4, .slice pu5 D.points.length cu5, .int .i64 D.left]) D := ⟨pu0, pu3, pu4, pu5, cu0, cu3, cu4, cu5, (In W0.heap.size w0.heap.size), (In X3.heap.size w3.heap.size), (In X4.heap.size w4.heap.size), (In X5.heap.size w5.heap.size), rfl, x0, x3, x4, x5, (fun b hb => by obtain ⟨h1, h2⟩ := hb; constructor <;> omega), (fun b hb => by obtain ⟨h1, h2⟩ := hb; constructor <;> omega), (fun b hb => by obtain ⟨h1, h2⟩ := hb; constructor <;> omega), (fun b hb => by obtain ⟨h1, h2⟩ := hb; constructor <;> omega), (fun b h1 h2 => by obtain ⟨a1, a2⟩ := h1; obtain ⟨a3, a4⟩ := h2; omega), (fun b h1 h2 => by obtain ⟨a1, a2⟩ := h1; obtain ⟨a3, a4⟩ := h2; omega), (fun b h1 h2 => by obtain ⟨a1, a2⟩ := h1; obtain ⟨a3, a4⟩ := h2; omega), (fun b h1 h2 => by obtain ⟨a1, a2⟩ := h1; obtain ⟨a3, a4⟩ := h2; omega), (fun b h1 h2 => by obtain ⟨a1, a2⟩ := h1; obtain ⟨a3, a4⟩ := h2; omega), (fun b h1 h2 => by obtain ⟨a1, a2⟩ := h1; obtain ⟨a3, a4⟩ := h2; omega), wf0, wf1, wf2⟩
  (try simp only [Exit.inBlock, Exit.then]); refine bodyPost_ret (results_cell_row rfl _ _ br _ _ _ _ rfl N2 Tryd.underlying31 rfl (by kernel_rfl)) rfl ?_
  exact ⟨_, rfl, HWr, NB⟩
def MDeal.total (D : MDeal) : Nat := sumLen D.hands + D.trick.length + D.won.length + D.points.length
def MDeal.marked (D : MDeal) (k : Int) : MDeal := { D with hands := marksII (k) D.hands, trick := marksI (k + (sumLen D.hands : Nat)) D.trick.length, won := marksI (k + (sumLen D.hands : Nat) + (D.trick.length : Nat)) D.won.length, points := marksI (k + (sumLen D.hands : Nat) + (D.trick.length : Nat) + (D.won.length : Nat)) D.points.length }
theorem MDeal.total_le {D : MDeal} (hf : D.Few) : D.total ≤ 4194304 := by
  obtain ⟨f0, fs0, f3, f4, f5⟩ := hf
  unfold MDeal.total
  omega
set_option maxRecDepth 100000 in
set_option maxHeartbeats 1000000 in
theorem markDeal_any {S : Nat → Prop} (v : Value) (D : MDeal) (k : Int) (w : World) (h : WrDeal S w v D) (hf : D.Few) (k0 : 0 ≤ k) (k1 : k ≤ 1099400000000) (hS : ∀ b, S b → b < w.heap.size) :
    Calls Tryd.prog 14 #[v, .int .i64 k] w fun e w' => e = .returned (.int .i64 (k + (D.total : Nat))) ∧ WrDeal S w' v (D.marked k) ∧ Touch S w w' := by
  obtain ⟨p0, p3, p4, p5, c0, c3, c4, c5, S0, S3, S4, S5, rfl, h0, h3, h4, h5, s0, s3, s4, s5, d0_1, d0_2, d0_3, d1_2, d1_3, d2_3, wf0, wf1, wf2⟩ := h
  obtain ⟨f0, fs0, f3, f4, f5⟩ := hf
  unfold MDeal.total
  obtain ⟨n0, hn0⟩ : ∃ n, n = sumLen D.hands := ⟨_, rfl⟩
  have Hn0 := Lib.hid hn0
  obtain ⟨n3, hn3⟩ : ∃ n, n = D.trick.length := ⟨_, rfl⟩
  have Hn3 := Lib.hid hn3
  obtain ⟨n4, hn4⟩ : ∃ n, n = D.won.length := ⟨_, rfl⟩
  have Hn4 := Lib.hid hn4
  obtain ⟨n5, hn5⟩ : ∃ n, n = D.points.length := ⟨_, rfl⟩
  have Hn5 := Lib.hid hn5
  have nb0 : n0 ≤ 1048576 := by omega
  have nb3 : n3 ≤ 1048576 := by omega
  have nb4 : n4 ≤ 1048576 := by omega
  have nb5 : n5 ≤ 1048576 := by omega
  clear hn0 hn3 hn4 hn5
  obtain ⟨W0, hW0⟩ : ∃ W, W = w.alloc (.cells #[.slice p0 D.hands.length c0, .int .i64 D.leader, .int .i64 D.trump, .slice p3 D.trick.length c3, .slice p4 D.won.length c4, .slice p5 D.points.length c5, .int .i64 D.left] 31) := ⟨_, rfl⟩
  have G1 : W0.heap[w.heap.size]? = some (.cells #[.slice p0 D.hands.length c0, .int .i64 D.leader, .int .i64 D.trump, .slice p3 D.trick.length c3, .slice p4 D.won.length c4, .slice p5 D.points.length c5, .int .i64 D.left] 31 (0, 0)) := by rw [hW0]; exact heap_alloc_new _ _
  have B : Below w.heap.size w W0 := by rw [hW0]; exact (Below.refl _ _).alloc (Nat.le_refl _) _
  have l1 : w.heap.size < W0.heap.size := by rw [hW0]; simp
  have HW := Lib.hid hW0
  clear hW0
  replace h0 := h0.touch (Below.touch (S := fun _ => False) B) (fun _ _ hx => hx)
  have z0 : ∀ b, S0 b → b < w.heap.size := fun b hb => hS b (s0 b hb)
  replace h3 := h3.touch (Below.touch (S := fun _ => False) B) (fun _ _ hx => hx)
  have z3 : ∀ b, S3 b → b < w.heap.size := fun b hb => hS b (s3 b hb)
  replace h4 := h4.touch (Below.touch (S := fun _ => False) B) (fun _ _ hx => hx)
  have z4 : ∀ b, S4 b → b < w.heap.size := fun b hb => hS b (s4 b hb)
  replace h5 := h5.touch (Below.touch (S := fun _ => False) B) (fun _ _ hx => hx)
  have z5 : ∀ b, S5 b → b < w.heap.size := fun b hb => hS b (s5 b hb)
  have TT : Touch S w W0 := Below.touch B
  go_enter Tryd.func14, Tryd.ntmps14
  go_wp2_with fail
  rw [← HW.out]
  refine (markIntSS_any _ _ (k) _ h0 f0 fs0 (by omega) (by omega)).mono ?_
  rintro e w0 ⟨he, hw0, tt, -⟩
  rw [← Hn0.out] at he
  subst he
  replace G1 := touch_heap tt G1 (fun hb => absurd (z0 _ hb) (Nat.lt_irrefl _))
  replace l1 := Nat.lt_of_lt_of_le l1 tt.size
  replace TT := TT.trans (tt.mono s0)
  replace h3 := h3.touch tt (fun b h1 h2 => d0_1 b h2 h1)
  replace h4 := h4.touch tt (fun b h1 h2 => d0_2 b h2 h1)
  replace h5 := h5.touch tt (fun b h1 h2 => d0_3 b h2 h1)
  clear tt
  have k3 := box_cell G1 3
  simp at k3
  go_wp2_with fail
  refine (markIn h3 (k := k + (n0 : Int)) (by omega) (by omega) (by omega)).mono ?_
  rintro e w3 ⟨he, hw3, tt, -⟩
  rw [← Hn3.out] at he
  subst he
  replace G1 := touch_heap tt G1 (fun hb => absurd (z3 _ hb) (Nat.lt_irrefl _))
  replace l1 := Nat.lt_of_lt_of_le l1 tt.size
  replace TT := TT.trans (tt.mono s3)
  replace hw0 := hw0.touch tt d0_1
  replace h4 := h4.touch tt (fun b h1 h2 => d1_2 b h2 h1)
  replace h5 := h5.touch tt (fun b h1 h2 => d1_3 b h2 h1)
  clear tt
  clear k3
  have k4 := box_cell G1 4
  simp at k4
  go_wp2_with fail
  refine (markIn h4 (k := k + (n0 : Int) + (n3 : Int)) (by omega) (by omega) (by omega)).mono ?_
  rintro e w4 ⟨he, hw4, tt, -⟩
  rw [← Hn4.out] at he
  subst he
  replace G1 := touch_heap tt G1 (fun hb => absurd (z4 _ hb) (Nat.lt_irrefl _))
  replace l1 := Nat.lt_of_lt_of_le l1 tt.size
  replace TT := TT.trans (tt.mono s4)
  replace hw0 := hw0.touch tt d0_2
  replace hw3 := hw3.touch tt d1_2
  replace h5 := h5.touch tt (fun b h1 h2 => d2_3 b h2 h1)
  clear tt
  clear k4
  have k5 := box_cell G1 5
  simp at k5
  go_wp2_with fail
  refine (markIn h5 (k := k + (n0 : Int) + (n3 : Int) + (n4 : Int)) (by omega) (by omega) (by omega)).mono ?_
  rintro e w5 ⟨he, hw5, tt, -⟩
  rw [← Hn5.out] at he
  subst he
  replace G1 := touch_heap tt G1 (fun hb => absurd (z5 _ hb) (Nat.lt_irrefl _))
  replace l1 := Nat.lt_of_lt_of_le l1 tt.size
  replace TT := TT.trans (tt.mono s5)
  replace hw0 := hw0.touch tt d0_3
  replace hw3 := hw3.touch tt d1_3
  replace hw4 := hw4.touch tt d2_3
  clear tt
  clear k5
  go_wp2_with fail
  go_ret
  have hn0 := Hn0.out
  have hn3 := Hn3.out
  have hn4 := Hn4.out
  have hn5 := Hn5.out
  refine ⟨congrArg (fun z => Ending.returned (.int .i64 z)) (show k + (n0 : Int) + (n3 : Int) + (n4 : Int) + (n5 : Int) = k + ((sumLen D.hands + D.trick.length + D.won.length + D.points.length : Nat) : Int) by omega), ?_, TT⟩
  subst hn0
  subst hn3
  subst hn4
  subst hn5
  unfold MDeal.marked
  refine ⟨p0, p3, p4, p5, c0, c3, c4, c5, S0, S3, S4, S5, ?_, ?_, ?_, ?_, ?_, s0, s3, s4, s5, d0_1, d0_2, d0_3, d1_2, d1_3, d2_3, wf0, wf1, wf2⟩
  · simp [marksI_length, marksII_length]
  · have := hw0
    simpa [marksI_length, marksII_length] using this
  · have := hw3
    simpa [marksI_length, marksII_length] using this
  · have := hw4
    simpa [marksI_length, marksII_length] using this
  · have := hw5
    simpa [marksI_length, marksII_length] using this
set_option maxRecDepth 100000 in
set_option maxHeartbeats 1000000 in
theorem heldDeal_any (v : Value) (D : MDeal) (k : Int) (w : World) (h : RdDeal w v (D.marked k)) (hf : D.Few) (k0 : 0 ≤ k) (k1 : k ≤ 1099400000000) :
    Calls Tryd.prog 19 #[v, .int .i64 k] w fun e w' => e = .returned (.int .i64 (k + (D.total : Nat))) ∧ Below w.heap.size w w' := by
  obtain ⟨v0, v3, v4, v5, b3, b4, b5, rfl, h0, h3, h4, h5, wf0, wf1, wf2⟩ := h
  obtain ⟨p0, c0, e0, -⟩ := id h0
  subst e0
  obtain ⟨p3, c3, e3, -⟩ := id h3
  subst e3
  obtain ⟨p4, c4, e4, -⟩ := id h4
  subst e4
  obtain ⟨p5, c5, e5, -⟩ := id h5
  subst e5
  obtain ⟨f0, fs0, f3, f4, f5⟩ := hf
  unfold MDeal.total
  unfold MDeal.marked at *
  dsimp only at *
  skip
  skip
  skip
  simp only [marksI_length, marksII_length] at *
  obtain ⟨n0, hn0⟩ : ∃ n, n = sumLen D.hands := ⟨_, rfl⟩
  have Hn0 := Lib.hid hn0
  obtain ⟨n3, hn3⟩ : ∃ n, n = D.trick.length := ⟨_, rfl⟩
  have Hn3 := Lib.hid hn3
  obtain ⟨n4, hn4⟩ : ∃ n, n = D.won.length := ⟨_, rfl⟩
  have Hn4 := Lib.hid hn4
  obtain ⟨n5, hn5⟩ : ∃ n, n = D.points.length := ⟨_, rfl⟩
  have Hn5 := Lib.hid hn5
  have nb0 : n0 ≤ 1048576 := by omega
  have nb3 : n3 ≤ 1048576 := by omega
  have nb4 : n4 ≤ 1048576 := by omega
  have nb5 : n5 ≤ 1048576 := by omega
  clear hn0 hn3 hn4 hn5
  obtain ⟨W0, hW0⟩ : ∃ W, W = w.alloc (.cells #[.slice p0 D.hands.length c0, .int .i64 D.leader, .int .i64 D.trump, .slice p3 D.trick.length c3, .slice p4 D.won.length c4, .slice p5 D.points.length c5, .int .i64 D.left] 31) := ⟨_, rfl⟩
  have G1 : W0.heap[w.heap.size]? = some (.cells #[.slice p0 D.hands.length c0, .int .i64 D.leader, .int .i64 D.trump, .slice p3 D.trick.length c3, .slice p4 D.won.length c4, .slice p5 D.points.length c5, .int .i64 D.left] 31 (0, 0)) := by rw [hW0]; exact heap_alloc_new _ _
  have B : Below w.heap.size w W0 := by rw [hW0]; exact (Below.refl _ _).alloc (Nat.le_refl _) _
  have l1 : w.heap.size < W0.heap.size := by rw [hW0]; simp
  have HW := Lib.hid hW0
  clear hW0
  go_enter Tryd.func19, Tryd.ntmps19
  go_wp2_with fail
  rw [← HW.out]
  refine (heldIntSS_any _ D.hands (k) _ (by have hx := h0.below B; exact hx) f0 fs0 (by omega) (by omega)).mono ?_
  rintro e w0 ⟨he, bb⟩
  rw [← Hn0.out] at he
  subst he
  replace G1 := (bb.block _ l1).trans G1
  replace l1 := Nat.lt_of_lt_of_le l1 bb.size
  replace B := B.trans (bb.mono B.size)
  clear bb
  have nn0 : decide (k + (n0 : Int) < 0) = false := by simp; omega
  have k3 := box_cell G1 3
  simp at k3
  go_wp2_with fail
  refine (heldIntS_any _ _ (k + (n0 : Int)) D.trick.length _ (by have hx := h3.below B; (try rw [← Hn0.out] at hx); exact hx) (by omega) (by omega) (by omega)).mono ?_
  rintro e _w ⟨he, rfl⟩
  rw [← Hn3.out] at he
  subst he
  have nn3 : decide (k + (n0 : Int) + (n3 : Int) < 0) = false := by simp; omega
  clear k3
  have k4 := box_cell G1 4
  simp at k4
  go_wp2_with fail
  refine (heldIntS_any _ _ (k + (n0 : Int) + (n3 : Int)) D.won.length _ (by have hx := h4.below B; (try rw [← Hn0.out] at hx); (try rw [← Hn3.out] at hx); exact hx) (by omega) (by omega) (by omega)).mono ?_
  rintro e _w ⟨he, rfl⟩
  rw [← Hn4.out] at he
  subst he
  have nn4 : decide (k + (n0 : Int) + (n3 : Int) + (n4 : Int) < 0) = false := by simp; omega
  clear k4
  have k5 := box_cell G1 5
  simp at k5
  go_wp2_with fail
  refine (heldIntS_any _ _ (k + (n0 : Int) + (n3 : Int) + (n4 : Int)) D.points.length _ (by have hx := h5.below B; (try rw [← Hn0.out] at hx); (try rw [← Hn3.out] at hx); (try rw [← Hn4.out] at hx); exact hx) (by omega) (by omega) (by omega)).mono ?_
  rintro e _w ⟨he, rfl⟩
  rw [← Hn5.out] at he
  subst he
  have nn5 : decide (k + (n0 : Int) + (n3 : Int) + (n4 : Int) + (n5 : Int) < 0) = false := by simp; omega
  clear k5
  go_wp2_with fail
  go_ret
  have hn0 := Hn0.out
  have hn3 := Hn3.out
  have hn4 := Hn4.out
  have hn5 := Hn5.out
  exact ⟨congrArg (fun z => Ending.returned (.int .i64 z)) (show k + (n0 : Int) + (n3 : Int) + (n4 : Int) + (n5 : Int) = k + ((sumLen D.hands + D.trick.length + D.won.length + D.points.length : Nat) : Int) by omega), B⟩

end Go.Proofs.YtbojhbhniollaaaDoor
