/-
  The struct Sight: its numbers, what can be read of it; the laws' helpers over it.
-/
import Derived.Test.YtbojhbhniollaaaDoorSzI
import Derived.Laws.Rows
namespace Go.Proofs.YtbojhbhniollaaaDoor
open Go.RowKit

structure MSight where
  me : Int
  hand : List Int
  trick : List Int
  leader : Int
  trump : Int
  sizes : List Int
  won : List Int

/-- The value v is such a struct, with the numbers D. -/
def RdSight (w : World) (v : Value) (D : MSight) : Prop :=
  ∃ (v1 v2 v5 v6 : Value) (b1 b2 b5 b6 : Nat), v = .agg #[.int .i64 D.me, v1, v2, .int .i64 D.leader, .int .i64 D.trump, v5, v6] ∧ RdAt .i64 w v1 D.hand b1 ∧ RdAt .i64 w v2 D.trick b2 ∧ RdAt .i64 w v5 D.sizes b5 ∧ RdAt .i64 w v6 D.won b6 ∧ (Lit.int .i64 D.me).wf = true ∧ (Lit.int .i64 D.leader).wf = true ∧ (Lit.int .i64 D.trump).wf = true
theorem RdSight.below {w w' : World} {v : Value} {D : MSight} (h : RdSight w v D) (hb : Below w.heap.size w w') : RdSight w' v D := by
  obtain ⟨v1, v2, v5, v6, b1, b2, b5, b6, e, h1, h2, h5, h6, wf0, wf3, wf4⟩ := h
  exact ⟨v1, v2, v5, v6, b1, b2, b5, b6, e, h1.below hb, h2.below hb, h5.below hb, h6.below hb, wf0, wf3, wf4⟩
def MSight.Few (D : MSight) : Prop := D.hand.length ≤ 1048576 ∧ D.trick.length ≤ 1048576 ∧ D.sizes.length ≤ 1048576 ∧ D.won.length ≤ 1048576
theorem RdSight.shape {w : World} {v : Value} {D : MSight} (h : RdSight w v D) : ∃ (p1 p2 p5 p6 : Option Addr) (c1 c2 c5 c6 : Nat), v = .agg #[.int .i64 D.me, .slice p1 D.hand.length c1, .slice p2 D.trick.length c2, .int .i64 D.leader, .int .i64 D.trump, .slice p5 D.sizes.length c5, .slice p6 D.won.length c6] := by
  obtain ⟨v1, v2, v5, v6, b1, b2, b5, b6, rfl, h1, h2, h5, h6, wf0, wf3, wf4⟩ := h
  obtain ⟨p1, c1, e1, -⟩ := id h1
  subst e1
  obtain ⟨p2, c2, e2, -⟩ := id h2
  subst e2
  obtain ⟨p5, c5, e5, -⟩ := id h5
  subst e5
  obtain ⟨p6, c6, e6, -⟩ := id h6
  subst e6
  exact ⟨_, _, _, _, _, _, _, _, rfl⟩
theorem SSight_cells {w : World} {b : Nat} {a0 a1 a2 a3 a4 a5 a6 : Value} {t : TypeId} {fr : Nat × Nat} (h : w.heap[b]? = some (.cells #[a0, a1, a2, a3, a4, a5, a6] t fr)) : w.cell? ⟨b, 0, none⟩ = some a0 ∧ w.cell? ⟨b, 1, none⟩ = some a1 ∧ w.cell? ⟨b, 2, none⟩ = some a2 ∧ w.cell? ⟨b, 3, none⟩ = some a3 ∧ w.cell? ⟨b, 4, none⟩ = some a4 ∧ w.cell? ⟨b, 5, none⟩ = some a5 ∧ w.cell? ⟨b, 6, none⟩ = some a6 := by
  simp [World.cell?, h]

set_option linter.unusedVariables false in
set_option maxRecDepth 100000 in
theorem szSight_any (v : Value) (D : MSight) (left : Int) (w : World) (h : RdSight w v D) (hl0 : 0 ≤ left) (hl1 : left ≤ 1048576) :
    Calls Tryd.prog 27 #[v, .int .i64 left] w fun e w' => (∃ r : Int, e = .returned (.int .i64 r) ∧ -1 ≤ r ∧ r ≤ 1048576 ∧ (0 ≤ r → D.Few)) ∧ Below w.heap.size w w' := by
  obtain ⟨v1, v2, v5, v6, b1, b2, b5, b6, rfl, h1, h2, h5, h6, wf0, wf3, wf4⟩ := h
  obtain ⟨p1, c1, e1, hc1, -⟩ := id h1
  obtain ⟨p2, c2, e2, hc2, -⟩ := id h2
  obtain ⟨p5, c5, e5, hc5, -⟩ := id h5
  obtain ⟨p6, c6, e6, hc6, -⟩ := id h6
  have hm1 : D.hand.length ≤ 9223372036854775807 := by have h1 := hc1.1; have h2 := hc1.2.1; unfold maxLen at h2; omega
  have hm2 : D.trick.length ≤ 9223372036854775807 := by have h1 := hc2.1; have h2 := hc2.2.1; unfold maxLen at h2; omega
  have hm5 : D.sizes.length ≤ 9223372036854775807 := by have h1 := hc5.1; have h2 := hc5.2.1; unfold maxLen at h2; omega
  have hm6 : D.won.length ≤ 9223372036854775807 := by have h1 := hc6.1; have h2 := hc6.2.1; unfold maxLen at h2; omega
  clear hc1
  clear hc2
  clear hc5
  clear hc6
  have B0 := fun o => (Below.refl w.heap.size w).alloc (Nat.le_refl _) o
  go_enter Tryd.func27, Tryd.ntmps27
  subst e1
  subst e2
  subst e5
  subst e6
  have HC1 := Lib.hid (fun wx => szIntS_any p1 D.hand.length c1 (left) wx (by omega) (by omega) hm1)
  by_cases hx1 : (left) < D.hand.length
  · rw [if_pos hx1] at HC1
    go_wp2_with fail
    refine (HC1.out _).mono ?_
    rintro e _w ⟨rfl, rfl⟩
    go_wp2_with fail
    go_ret
    exact ⟨⟨-1, rfl, by omega, by omega, fun h => by omega⟩, B0 _⟩
  rw [if_neg hx1] at HC1
  obtain ⟨r1, hr1⟩ : ∃ r, r = (left) - (D.hand.length : Int) := ⟨_, rfl⟩
  rw [← hr1] at HC1
  have g1 : D.hand.length ≤ 1048576 := by omega
  have ra1 : 0 ≤ r1 := by omega
  have rb1 : r1 ≤ 1048576 := by omega
  clear hr1 hx1
  go_wp2_with fail
  refine (HC1.out _).mono ?_
  rintro e _w ⟨rfl, rfl⟩
  clear HC1
  have HC2 := Lib.hid (fun wx => szIntS_any p2 D.trick.length c2 (r1) wx (by omega) (by omega) hm2)
  by_cases hx2 : (r1) < D.trick.length
  · rw [if_pos hx2] at HC2
    go_wp2_with fail
    refine (HC2.out _).mono ?_
    rintro e _w ⟨rfl, rfl⟩
    go_wp2_with fail
    go_ret
    exact ⟨⟨-1, rfl, by omega, by omega, fun h => by omega⟩, B0 _⟩
  rw [if_neg hx2] at HC2
  obtain ⟨r2, hr2⟩ : ∃ r, r = (r1) - (D.trick.length : Int) := ⟨_, rfl⟩
  rw [← hr2] at HC2
  have g2 : D.trick.length ≤ 1048576 := by omega
  have ra2 : 0 ≤ r2 := by omega
  have rb2 : r2 ≤ 1048576 := by omega
  clear hr2 hx2
  go_wp2_with fail
  refine (HC2.out _).mono ?_
  rintro e _w ⟨rfl, rfl⟩
  clear HC2
  have HC5 := Lib.hid (fun wx => szIntS_any p5 D.sizes.length c5 (r2) wx (by omega) (by omega) hm5)
  by_cases hx5 : (r2) < D.sizes.length
  · rw [if_pos hx5] at HC5
    go_wp2_with fail
    refine (HC5.out _).mono ?_
    rintro e _w ⟨rfl, rfl⟩
    go_wp2_with fail
    go_ret
    exact ⟨⟨-1, rfl, by omega, by omega, fun h => by omega⟩, B0 _⟩
  rw [if_neg hx5] at HC5
  obtain ⟨r5, hr5⟩ : ∃ r, r = (r2) - (D.sizes.length : Int) := ⟨_, rfl⟩
  rw [← hr5] at HC5
  have g5 : D.sizes.length ≤ 1048576 := by omega
  have ra5 : 0 ≤ r5 := by omega
  have rb5 : r5 ≤ 1048576 := by omega
  clear hr5 hx5
  go_wp2_with fail
  refine (HC5.out _).mono ?_
  rintro e _w ⟨rfl, rfl⟩
  clear HC5
  have HC6 := Lib.hid (fun wx => szIntS_any p6 D.won.length c6 (r5) wx (by omega) (by omega) hm6)
  by_cases hx6 : (r5) < D.won.length
  · rw [if_pos hx6] at HC6
    go_wp2_with fail
    refine (HC6.out _).mono ?_
    rintro e _w ⟨rfl, rfl⟩
    go_wp2_with fail
    go_ret
    exact ⟨⟨-1, rfl, by omega, by omega, fun h => by omega⟩, B0 _⟩
  rw [if_neg hx6] at HC6
  obtain ⟨r6, hr6⟩ : ∃ r, r = (r5) - (D.won.length : Int) := ⟨_, rfl⟩
  rw [← hr6] at HC6
  have g6 : D.won.length ≤ 1048576 := by omega
  have ra6 : 0 ≤ r6 := by omega
  have rb6 : r6 ≤ 1048576 := by omega
  clear hr6 hx6
  go_wp2_with fail
  refine (HC6.out _).mono ?_
  rintro e _w ⟨rfl, rfl⟩
  clear HC6
  go_wp2_with fail
  go_ret
  exact ⟨⟨r6, rfl, by omega, by omega, fun _ => ⟨g1, g2, g5, g6⟩⟩, B0 _⟩

theorem SSight_three (w : World) (o1 o2 o3 : Obj) : (((w.alloc o1).alloc o2).alloc o3).heap[w.heap.size]? = some o1 ∧ (((w.alloc o1).alloc o2).alloc o3).heap[w.heap.size + 1]? = some o2 ∧ (((w.alloc o1).alloc o2).alloc o3).heap[w.heap.size + 2]? = some o3 := by
  refine ⟨?_, ?_, ?_⟩ <;> show (((w.heap.push o1).push o2).push o3)[_]? = _
  · rw [Array.getElem?_push, if_neg (by simp; omega), Array.getElem?_push, if_neg (by simp)]; simp
  · rw [Array.getElem?_push, if_neg (by simp), Array.getElem?_push, if_pos (by simp)]
  · rw [Array.getElem?_push, if_pos (by simp)]
theorem SSight_cell {w : World} {b : Nat} {c : Array Value} {t : TypeId} {fr : Nat × Nat} (h : w.heap[b]? = some (.cells c t fr)) (i : Nat) : w.cell? ⟨b, i, none⟩ = c[i]? := by
  simp [World.cell?, h]
theorem SSight_free {w : World} {b : Nat} {c : Array Value} {t : TypeId} (h : w.heap[b]? = some (.cells c t (0, 0))) (i : Nat) : w.frozen? ⟨b, i, none⟩ = false := by
  simp [World.frozen?, h]
theorem SSight_set {w : World} {b : Nat} {c : Array Value} {t : TypeId} {fr : Nat × Nat} (h : w.heap[b]? = some (.cells c t fr)) (i : Nat) (v : Value) : (w.setCell ⟨b, i, none⟩ v).heap[b]? = some (.cells (c.setIfInBounds i v) t fr) := by
  simp [World.setCell, Array.getElem?_modify, h]

set_option linter.unusedVariables false in
set_option maxRecDepth 100000 in
set_option maxHeartbeats 1000000 in
theorem toSight_any (v : Value) (D : MSight) (w : World) (h : RdSight w v D) (hf : D.Few) :
    Calls Tryd.prog 29 #[v] w fun e w' => ∃ v', e = .returned v' ∧ RdSight w' v' D ∧ Below w.heap.size w w' := by
  obtain ⟨v1, v2, v5, v6, b1, b2, b5, b6, rfl, h1, h2, h5, h6, wf0, wf3, wf4⟩ := h
  obtain ⟨f1, f2, f5, f6⟩ := hf
  have T := Lib.hid (SSight_three w (.cells #[.int .i64 D.me, v1, v2, .int .i64 D.leader, .int .i64 D.trump, v5, v6] 48) (.cells #[.int .i64 0, .slice none 0 0, .slice none 0 0, .int .i64 0, .int .i64 0, .slice none 0 0, .slice none 0 0] 28) (.cells #[.int .i64 D.me, .slice none 0 0, .slice none 0 0, .int .i64 0, .int .i64 0, .slice none 0 0, .slice none 0 0] 28))
  have B : Below w.heap.size w (((w.alloc (.cells #[.int .i64 D.me, v1, v2, .int .i64 D.leader, .int .i64 D.trump, v5, v6] 48)).alloc (.cells #[.int .i64 0, .slice none 0 0, .slice none 0 0, .int .i64 0, .int .i64 0, .slice none 0 0, .slice none 0 0] 28)).alloc (.cells #[.int .i64 D.me, .slice none 0 0, .slice none 0 0, .int .i64 0, .int .i64 0, .slice none 0 0, .slice none 0 0] 28)) := (((Below.refl _ _).alloc (Nat.le_refl _) _).alloc (by simp) _).alloc (by simp; omega) _
  obtain ⟨W0, hW0⟩ : ∃ W0, W0 = (((w.alloc (.cells #[.int .i64 D.me, v1, v2, .int .i64 D.leader, .int .i64 D.trump, v5, v6] 48)).alloc (.cells #[.int .i64 0, .slice none 0 0, .slice none 0 0, .int .i64 0, .int .i64 0, .slice none 0 0, .slice none 0 0] 28)).alloc (.cells #[.int .i64 D.me, .slice none 0 0, .slice none 0 0, .int .i64 0, .int .i64 0, .slice none 0 0, .slice none 0 0] 28)) := ⟨_, rfl⟩
  obtain ⟨bl, hbl⟩ : ∃ b, b = w.heap.size + 1 + 1 := ⟨_, rfl⟩
  obtain ⟨br, hbr⟩ : ∃ b, b = w.heap.size + 1 := ⟨_, rfl⟩
  have hS0 : bl < W0.heap.size := by rw [hW0, hbl]; simp
  rw [← hW0] at B T
  have HW := Lib.hid hW0
  clear hW0
  obtain ⟨G1, G2, G3⟩ := T.out
  clear T
  have e3 : w.heap.size + 2 = bl := by omega
  rw [← hbr] at G2
  rw [e3] at G3
  have hd1 : w.heap.size < br := by omega
  have hd2 : br < bl := by omega
  have Hbl := Lib.hid hbl
  have Hbr := Lib.hid hbr
  clear hbl hbr e3
  go_enter Tryd.func29, Tryd.ntmps29
  go_wp2_with fail
  rw [← HW.out, ← Hbl.out, ← Hbr.out]
  refine (toIntS_any _ _ _ W0 (h1.below B) (by omega)).mono ?_
  rintro e w1 ⟨u1, rfl, x1, bb1, -⟩
  replace x1 := x1.rd
  obtain ⟨pu1, cu1, eu1, -⟩ := id x1
  subst eu1
  have l1 : bl < W0.heap.size := hS0
  replace B := B.trans (bb1.mono B.size)
  replace G1 := (bb1.block _ (by omega)).trans G1
  replace G2 := (bb1.block _ (by omega)).trans G2
  replace G3 := (bb1.block _ (by omega)).trans G3
  replace hS0 := Nat.lt_of_lt_of_le hS0 bb1.size
  clear bb1
  have c1_0 := SSight_cell G1 0
  have c3_0 := SSight_cell G3 0
  have z3_0 := SSight_free G3 0
  have c1_1 := SSight_cell G1 1
  have c3_1 := SSight_cell G3 1
  have z3_1 := SSight_free G3 1
  have c1_2 := SSight_cell G1 2
  have c3_2 := SSight_cell G3 2
  have z3_2 := SSight_free G3 2
  have c1_3 := SSight_cell G1 3
  have c3_3 := SSight_cell G3 3
  have z3_3 := SSight_free G3 3
  have c1_4 := SSight_cell G1 4
  have c3_4 := SSight_cell G3 4
  have z3_4 := SSight_free G3 4
  have c1_5 := SSight_cell G1 5
  have c3_5 := SSight_cell G3 5
  have z3_5 := SSight_free G3 5
  have c1_6 := SSight_cell G1 6
  have c3_6 := SSight_cell G3 6
  have z3_6 := SSight_free G3 6
  simp at c1_0 c3_0 c1_1 c3_1 c1_2 c3_2 c1_3 c3_3 c1_4 c3_4 c1_5 c3_5 c1_6 c3_6
  go_wp2_with fail
  obtain ⟨X2, hX2⟩ : ∃ X, X = (w1.setCell ⟨bl, 1, none⟩ (.slice pu1 D.hand.length cu1)) := ⟨_, rfl⟩
  have N3 := (SSight_set G3 1 (.slice pu1 D.hand.length cu1))
  rw [← hX2] at N3
  have K2 : ∀ i, i ≠ bl → X2.heap[i]? = w1.heap[i]? := fun i hi => by rw [hX2]; rw [Below.heap_setCell _ _ _ _ hi]
  have Z2 : X2.heap.size = w1.heap.size := by rw [hX2]; simp [World.setCell]
  have NB : Below w.heap.size w X2 := by rw [hX2]; exact (B.setCell (show w.heap.size ≤ bl by omega) (.slice pu1 D.hand.length cu1))
  replace G1 := (K2 _ (by omega)).trans G1
  replace G2 := (K2 _ (by omega)).trans G2
  replace hS0 : bl < X2.heap.size := by rw [Z2]; exact hS0
  replace x1 := x1.keep (fun _ => K2 _ (by omega))
  rw [← hX2]
  clear hX2 B G3 K2 Z2 c3_0 z3_0 c3_1 z3_1 c3_2 z3_2 c3_3 z3_3 c3_4 z3_4 c3_5 z3_5 c3_6 z3_6 c1_0 c1_1 c1_2 c1_3 c1_4 c1_5 c1_6
  have G3 := N3
  have B := NB
  clear N3 NB
  simp only [List.setIfInBounds_toArray, List.set_cons_zero, List.set_cons_succ] at G3
  refine (toIntS_any _ _ _ X2 (h2.below B) (by omega)).mono ?_
  rintro e w2 ⟨u2, rfl, x2, bb2, -⟩
  replace x2 := x2.rd
  obtain ⟨pu2, cu2, eu2, -⟩ := id x2
  subst eu2
  have l2 : bl < X2.heap.size := hS0
  replace B := B.trans (bb2.mono B.size)
  replace G1 := (bb2.block _ (by omega)).trans G1
  replace G2 := (bb2.block _ (by omega)).trans G2
  replace G3 := (bb2.block _ (by omega)).trans G3
  replace hS0 := Nat.lt_of_lt_of_le hS0 bb2.size
  replace x1 := x1.below bb2
  clear bb2
  have c1_0 := SSight_cell G1 0
  have c3_0 := SSight_cell G3 0
  have z3_0 := SSight_free G3 0
  have c1_1 := SSight_cell G1 1
  have c3_1 := SSight_cell G3 1
  have z3_1 := SSight_free G3 1
  have c1_2 := SSight_cell G1 2
  have c3_2 := SSight_cell G3 2
  have z3_2 := SSight_free G3 2
  have c1_3 := SSight_cell G1 3
  have c3_3 := SSight_cell G3 3
  have z3_3 := SSight_free G3 3
  have c1_4 := SSight_cell G1 4
  have c3_4 := SSight_cell G3 4
  have z3_4 := SSight_free G3 4
  have c1_5 := SSight_cell G1 5
  have c3_5 := SSight_cell G3 5
  have z3_5 := SSight_free G3 5
  have c1_6 := SSight_cell G1 6
  have c3_6 := SSight_cell G3 6
  have z3_6 := SSight_free G3 6
  simp at c1_0 c3_0 c1_1 c3_1 c1_2 c3_2 c1_3 c3_3 c1_4 c3_4 c1_5 c3_5 c1_6 c3_6
  go_wp2_with fail
  obtain ⟨X5, hX5⟩ : ∃ X, X = (((w2.setCell ⟨bl, 2, none⟩ (.slice pu2 D.trick.length cu2)).setCell ⟨bl, 3, none⟩ (.int .i64 D.leader)).setCell ⟨bl, 4, none⟩ (.int .i64 D.trump)) := ⟨_, rfl⟩
  have N3 := (SSight_set (SSight_set (SSight_set G3 2 (.slice pu2 D.trick.length cu2)) 3 (.int .i64 D.leader)) 4 (.int .i64 D.trump))
  rw [← hX5] at N3
  have K5 : ∀ i, i ≠ bl → X5.heap[i]? = w2.heap[i]? := fun i hi => by rw [hX5]; rw [Below.heap_setCell _ _ _ _ hi, Below.heap_setCell _ _ _ _ hi, Below.heap_setCell _ _ _ _ hi]
  have Z5 : X5.heap.size = w2.heap.size := by rw [hX5]; simp [World.setCell]
  have NB : Below w.heap.size w X5 := by rw [hX5]; exact (((B.setCell (show w.heap.size ≤ bl by omega) (.slice pu2 D.trick.length cu2)).setCell (show w.heap.size ≤ bl by omega) (.int .i64 D.leader)).setCell (show w.heap.size ≤ bl by omega) (.int .i64 D.trump))
  replace G1 := (K5 _ (by omega)).trans G1
  replace G2 := (K5 _ (by omega)).trans G2
  replace hS0 : bl < X5.heap.size := by rw [Z5]; exact hS0
  replace x1 := x1.keep (fun _ => K5 _ (by omega))
  replace x2 := x2.keep (fun _ => K5 _ (by omega))
  rw [← hX5]
  clear hX5 B G3 K5 Z5 c3_0 z3_0 c3_1 z3_1 c3_2 z3_2 c3_3 z3_3 c3_4 z3_4 c3_5 z3_5 c3_6 z3_6 c1_0 c1_1 c1_2 c1_3 c1_4 c1_5 c1_6
  have G3 := N3
  have B := NB
  clear N3 NB
  simp only [List.setIfInBounds_toArray, List.set_cons_zero, List.set_cons_succ] at G3
  refine (toIntS_any _ _ _ X5 (h5.below B) (by omega)).mono ?_
  rintro e w5 ⟨u5, rfl, x5, bb5, -⟩
  replace x5 := x5.rd
  obtain ⟨pu5, cu5, eu5, -⟩ := id x5
  subst eu5
  have l5 : bl < X5.heap.size := hS0
  replace B := B.trans (bb5.mono B.size)
  replace G1 := (bb5.block _ (by omega)).trans G1
  replace G2 := (bb5.block _ (by omega)).trans G2
  replace G3 := (bb5.block _ (by omega)).trans G3
  replace hS0 := Nat.lt_of_lt_of_le hS0 bb5.size
  replace x1 := x1.below bb5
  replace x2 := x2.below bb5
  clear bb5
  have c1_0 := SSight_cell G1 0
  have c3_0 := SSight_cell G3 0
  have z3_0 := SSight_free G3 0
  have c1_1 := SSight_cell G1 1
  have c3_1 := SSight_cell G3 1
  have z3_1 := SSight_free G3 1
  have c1_2 := SSight_cell G1 2
  have c3_2 := SSight_cell G3 2
  have z3_2 := SSight_free G3 2
  have c1_3 := SSight_cell G1 3
  have c3_3 := SSight_cell G3 3
  have z3_3 := SSight_free G3 3
  have c1_4 := SSight_cell G1 4
  have c3_4 := SSight_cell G3 4
  have z3_4 := SSight_free G3 4
  have c1_5 := SSight_cell G1 5
  have c3_5 := SSight_cell G3 5
  have z3_5 := SSight_free G3 5
  have c1_6 := SSight_cell G1 6
  have c3_6 := SSight_cell G3 6
  have z3_6 := SSight_free G3 6
  simp at c1_0 c3_0 c1_1 c3_1 c1_2 c3_2 c1_3 c3_3 c1_4 c3_4 c1_5 c3_5 c1_6 c3_6
  go_wp2_with fail
  obtain ⟨X6, hX6⟩ : ∃ X, X = (w5.setCell ⟨bl, 5, none⟩ (.slice pu5 D.sizes.length cu5)) := ⟨_, rfl⟩
  have N3 := (SSight_set G3 5 (.slice pu5 D.sizes.length cu5))
  rw [← hX6] at N3
  have K6 : ∀ i, i ≠ bl → X6.heap[i]? = w5.heap[i]? := fun i hi => by rw [hX6]; rw [Below.heap_setCell _ _ _ _ hi]
  have Z6 : X6.heap.size = w5.heap.size := by rw [hX6]; simp [World.setCell]
  have NB : Below w.heap.size w X6 := by rw [hX6]; exact (B.setCell (show w.heap.size ≤ bl by omega) (.slice pu5 D.sizes.length cu5))
  replace G1 := (K6 _ (by omega)).trans G1
  replace G2 := (K6 _ (by omega)).trans G2
  replace hS0 : bl < X6.heap.size := by rw [Z6]; exact hS0
  replace x1 := x1.keep (fun _ => K6 _ (by omega))
  replace x2 := x2.keep (fun _ => K6 _ (by omega))
  replace x5 := x5.keep (fun _ => K6 _ (by omega))
  rw [← hX6]
  clear hX6 B G3 K6 Z6 c3_0 z3_0 c3_1 z3_1 c3_2 z3_2 c3_3 z3_3 c3_4 z3_4 c3_5 z3_5 c3_6 z3_6 c1_0 c1_1 c1_2 c1_3 c1_4 c1_5 c1_6
  have G3 := N3
  have B := NB
  clear N3 NB
  simp only [List.setIfInBounds_toArray, List.set_cons_zero, List.set_cons_succ] at G3
  refine (toIntS_any _ _ _ X6 (h6.below B) (by omega)).mono ?_
  rintro e w6 ⟨u6, rfl, x6, bb6, -⟩
  replace x6 := x6.rd
  obtain ⟨pu6, cu6, eu6, -⟩ := id x6
  subst eu6
  have l6 : bl < X6.heap.size := hS0
  replace B := B.trans (bb6.mono B.size)
  replace G1 := (bb6.block _ (by omega)).trans G1
  replace G2 := (bb6.block _ (by omega)).trans G2
  replace G3 := (bb6.block _ (by omega)).trans G3
  replace hS0 := Nat.lt_of_lt_of_le hS0 bb6.size
  replace x1 := x1.below bb6
  replace x2 := x2.below bb6
  replace x5 := x5.below bb6
  clear bb6
  have c1_0 := SSight_cell G1 0
  have c3_0 := SSight_cell G3 0
  have z3_0 := SSight_free G3 0
  have c1_1 := SSight_cell G1 1
  have c3_1 := SSight_cell G3 1
  have z3_1 := SSight_free G3 1
  have c1_2 := SSight_cell G1 2
  have c3_2 := SSight_cell G3 2
  have z3_2 := SSight_free G3 2
  have c1_3 := SSight_cell G1 3
  have c3_3 := SSight_cell G3 3
  have z3_3 := SSight_free G3 3
  have c1_4 := SSight_cell G1 4
  have c3_4 := SSight_cell G3 4
  have z3_4 := SSight_free G3 4
  have c1_5 := SSight_cell G1 5
  have c3_5 := SSight_cell G3 5
  have z3_5 := SSight_free G3 5
  have c1_6 := SSight_cell G1 6
  have c3_6 := SSight_cell G3 6
  have z3_6 := SSight_free G3 6
  have c2_0 := SSight_cell G2 0
  have z2_0 := SSight_free G2 0
  have c2_1 := SSight_cell G2 1
  have z2_1 := SSight_free G2 1
  have c2_2 := SSight_cell G2 2
  have z2_2 := SSight_free G2 2
  have c2_3 := SSight_cell G2 3
  have z2_3 := SSight_free G2 3
  have c2_4 := SSight_cell G2 4
  have z2_4 := SSight_free G2 4
  have c2_5 := SSight_cell G2 5
  have z2_5 := SSight_free G2 5
  have c2_6 := SSight_cell G2 6
  have z2_6 := SSight_free G2 6
  simp at c1_0 c3_0 c2_0 c1_1 c3_1 c2_1 c1_2 c3_2 c2_2 c1_3 c3_3 c2_3 c1_4 c3_4 c2_4 c1_5 c3_5 c2_5 c1_6 c3_6 c2_6
  go_wp2_with fail
  obtain ⟨X, hX⟩ : ∃ X, X = ((((((((w6.setCell ⟨bl, 6, none⟩ (.slice pu6 D.won.length cu6)).setCell ⟨br, 0, none⟩ (.int .i64 D.me)).setCell ⟨br, 1, none⟩ (.slice pu1 D.hand.length cu1)).setCell ⟨br, 2, none⟩ (.slice pu2 D.trick.length cu2)).setCell ⟨br, 3, none⟩ (.int .i64 D.leader)).setCell ⟨br, 4, none⟩ (.int .i64 D.trump)).setCell ⟨br, 5, none⟩ (.slice pu5 D.sizes.length cu5)).setCell ⟨br, 6, none⟩ (.slice pu6 D.won.length cu6)) := ⟨_, rfl⟩
  have G2a : (w6.setCell ⟨bl, 6, none⟩ (.slice pu6 D.won.length cu6)).heap[br]? = some (.cells #[.int .i64 0, .slice none 0 0, .slice none 0 0, .int .i64 0, .int .i64 0, .slice none 0 0, .slice none 0 0] 28 (0, 0)) := (by rw [Below.heap_setCell _ _ _ _ (show br ≠ bl by omega)]; exact G2)
  have N2 := (SSight_set (SSight_set (SSight_set (SSight_set (SSight_set (SSight_set (SSight_set G2a 0 (.int .i64 D.me)) 1 (.slice pu1 D.hand.length cu1)) 2 (.slice pu2 D.trick.length cu2)) 3 (.int .i64 D.leader)) 4 (.int .i64 D.trump)) 5 (.slice pu5 D.sizes.length cu5)) 6 (.slice pu6 D.won.length cu6))
  rw [← hX] at N2
  have K : ∀ i, i ≠ bl → i ≠ br → X.heap[i]? = w6.heap[i]? := fun i hi hr => by rw [hX]; rw [Below.heap_setCell _ _ _ _ hr, Below.heap_setCell _ _ _ _ hr, Below.heap_setCell _ _ _ _ hr, Below.heap_setCell _ _ _ _ hr, Below.heap_setCell _ _ _ _ hr, Below.heap_setCell _ _ _ _ hr, Below.heap_setCell _ _ _ _ hr, Below.heap_setCell _ _ _ _ hi]
  have Z : X.heap.size = w6.heap.size := by rw [hX]; simp [World.setCell]
  have NB : Below w.heap.size w X := by rw [hX]; exact ((((((((B.setCell (show w.heap.size ≤ bl by omega) (.slice pu6 D.won.length cu6)).setCell (show w.heap.size ≤ br by omega) (.int .i64 D.me)).setCell (show w.heap.size ≤ br by omega) (.slice pu1 D.hand.length cu1)).setCell (show w.heap.size ≤ br by omega) (.slice pu2 D.trick.length cu2)).setCell (show w.heap.size ≤ br by omega) (.int .i64 D.leader)).setCell (show w.heap.size ≤ br by omega) (.int .i64 D.trump)).setCell (show w.heap.size ≤ br by omega) (.slice pu5 D.sizes.length cu5)).setCell (show w.heap.size ≤ br by omega) (.slice pu6 D.won.length cu6))
  rw [← hX]
  simp only [List.setIfInBounds_toArray, List.set_cons_zero, List.set_cons_succ] at N2
  replace x1 := x1.keep (fun _ => K _ (by omega) (by omega))
  replace x2 := x2.keep (fun _ => K _ (by omega) (by omega))
  replace x5 := x5.keep (fun _ => K _ (by omega) (by omega))
  replace x6 := x6.keep (fun _ => K _ (by omega) (by omega))
  (try simp only [Exit.inBlock, Exit.then]); refine bodyPost_ret (results_cell_row rfl _ _ br _ _ _ _ rfl N2 Tryd.underlying28 rfl (by kernel_rfl)) rfl ?_
  exact ⟨_, rfl, ⟨_, _, _, _, _, _, _, _, rfl, x1, x2, x5, x6, wf0, wf3, wf4⟩, NB⟩

set_option linter.unusedVariables false in
set_option maxRecDepth 100000 in
set_option maxHeartbeats 1000000 in
theorem eqSight_t (va vb : Value) (D : MSight) (w : World) (ha : RdSight w va D) (hb : RdSight w vb D) (hf : D.Few) :
    Calls Tryd.prog 12 #[va, vb] w fun e w' => e = .returned (.bool true) ∧ Below w.heap.size w w' := by
  obtain ⟨v1, v2, v5, v6, b1, b2, b5, b6, rfl, h1, h2, h5, h6, wf0, wf3, wf4⟩ := ha
  obtain ⟨y1, y2, y5, y6, d1, d2, d5, d6, rfl, k1, k2, k5, k6, -, -, -⟩ := hb
  obtain ⟨f1, f2, f5, f6⟩ := hf
  have B : Below w.heap.size w ((w.alloc (.cells #[.int .i64 D.me, v1, v2, .int .i64 D.leader, .int .i64 D.trump, v5, v6] 28)).alloc (.cells #[.int .i64 D.me, y1, y2, .int .i64 D.leader, .int .i64 D.trump, y5, y6] 28)) := ((Below.refl _ _).alloc (Nat.le_refl _) _).alloc (by simp) _
  obtain ⟨W0, hW0⟩ : ∃ W0, W0 = ((w.alloc (.cells #[.int .i64 D.me, v1, v2, .int .i64 D.leader, .int .i64 D.trump, v5, v6] 28)).alloc (.cells #[.int .i64 D.me, y1, y2, .int .i64 D.leader, .int .i64 D.trump, y5, y6] 28)) := ⟨_, rfl⟩
  have G := SSight_three w (.cells #[.int .i64 D.me, v1, v2, .int .i64 D.leader, .int .i64 D.trump, v5, v6] 28) (.cells #[.int .i64 D.me, y1, y2, .int .i64 D.leader, .int .i64 D.trump, y5, y6] 28) (.cells #[.int .i64 D.me, y1, y2, .int .i64 D.leader, .int .i64 D.trump, y5, y6] 28)
  have G1 : W0.heap[w.heap.size]? = some (.cells #[.int .i64 D.me, v1, v2, .int .i64 D.leader, .int .i64 D.trump, v5, v6] 28 (0, 0)) := by
    rw [hW0]; show ((w.heap.push _).push _)[_]? = _
    rw [Array.getElem?_push, if_neg (by simp), Array.getElem?_push, if_pos rfl]
  have G2 : W0.heap[w.heap.size + 1]? = some (.cells #[.int .i64 D.me, y1, y2, .int .i64 D.leader, .int .i64 D.trump, y5, y6] 28 (0, 0)) := by
    rw [hW0]; show ((w.heap.push _).push _)[_]? = _
    rw [Array.getElem?_push, if_pos (by simp)]
  have hS0 : w.heap.size + 2 ≤ W0.heap.size := by rw [hW0]; simp
  rw [← hW0] at B
  have HW := Lib.hid hW0
  clear hW0 G
  go_enter Tryd.func12, Tryd.ntmps12
  go_wp2_with fail
  rw [← HW.out]
  refine (eqIntS_t _ _ _ _ _ W0 (h1.below B) (k1.below B) (by omega)).mono ?_
  rintro e w1 ⟨rfl, bb1⟩
  replace B := B.trans (bb1.mono B.size)
  replace G1 := (bb1.block _ (by omega)).trans G1
  replace G2 := (bb1.block _ (by omega)).trans G2
  replace hS0 := Nat.le_trans hS0 bb1.size
  clear bb1
  have c1_0 := SSight_cell G1 0
  have c2_0 := SSight_cell G2 0
  have c1_1 := SSight_cell G1 1
  have c2_1 := SSight_cell G2 1
  have c1_2 := SSight_cell G1 2
  have c2_2 := SSight_cell G2 2
  have c1_3 := SSight_cell G1 3
  have c2_3 := SSight_cell G2 3
  have c1_4 := SSight_cell G1 4
  have c2_4 := SSight_cell G2 4
  have c1_5 := SSight_cell G1 5
  have c2_5 := SSight_cell G2 5
  have c1_6 := SSight_cell G1 6
  have c2_6 := SSight_cell G2 6
  simp at c1_0 c2_0 c1_1 c2_1 c1_2 c2_2 c1_3 c2_3 c1_4 c2_4 c1_5 c2_5 c1_6 c2_6
  go_wp2_with fail
  refine (eqIntS_t _ _ _ _ _ w1 (h2.below B) (k2.below B) (by omega)).mono ?_
  rintro e w2 ⟨rfl, bb2⟩
  replace B := B.trans (bb2.mono B.size)
  replace G1 := (bb2.block _ (by omega)).trans G1
  replace G2 := (bb2.block _ (by omega)).trans G2
  replace hS0 := Nat.le_trans hS0 bb2.size
  clear c1_0 c2_0 c1_1 c2_1 c1_2 c2_2 c1_3 c2_3 c1_4 c2_4 c1_5 c2_5 c1_6 c2_6
  clear bb2
  have c1_0 := SSight_cell G1 0
  have c2_0 := SSight_cell G2 0
  have c1_1 := SSight_cell G1 1
  have c2_1 := SSight_cell G2 1
  have c1_2 := SSight_cell G1 2
  have c2_2 := SSight_cell G2 2
  have c1_3 := SSight_cell G1 3
  have c2_3 := SSight_cell G2 3
  have c1_4 := SSight_cell G1 4
  have c2_4 := SSight_cell G2 4
  have c1_5 := SSight_cell G1 5
  have c2_5 := SSight_cell G2 5
  have c1_6 := SSight_cell G1 6
  have c2_6 := SSight_cell G2 6
  simp at c1_0 c2_0 c1_1 c2_1 c1_2 c2_2 c1_3 c2_3 c1_4 c2_4 c1_5 c2_5 c1_6 c2_6
  go_wp2_with fail
  refine (eqIntS_t _ _ _ _ _ w2 (h5.below B) (k5.below B) (by omega)).mono ?_
  rintro e w5 ⟨rfl, bb5⟩
  replace B := B.trans (bb5.mono B.size)
  replace G1 := (bb5.block _ (by omega)).trans G1
  replace G2 := (bb5.block _ (by omega)).trans G2
  replace hS0 := Nat.le_trans hS0 bb5.size
  clear c1_0 c2_0 c1_1 c2_1 c1_2 c2_2 c1_3 c2_3 c1_4 c2_4 c1_5 c2_5 c1_6 c2_6
  clear bb5
  have c1_0 := SSight_cell G1 0
  have c2_0 := SSight_cell G2 0
  have c1_1 := SSight_cell G1 1
  have c2_1 := SSight_cell G2 1
  have c1_2 := SSight_cell G1 2
  have c2_2 := SSight_cell G2 2
  have c1_3 := SSight_cell G1 3
  have c2_3 := SSight_cell G2 3
  have c1_4 := SSight_cell G1 4
  have c2_4 := SSight_cell G2 4
  have c1_5 := SSight_cell G1 5
  have c2_5 := SSight_cell G2 5
  have c1_6 := SSight_cell G1 6
  have c2_6 := SSight_cell G2 6
  simp at c1_0 c2_0 c1_1 c2_1 c1_2 c2_2 c1_3 c2_3 c1_4 c2_4 c1_5 c2_5 c1_6 c2_6
  go_wp2_with fail
  refine (eqIntS_t _ _ _ _ _ w5 (h6.below B) (k6.below B) (by omega)).mono ?_
  rintro e w6 ⟨rfl, bb6⟩
  replace B := B.trans (bb6.mono B.size)
  replace G1 := (bb6.block _ (by omega)).trans G1
  replace G2 := (bb6.block _ (by omega)).trans G2
  replace hS0 := Nat.le_trans hS0 bb6.size
  clear c1_0 c2_0 c1_1 c2_1 c1_2 c2_2 c1_3 c2_3 c1_4 c2_4 c1_5 c2_5 c1_6 c2_6
  clear bb6
  have c1_0 := SSight_cell G1 0
  have c2_0 := SSight_cell G2 0
  have c1_1 := SSight_cell G1 1
  have c2_1 := SSight_cell G2 1
  have c1_2 := SSight_cell G1 2
  have c2_2 := SSight_cell G2 2
  have c1_3 := SSight_cell G1 3
  have c2_3 := SSight_cell G2 3
  have c1_4 := SSight_cell G1 4
  have c2_4 := SSight_cell G2 4
  have c1_5 := SSight_cell G1 5
  have c2_5 := SSight_cell G2 5
  have c1_6 := SSight_cell G1 6
  have c2_6 := SSight_cell G2 6
  simp at c1_0 c2_0 c1_1 c2_1 c1_2 c2_2 c1_3 c2_3 c1_4 c2_4 c1_5 c2_5 c1_6 c2_6
  go_wp2_with fail
  go_ret
  exact ⟨rfl, B⟩

end Go.Proofs.YtbojhbhniollaaaDoor
