/-
  The struct Peek: its numbers, what can be read of it; the laws' helpers over it.
-/
import Derived.Test.YtmfammgdcdlceaaDoorSzI
import Derived.Laws.Rows
namespace Go.Proofs.YtmfammgdcdlceaaDoor
open Go.RowKit
set_option linter.unusedSimpArgs false

structure MPeek where
  me : Int
  hand : List Int
  top : Int
  heapSize : Int
  stockSize : Int
  sizes : List Int
  turn : Int
  moves : Int

/-- The value v is such a struct, with the numbers D. -/
def RdPeek (w : World) (v : Value) (D : MPeek) : Prop :=
  ∃ (v1 v5 : Value) (b1 b5 : Nat), v = .agg #[.int .i64 D.me, v1, .int .i64 D.top, .int .i64 D.heapSize, .int .i64 D.stockSize, v5, .int .i64 D.turn, .int .i64 D.moves] ∧ RdAt .i64 w v1 D.hand b1 ∧ RdAt .i64 w v5 D.sizes b5 ∧ (Lit.int .i64 D.me).wf = true ∧ (Lit.int .i64 D.top).wf = true ∧ (Lit.int .i64 D.heapSize).wf = true ∧ (Lit.int .i64 D.stockSize).wf = true ∧ (Lit.int .i64 D.turn).wf = true ∧ (Lit.int .i64 D.moves).wf = true
theorem RdPeek.below {w w' : World} {v : Value} {D : MPeek} (h : RdPeek w v D) (hb : Below w.heap.size w w') : RdPeek w' v D := by
  obtain ⟨v1, v5, b1, b5, e, h1, h5, wf0, wf2, wf3, wf4, wf6, wf7⟩ := h
  exact ⟨v1, v5, b1, b5, e, h1.below hb, h5.below hb, wf0, wf2, wf3, wf4, wf6, wf7⟩
def MPeek.Few (D : MPeek) : Prop := D.hand.length ≤ 1048576 ∧ D.sizes.length ≤ 1048576
theorem RdPeek.shape {w : World} {v : Value} {D : MPeek} (h : RdPeek w v D) : ∃ (p1 p5 : Option Addr) (c1 c5 : Nat), v = .agg #[.int .i64 D.me, .slice p1 D.hand.length c1, .int .i64 D.top, .int .i64 D.heapSize, .int .i64 D.stockSize, .slice p5 D.sizes.length c5, .int .i64 D.turn, .int .i64 D.moves] := by
  obtain ⟨v1, v5, b1, b5, rfl, h1, h5, wf0, wf2, wf3, wf4, wf6, wf7⟩ := h
  obtain ⟨p1, c1, e1, -⟩ := id h1
  subst e1
  obtain ⟨p5, c5, e5, -⟩ := id h5
  subst e5
  exact ⟨_, _, _, _, rfl⟩
theorem SPeek_cells {w : World} {b : Nat} {a0 a1 a2 a3 a4 a5 a6 a7 : Value} {t : TypeId} {fr : Nat × Nat} (h : w.heap[b]? = some (.cells #[a0, a1, a2, a3, a4, a5, a6, a7] t fr)) : w.cell? ⟨b, 0, none⟩ = some a0 ∧ w.cell? ⟨b, 1, none⟩ = some a1 ∧ w.cell? ⟨b, 2, none⟩ = some a2 ∧ w.cell? ⟨b, 3, none⟩ = some a3 ∧ w.cell? ⟨b, 4, none⟩ = some a4 ∧ w.cell? ⟨b, 5, none⟩ = some a5 ∧ w.cell? ⟨b, 6, none⟩ = some a6 ∧ w.cell? ⟨b, 7, none⟩ = some a7 := by
  simp [World.cell?, h]

set_option linter.unusedVariables false in
set_option maxRecDepth 100000 in
theorem szPeek_any (v : Value) (D : MPeek) (left : Int) (w : World) (h : RdPeek w v D) (hl0 : 0 ≤ left) (hl1 : left ≤ 1048576) :
    Calls Tryd.prog 15 #[v, .int .i64 left] w fun e w' => (∃ r : Int, e = .returned (.int .i64 r) ∧ -1 ≤ r ∧ r ≤ 1048576 ∧ (0 ≤ r → D.Few)) ∧ Below w.heap.size w w' := by
  obtain ⟨v1, v5, b1, b5, rfl, h1, h5, wf0, wf2, wf3, wf4, wf6, wf7⟩ := h
  obtain ⟨p1, c1, e1, hc1, -⟩ := id h1
  obtain ⟨p5, c5, e5, hc5, -⟩ := id h5
  have hm1 : D.hand.length ≤ 9223372036854775807 := by have h1 := hc1.1; have h2 := hc1.2.1; unfold maxLen at h2; omega
  have hm5 : D.sizes.length ≤ 9223372036854775807 := by have h1 := hc5.1; have h2 := hc5.2.1; unfold maxLen at h2; omega
  clear hc1
  clear hc5
  have B0 := fun o => (Below.refl w.heap.size w).alloc (Nat.le_refl _) o
  go_enter Tryd.func15, Tryd.ntmps15
  subst e1
  subst e5
  have HC1 := Lib.hid (fun wx => szIntS_any p1 D.hand.length c1 (left) wx (by omega) (by omega) hm1)
  by_cases hx1 : (left) < D.hand.length
  · rw [if_pos hx1] at HC1
    go_wp2_with fail
    refine (HC1.out _).mono ?_
    rintro e _w ⟨rfl, rfl⟩
    go_wp2_with fail
    go_ret
    exact ⟨⟨-1, rfl, by omega, by omega, fun h => by omega⟩, B0 _⟩
  rw [if_neg hx1] at HC1
  obtain ⟨r1, hr1⟩ : ∃ r, r = (left) - (D.hand.length : Int) := ⟨_, rfl⟩
  rw [← hr1] at HC1
  have g1 : D.hand.length ≤ 1048576 := by omega
  have ra1 : 0 ≤ r1 := by omega
  have rb1 : r1 ≤ 1048576 := by omega
  clear hr1 hx1
  go_wp2_with fail
  refine (HC1.out _).mono ?_
  rintro e _w ⟨rfl, rfl⟩
  clear HC1
  have HC5 := Lib.hid (fun wx => szIntS_any p5 D.sizes.length c5 (r1) wx (by omega) (by omega) hm5)
  by_cases hx5 : (r1) < D.sizes.length
  · rw [if_pos hx5] at HC5
    go_wp2_with fail
    refine (HC5.out _).mono ?_
    rintro e _w ⟨rfl, rfl⟩
    go_wp2_with fail
    go_ret
    exact ⟨⟨-1, rfl, by omega, by omega, fun h => by omega⟩, B0 _⟩
  rw [if_neg hx5] at HC5
  obtain ⟨r5, hr5⟩ : ∃ r, r = (r1) - (D.sizes.length : Int) := ⟨_, rfl⟩
  rw [← hr5] at HC5
  have g5 : D.sizes.length ≤ 1048576 := by omega
  have ra5 : 0 ≤ r5 := by omega
  have rb5 : r5 ≤ 1048576 := by omega
  clear hr5 hx5
  go_wp2_with fail
  refine (HC5.out _).mono ?_
  rintro e _w ⟨rfl, rfl⟩
  clear HC5
  go_wp2_with fail
  go_ret
  exact ⟨⟨r5, rfl, by omega, by omega, fun _ => ⟨g1, g5⟩⟩, B0 _⟩

theorem SPeek_three (w : World) (o1 o2 o3 : Obj) : (((w.alloc o1).alloc o2).alloc o3).heap[w.heap.size]? = some o1 ∧ (((w.alloc o1).alloc o2).alloc o3).heap[w.heap.size + 1]? = some o2 ∧ (((w.alloc o1).alloc o2).alloc o3).heap[w.heap.size + 2]? = some o3 := by
  refine ⟨?_, ?_, ?_⟩ <;> show (((w.heap.push o1).push o2).push o3)[_]? = _
  · rw [Array.getElem?_push, if_neg (by simp; omega), Array.getElem?_push, if_neg (by simp)]; simp
  · rw [Array.getElem?_push, if_neg (by simp), Array.getElem?_push, if_pos (by simp)]
  · rw [Array.getElem?_push, if_pos (by simp)]
theorem SPeek_cell {w : World} {b : Nat} {c : Array Value} {t : TypeId} {fr : Nat × Nat} (h : w.heap[b]? = some (.cells c t fr)) (i : Nat) : w.cell? ⟨b, i, none⟩ = c[i]? := by
  simp [World.cell?, h]
theorem SPeek_free {w : World} {b : Nat} {c : Array Value} {t : TypeId} (h : w.heap[b]? = some (.cells c t (0, 0))) (i : Nat) : w.frozen? ⟨b, i, none⟩ = false := by
  simp [World.frozen?, h]
theorem SPeek_set {w : World} {b : Nat} {c : Array Value} {t : TypeId} {fr : Nat × Nat} (h : w.heap[b]? = some (.cells c t fr)) (i : Nat) (v : Value) : (w.setCell ⟨b, i, none⟩ v).heap[b]? = some (.cells (c.setIfInBounds i v) t fr) := by
  simp [World.setCell, Array.getElem?_modify, h]

set_option linter.unusedVariables false in
set_option maxRecDepth 100000 in
set_option maxHeartbeats 1000000 in
theorem toPeek_any (v : Value) (D : MPeek) (w : World) (h : RdPeek w v D) (hf : D.Few) :
    Calls Tryd.prog 17 #[v] w fun e w' => ∃ v', e = .returned v' ∧ RdPeek w' v' D ∧ Below w.heap.size w w' := by
  obtain ⟨v1, v5, b1, b5, rfl, h1, h5, wf0, wf2, wf3, wf4, wf6, wf7⟩ := h
  obtain ⟨f1, f5⟩ := hf
  have T := Lib.hid (SPeek_three w (.cells #[.int .i64 D.me, v1, .int .i64 D.top, .int .i64 D.heapSize, .int .i64 D.stockSize, v5, .int .i64 D.turn, .int .i64 D.moves] 32) (.cells #[.int .i64 0, .slice none 0 0, .int .i64 0, .int .i64 0, .int .i64 0, .slice none 0 0, .int .i64 0, .int .i64 0] 35) (.cells #[.int .i64 D.me, .slice none 0 0, .int .i64 0, .int .i64 0, .int .i64 0, .slice none 0 0, .int .i64 0, .int .i64 0] 35))
  have B : Below w.heap.size w (((w.alloc (.cells #[.int .i64 D.me, v1, .int .i64 D.top, .int .i64 D.heapSize, .int .i64 D.stockSize, v5, .int .i64 D.turn, .int .i64 D.moves] 32)).alloc (.cells #[.int .i64 0, .slice none 0 0, .int .i64 0, .int .i64 0, .int .i64 0, .slice none 0 0, .int .i64 0, .int .i64 0] 35)).alloc (.cells #[.int .i64 D.me, .slice none 0 0, .int .i64 0, .int .i64 0, .int .i64 0, .slice none 0 0, .int .i64 0, .int .i64 0] 35)) := (((Below.refl _ _).alloc (Nat.le_refl _) _).alloc (by simp) _).alloc (by simp; omega) _
  obtain ⟨W0, hW0⟩ : ∃ W0, W0 = (((w.alloc (.cells #[.int .i64 D.me, v1, .int .i64 D.top, .int .i64 D.heapSize, .int .i64 D.stockSize, v5, .int .i64 D.turn, .int .i64 D.moves] 32)).alloc (.cells #[.int .i64 0, .slice none 0 0, .int .i64 0, .int .i64 0, .int .i64 0, .slice none 0 0, .int .i64 0, .int .i64 0] 35)).alloc (.cells #[.int .i64 D.me, .slice none 0 0, .int .i64 0, .int .i64 0, .int .i64 0, .slice none 0 0, .int .i64 0, .int .i64 0] 35)) := ⟨_, rfl⟩
  obtain ⟨bl, hbl⟩ : ∃ b, b = w.heap.size + 1 + 1 := ⟨_, rfl⟩
  obtain ⟨br, hbr⟩ : ∃ b, b = w.heap.size + 1 := ⟨_, rfl⟩
  have hS0 : bl < W0.heap.size := by rw [hW0, hbl]; simp
  rw [← hW0] at B T
  have HW := Lib.hid hW0
  clear hW0
  obtain ⟨G1, G2, G3⟩ := T.out
  clear T
  have e3 : w.heap.size + 2 = bl := by omega
  rw [← hbr] at G2
  rw [e3] at G3
  have hd1 : w.heap.size < br := by omega
  have hd2 : br < bl := by omega
  have Hbl := Lib.hid hbl
  have Hbr := Lib.hid hbr
  clear hbl hbr e3
  go_enter Tryd.func17, Tryd.ntmps17
  go_wp2_with fail
  rw [← HW.out, ← Hbl.out, ← Hbr.out]
  refine (toIntS_any _ _ _ W0 (h1.below B) (by omega)).mono ?_
  rintro e w1 ⟨u1, rfl, x1, bb1, -⟩
  replace x1 := x1.rd
  obtain ⟨pu1, cu1, eu1, -⟩ := id x1
  subst eu1
  have l1 : bl < W0.heap.size := hS0
  replace B := B.trans (bb1.mono B.size)
  replace G1 := (bb1.block _ (by omega)).trans G1
  replace G2 := (bb1.block _ (by omega)).trans G2
  replace G3 := (bb1.block _ (by omega)).trans G3
  replace hS0 := Nat.lt_of_lt_of_le hS0 bb1.size
  clear bb1
  have c1_0 := SPeek_cell G1 0
  have c3_0 := SPeek_cell G3 0
  have z3_0 := SPeek_free G3 0
  have c1_1 := SPeek_cell G1 1
  have c3_1 := SPeek_cell G3 1
  have z3_1 := SPeek_free G3 1
  have c1_2 := SPeek_cell G1 2
  have c3_2 := SPeek_cell G3 2
  have z3_2 := SPeek_free G3 2
  have c1_3 := SPeek_cell G1 3
  have c3_3 := SPeek_cell G3 3
  have z3_3 := SPeek_free G3 3
  have c1_4 := SPeek_cell G1 4
  have c3_4 := SPeek_cell G3 4
  have z3_4 := SPeek_free G3 4
  have c1_5 := SPeek_cell G1 5
  have c3_5 := SPeek_cell G3 5
  have z3_5 := SPeek_free G3 5
  have c1_6 := SPeek_cell G1 6
  have c3_6 := SPeek_cell G3 6
  have z3_6 := SPeek_free G3 6
  have c1_7 := SPeek_cell G1 7
  have c3_7 := SPeek_cell G3 7
  have z3_7 := SPeek_free G3 7
  simp at c1_0 c3_0 c1_1 c3_1 c1_2 c3_2 c1_3 c3_3 c1_4 c3_4 c1_5 c3_5 c1_6 c3_6 c1_7 c3_7
  go_wp2_with fail
  obtain ⟨X5, hX5⟩ : ∃ X, X = ((((w1.setCell ⟨bl, 1, none⟩ (.slice pu1 D.hand.length cu1)).setCell ⟨bl, 2, none⟩ (.int .i64 D.top)).setCell ⟨bl, 3, none⟩ (.int .i64 D.heapSize)).setCell ⟨bl, 4, none⟩ (.int .i64 D.stockSize)) := ⟨_, rfl⟩
  have N3 := (SPeek_set (SPeek_set (SPeek_set (SPeek_set G3 1 (.slice pu1 D.hand.length cu1)) 2 (.int .i64 D.top)) 3 (.int .i64 D.heapSize)) 4 (.int .i64 D.stockSize))
  rw [← hX5] at N3
  have K5 : ∀ i, i ≠ bl → X5.heap[i]? = w1.heap[i]? := fun i hi => by rw [hX5]; rw [Below.heap_setCell _ _ _ _ hi, Below.heap_setCell _ _ _ _ hi, Below.heap_setCell _ _ _ _ hi, Below.heap_setCell _ _ _ _ hi]
  have Z5 : X5.heap.size = w1.heap.size := by rw [hX5]; simp [World.setCell]
  have NB : Below w.heap.size w X5 := by rw [hX5]; exact ((((B.setCell (show w.heap.size ≤ bl by omega) (.slice pu1 D.hand.length cu1)).setCell (show w.heap.size ≤ bl by omega) (.int .i64 D.top)).setCell (show w.heap.size ≤ bl by omega) (.int .i64 D.heapSize)).setCell (show w.heap.size ≤ bl by omega) (.int .i64 D.stockSize))
  replace G1 := (K5 _ (by omega)).trans G1
  replace G2 := (K5 _ (by omega)).trans G2
  replace hS0 : bl < X5.heap.size := by rw [Z5]; exact hS0
  replace x1 := x1.keep (fun _ => K5 _ (by omega))
  rw [← hX5]
  clear hX5 B G3 K5 Z5 c3_0 z3_0 c3_1 z3_1 c3_2 z3_2 c3_3 z3_3 c3_4 z3_4 c3_5 z3_5 c3_6 z3_6 c3_7 z3_7 c1_0 c1_1 c1_2 c1_3 c1_4 c1_5 c1_6 c1_7
  have G3 := N3
  have B := NB
  clear N3 NB
  simp only [List.setIfInBounds_toArray, List.set_cons_zero, List.set_cons_succ] at G3
  refine (toIntS_any _ _ _ X5 (h5.below B) (by omega)).mono ?_
  rintro e w5 ⟨u5, rfl, x5, bb5, -⟩
  replace x5 := x5.rd
  obtain ⟨pu5, cu5, eu5, -⟩ := id x5
  subst eu5
  have l5 : bl < X5.heap.size := hS0
  replace B := B.trans (bb5.mono B.size)
  replace G1 := (bb5.block _ (by omega)).trans G1
  replace G2 := (bb5.block _ (by omega)).trans G2
  replace G3 := (bb5.block _ (by omega)).trans G3
  replace hS0 := Nat.lt_of_lt_of_le hS0 bb5.size
  replace x1 := x1.below bb5
  clear bb5
  have c1_0 := SPeek_cell G1 0
  have c3_0 := SPeek_cell G3 0
  have z3_0 := SPeek_free G3 0
  have c1_1 := SPeek_cell G1 1
  have c3_1 := SPeek_cell G3 1
  have z3_1 := SPeek_free G3 1
  have c1_2 := SPeek_cell G1 2
  have c3_2 := SPeek_cell G3 2
  have z3_2 := SPeek_free G3 2
  have c1_3 := SPeek_cell G1 3
  have c3_3 := SPeek_cell G3 3
  have z3_3 := SPeek_free G3 3
  have c1_4 := SPeek_cell G1 4
  have c3_4 := SPeek_cell G3 4
  have z3_4 := SPeek_free G3 4
  have c1_5 := SPeek_cell G1 5
  have c3_5 := SPeek_cell G3 5
  have z3_5 := SPeek_free G3 5
  have c1_6 := SPeek_cell G1 6
  have c3_6 := SPeek_cell G3 6
  have z3_6 := SPeek_free G3 6
  have c1_7 := SPeek_cell G1 7
  have c3_7 := SPeek_cell G3 7
  have z3_7 := SPeek_free G3 7
  have c2_0 := SPeek_cell G2 0
  have z2_0 := SPeek_free G2 0
  have c2_1 := SPeek_cell G2 1
  have z2_1 := SPeek_free G2 1
  have c2_2 := SPeek_cell G2 2
  have z2_2 := SPeek_free G2 2
  have c2_3 := SPeek_cell G2 3
  have z2_3 := SPeek_free G2 3
  have c2_4 := SPeek_cell G2 4
  have z2_4 := SPeek_free G2 4
  have c2_5 := SPeek_cell G2 5
  have z2_5 := SPeek_free G2 5
  have c2_6 := SPeek_cell G2 6
  have z2_6 := SPeek_free G2 6
  have c2_7 := SPeek_cell G2 7
  have z2_7 := SPeek_free G2 7
  simp at c1_0 c3_0 c2_0 c1_1 c3_1 c2_1 c1_2 c3_2 c2_2 c1_3 c3_3 c2_3 c1_4 c3_4 c2_4 c1_5 c3_5 c2_5 c1_6 c3_6 c2_6 c1_7 c3_7 c2_7
  go_wp2_with fail
  obtain ⟨X, hX⟩ : ∃ X, X = (((((((((((w5.setCell ⟨bl, 5, none⟩ (.slice pu5 D.sizes.length cu5)).setCell ⟨bl, 6, none⟩ (.int .i64 D.turn)).setCell ⟨bl, 7, none⟩ (.int .i64 D.moves)).setCell ⟨br, 0, none⟩ (.int .i64 D.me)).setCell ⟨br, 1, none⟩ (.slice pu1 D.hand.length cu1)).setCell ⟨br, 2, none⟩ (.int .i64 D.top)).setCell ⟨br, 3, none⟩ (.int .i64 D.heapSize)).setCell ⟨br, 4, none⟩ (.int .i64 D.stockSize)).setCell ⟨br, 5, none⟩ (.slice pu5 D.sizes.length cu5)).setCell ⟨br, 6, none⟩ (.int .i64 D.turn)).setCell ⟨br, 7, none⟩ (.int .i64 D.moves)) := ⟨_, rfl⟩
  have G2a : (((w5.setCell ⟨bl, 5, none⟩ (.slice pu5 D.sizes.length cu5)).setCell ⟨bl, 6, none⟩ (.int .i64 D.turn)).setCell ⟨bl, 7, none⟩ (.int .i64 D.moves)).heap[br]? = some (.cells #[.int .i64 0, .slice none 0 0, .int .i64 0, .int .i64 0, .int .i64 0, .slice none 0 0, .int .i64 0, .int .i64 0] 35 (0, 0)) := (by rw [Below.heap_setCell _ _ _ _ (show br ≠ bl by omega), Below.heap_setCell _ _ _ _ (show br ≠ bl by omega), Below.heap_setCell _ _ _ _ (show br ≠ bl by omega)]; exact G2)
  have N2 := (SPeek_set (SPeek_set (SPeek_set (SPeek_set (SPeek_set (SPeek_set (SPeek_set (SPeek_set G2a 0 (.int .i64 D.me)) 1 (.slice pu1 D.hand.length cu1)) 2 (.int .i64 D.top)) 3 (.int .i64 D.heapSize)) 4 (.int .i64 D.stockSize)) 5 (.slice pu5 D.sizes.length cu5)) 6 (.int .i64 D.turn)) 7 (.int .i64 D.moves))
  rw [← hX] at N2
  have K : ∀ i, i ≠ bl → i ≠ br → X.heap[i]? = w5.heap[i]? := fun i hi hr => by rw [hX]; rw [Below.heap_setCell _ _ _ _ hr, Below.heap_setCell _ _ _ _ hr, Below.heap_setCell _ _ _ _ hr, Below.heap_setCell _ _ _ _ hr, Below.heap_setCell _ _ _ _ hr, Below.heap_setCell _ _ _ _ hr, Below.heap_setCell _ _ _ _ hr, Below.heap_setCell _ _ _ _ hr, Below.heap_setCell _ _ _ _ hi, Below.heap_setCell _ _ _ _ hi, Below.heap_setCell _ _ _ _ hi]
  have Z : X.heap.size = w5.heap.size := by rw [hX]; simp [World.setCell]
  have NB : Below w.heap.size w X := by rw [hX]; exact (((((((((((B.setCell (show w.heap.size ≤ bl by omega) (.slice pu5 D.sizes.length cu5)).setCell (show w.heap.size ≤ bl by omega) (.int .i64 D.turn)).setCell (show w.heap.size ≤ bl by omega) (.int .i64 D.moves)).setCell (show w.heap.size ≤ br by omega) (.int .i64 D.me)).setCell (show w.heap.size ≤ br by omega) (.slice pu1 D.hand.length cu1)).setCell (show w.heap.size ≤ br by omega) (.int .i64 D.top)).setCell (show w.heap.size ≤ br by omega) (.int .i64 D.heapSize)).setCell (show w.heap.size ≤ br by omega) (.int .i64 D.stockSize)).setCell (show w.heap.size ≤ br by omega) (.slice pu5 D.sizes.length cu5)).setCell (show w.heap.size ≤ br by omega) (.int .i64 D.turn)).setCell (show w.heap.size ≤ br by omega) (.int .i64 D.moves))
  rw [← hX]
  simp only [List.setIfInBounds_toArray, List.set_cons_zero, List.set_cons_succ] at N2
  replace x1 := x1.keep (fun _ => K _ (by omega) (by omega))
  replace x5 := x5.keep (fun _ => K _ (by omega) (by omega))
  (try simp only [Exit.inBlock, Exit.then]); refine bodyPost_ret (results_cell_row rfl _ _ br _ _ _ _ rfl N2 Tryd.underlying35 rfl (by kernel_rfl)) rfl ?_
  exact ⟨_, rfl, ⟨_, _, _, _, rfl, x1, x5, wf0, wf2, wf3, wf4, wf6, wf7⟩, NB⟩

set_option linter.unusedVariables false in
set_option maxRecDepth 100000 in
set_option maxHeartbeats 1000000 in
theorem eqPeek_t (va vb : Value) (D : MPeek) (w : World) (ha : RdPeek w va D) (hb : RdPeek w vb D) (hf : D.Few) :
    Calls Tryd.prog 19 #[va, vb] w fun e w' => e = .returned (.bool true) ∧ Below w.heap.size w w' := by
  obtain ⟨v1, v5, b1, b5, rfl, h1, h5, wf0, wf2, wf3, wf4, wf6, wf7⟩ := ha
  obtain ⟨y1, y5, d1, d5, rfl, k1, k5, -, -, -, -, -, -⟩ := hb
  obtain ⟨f1, f5⟩ := hf
  have B : Below w.heap.size w ((w.alloc (.cells #[.int .i64 D.me, v1, .int .i64 D.top, .int .i64 D.heapSize, .int .i64 D.stockSize, v5, .int .i64 D.turn, .int .i64 D.moves] 35)).alloc (.cells #[.int .i64 D.me, y1, .int .i64 D.top, .int .i64 D.heapSize, .int .i64 D.stockSize, y5, .int .i64 D.turn, .int .i64 D.moves] 35)) := ((Below.refl _ _).alloc (Nat.le_refl _) _).alloc (by simp) _
  obtain ⟨W0, hW0⟩ : ∃ W0, W0 = ((w.alloc (.cells #[.int .i64 D.me, v1, .int .i64 D.top, .int .i64 D.heapSize, .int .i64 D.stockSize, v5, .int .i64 D.turn, .int .i64 D.moves] 35)).alloc (.cells #[.int .i64 D.me, y1, .int .i64 D.top, .int .i64 D.heapSize, .int .i64 D.stockSize, y5, .int .i64 D.turn, .int .i64 D.moves] 35)) := ⟨_, rfl⟩
  have G := SPeek_three w (.cells #[.int .i64 D.me, v1, .int .i64 D.top, .int .i64 D.heapSize, .int .i64 D.stockSize, v5, .int .i64 D.turn, .int .i64 D.moves] 35) (.cells #[.int .i64 D.me, y1, .int .i64 D.top, .int .i64 D.heapSize, .int .i64 D.stockSize, y5, .int .i64 D.turn, .int .i64 D.moves] 35) (.cells #[.int .i64 D.me, y1, .int .i64 D.top, .int .i64 D.heapSize, .int .i64 D.stockSize, y5, .int .i64 D.turn, .int .i64 D.moves] 35)
  have G1 : W0.heap[w.heap.size]? = some (.cells #[.int .i64 D.me, v1, .int .i64 D.top, .int .i64 D.heapSize, .int .i64 D.stockSize, v5, .int .i64 D.turn, .int .i64 D.moves] 35 (0, 0)) := by
    rw [hW0]; show ((w.heap.push _).push _)[_]? = _
    rw [Array.getElem?_push, if_neg (by simp), Array.getElem?_push, if_pos rfl]
  have G2 : W0.heap[w.heap.size + 1]? = some (.cells #[.int .i64 D.me, y1, .int .i64 D.top, .int .i64 D.heapSize, .int .i64 D.stockSize, y5, .int .i64 D.turn, .int .i64 D.moves] 35 (0, 0)) := by
    rw [hW0]; show ((w.heap.push _).push _)[_]? = _
    rw [Array.getElem?_push, if_pos (by simp)]
  have hS0 : w.heap.size + 2 ≤ W0.heap.size := by rw [hW0]; simp
  rw [← hW0] at B
  have HW := Lib.hid hW0
  clear hW0 G
  go_enter Tryd.func19, Tryd.ntmps19
  go_wp2_with fail
  rw [← HW.out]
  refine (eqIntS_t _ _ _ _ _ W0 (h1.below B) (k1.below B) (by omega)).mono ?_
  rintro e w1 ⟨rfl, bb1⟩
  replace B := B.trans (bb1.mono B.size)
  replace G1 := (bb1.block _ (by omega)).trans G1
  replace G2 := (bb1.block _ (by omega)).trans G2
  replace hS0 := Nat.le_trans hS0 bb1.size
  clear bb1
  have c1_0 := SPeek_cell G1 0
  have c2_0 := SPeek_cell G2 0
  have c1_1 := SPeek_cell G1 1
  have c2_1 := SPeek_cell G2 1
  have c1_2 := SPeek_cell G1 2
  have c2_2 := SPeek_cell G2 2
  have c1_3 := SPeek_cell G1 3
  have c2_3 := SPeek_cell G2 3
  have c1_4 := SPeek_cell G1 4
  have c2_4 := SPeek_cell G2 4
  have c1_5 := SPeek_cell G1 5
  have c2_5 := SPeek_cell G2 5
  have c1_6 := SPeek_cell G1 6
  have c2_6 := SPeek_cell G2 6
  have c1_7 := SPeek_cell G1 7
  have c2_7 := SPeek_cell G2 7
  simp at c1_0 c2_0 c1_1 c2_1 c1_2 c2_2 c1_3 c2_3 c1_4 c2_4 c1_5 c2_5 c1_6 c2_6 c1_7 c2_7
  go_wp2_with fail
  refine (eqIntS_t _ _ _ _ _ w1 (h5.below B) (k5.below B) (by omega)).mono ?_
  rintro e w5 ⟨rfl, bb5⟩
  replace B := B.trans (bb5.mono B.size)
  replace G1 := (bb5.block _ (by omega)).trans G1
  replace G2 := (bb5.block _ (by omega)).trans G2
  replace hS0 := Nat.le_trans hS0 bb5.size
  clear c1_0 c2_0 c1_1 c2_1 c1_2 c2_2 c1_3 c2_3 c1_4 c2_4 c1_5 c2_5 c1_6 c2_6 c1_7 c2_7
  clear bb5
  have c1_0 := SPeek_cell G1 0
  have c2_0 := SPeek_cell G2 0
  have c1_1 := SPeek_cell G1 1
  have c2_1 := SPeek_cell G2 1
  have c1_2 := SPeek_cell G1 2
  have c2_2 := SPeek_cell G2 2
  have c1_3 := SPeek_cell G1 3
  have c2_3 := SPeek_cell G2 3
  have c1_4 := SPeek_cell G1 4
  have c2_4 := SPeek_cell G2 4
  have c1_5 := SPeek_cell G1 5
  have c2_5 := SPeek_cell G2 5
  have c1_6 := SPeek_cell G1 6
  have c2_6 := SPeek_cell G2 6
  have c1_7 := SPeek_cell G1 7
  have c2_7 := SPeek_cell G2 7
  simp at c1_0 c2_0 c1_1 c2_1 c1_2 c2_2 c1_3 c2_3 c1_4 c2_4 c1_5 c2_5 c1_6 c2_6 c1_7 c2_7
  go_wp2_with fail
  go_ret
  exact ⟨rfl, B⟩

end Go.Proofs.YtmfammgdcdlceaaDoor
