/-
  The struct Peek: its numbers, what can be read of it; the laws' helpers over it.
-/
import Derived.Test.YtoeobpdgfhgpiaaGreatDoorSzI
import Derived.Laws.Rows
namespace Go.Proofs.YtoeobpdgfhgpiaaGreatDoor
open Go.RowKit

structure MPeek where
  me : Int
  hand : List Int
  top : Int
  heapSize : Int
  stockSize : Int
  sizes : List Int
  turn : Int
  moves : Int

/-- The value v is such a struct, with the numbers D. -/
def RdPeek (w : World) (v : Value) (D : MPeek) : Prop :=
  ∃ (v1 v5 : Value) (b1 b5 : Nat), v = .agg #[.int .i64 D.me, v1, .int .i64 D.top, .int .i64 D.heapSize, .int .i64 D.stockSize, v5, .int .i64 D.turn, .int .i64 D.moves] ∧ RdAt .i64 w v1 D.hand b1 ∧ RdAt .i64 w v5 D.sizes b5 ∧ (Lit.int .i64 D.me).wf = true ∧ (Lit.int .i64 D.top).wf = true ∧ (Lit.int .i64 D.heapSize).wf = true ∧ (Lit.int .i64 D.stockSize).wf = true ∧ (Lit.int .i64 D.turn).wf = true ∧ (Lit.int .i64 D.moves).wf = true
theorem RdPeek.below {w w' : World} {v : Value} {D : MPeek} (h : RdPeek w v D) (hb : Below w.heap.size w w') : RdPeek w' v D := by
  obtain ⟨v1, v5, b1, b5, e, h1, h5, wf0, wf2, wf3, wf4, wf6, wf7⟩ := h
  exact ⟨v1, v5, b1, b5, e, h1.below hb, h5.below hb, wf0, wf2, wf3, wf4, wf6, wf7⟩
def MPeek.Few (D : MPeek) : Prop := D.hand.length ≤ 1048576 ∧ D.sizes.length ≤ 1048576
theorem RdPeek.shape {w : World} {v : Value} {D : MPeek} (h : RdPeek w v D) : ∃ (p1 p5 : Option Addr) (c1 c5 : Nat), v = .agg #[.int .i64 D.me, .slice p1 D.hand.length c1, .int .i64 D.top, .int .i64 D.heapSize, .int .i64 D.stockSize, .slice p5 D.sizes.length c5, .int .i64 D.turn, .int .i64 D.moves] := by
  obtain ⟨v1, v5, b1, b5, rfl, h1, h5, wf0, wf2, wf3, wf4, wf6, wf7⟩ := h
  obtain ⟨p1, c1, e1, -⟩ := id h1
  subst e1
  obtain ⟨p5, c5, e5, -⟩ := id h5
  subst e5
  exact ⟨_, _, _, _, rfl⟩
theorem SPeek_cells {w : World} {b : Nat} {a0 a1 a2 a3 a4 a5 a6 a7 : Value} {t : TypeId} {fr : Nat × Nat} (h : w.heap[b]? = some (.cells #[a0, a1, a2, a3, a4, a5, a6, a7] t fr)) : w.cell? ⟨b, 0, none⟩ = some a0 ∧ w.cell? ⟨b, 1, none⟩ = some a1 ∧ w.cell? ⟨b, 2, none⟩ = some a2 ∧ w.cell? ⟨b, 3, none⟩ = some a3 ∧ w.cell? ⟨b, 4, none⟩ = some a4 ∧ w.cell? ⟨b, 5, none⟩ = some a5 ∧ w.cell? ⟨b, 6, none⟩ = some a6 ∧ w.cell? ⟨b, 7, none⟩ = some a7 := by
  simp [World.cell?, h]

theorem SPeek_three (w : World) (o1 o2 o3 : Obj) : (((w.alloc o1).alloc o2).alloc o3).heap[w.heap.size]? = some o1 ∧ (((w.alloc o1).alloc o2).alloc o3).heap[w.heap.size + 1]? = some o2 ∧ (((w.alloc o1).alloc o2).alloc o3).heap[w.heap.size + 2]? = some o3 := by
  refine ⟨?_, ?_, ?_⟩ <;> show (((w.heap.push o1).push o2).push o3)[_]? = _
  · rw [Array.getElem?_push, if_neg (by simp; omega), Array.getElem?_push, if_neg (by simp)]; simp
  · rw [Array.getElem?_push, if_neg (by simp), Array.getElem?_push, if_pos (by simp)]
  · rw [Array.getElem?_push, if_pos (by simp)]
theorem SPeek_cell {w : World} {b : Nat} {c : Array Value} {t : TypeId} {fr : Nat × Nat} (h : w.heap[b]? = some (.cells c t fr)) (i : Nat) : w.cell? ⟨b, i, none⟩ = c[i]? := by
  simp [World.cell?, h]
theorem SPeek_free {w : World} {b : Nat} {c : Array Value} {t : TypeId} (h : w.heap[b]? = some (.cells c t (0, 0))) (i : Nat) : w.frozen? ⟨b, i, none⟩ = false := by
  simp [World.frozen?, h]
theorem SPeek_set {w : World} {b : Nat} {c : Array Value} {t : TypeId} {fr : Nat × Nat} (h : w.heap[b]? = some (.cells c t fr)) (i : Nat) (v : Value) : (w.setCell ⟨b, i, none⟩ v).heap[b]? = some (.cells (c.setIfInBounds i v) t fr) := by
  simp [World.setCell, Array.getElem?_modify, h]

set_option linter.unusedVariables false in
set_option maxRecDepth 100000 in
set_option maxHeartbeats 1000000 in
theorem eqPeek_t (va vb : Value) (D : MPeek) (w : World) (ha : RdPeek w va D) (hb : RdPeek w vb D) (hf : D.Few) :
    Calls Tryz.prog 9 #[va, vb] w fun e w' => e = .returned (.bool true) ∧ Below w.heap.size w w' := by
  obtain ⟨v1, v5, b1, b5, rfl, h1, h5, wf0, wf2, wf3, wf4, wf6, wf7⟩ := ha
  obtain ⟨y1, y5, d1, d5, rfl, k1, k5, -, -, -, -, -, -⟩ := hb
  obtain ⟨f1, f5⟩ := hf
  have B : Below w.heap.size w ((w.alloc (.cells #[.int .i64 D.me, v1, .int .i64 D.top, .int .i64 D.heapSize, .int .i64 D.stockSize, v5, .int .i64 D.turn, .int .i64 D.moves] 30)).alloc (.cells #[.int .i64 D.me, y1, .int .i64 D.top, .int .i64 D.heapSize, .int .i64 D.stockSize, y5, .int .i64 D.turn, .int .i64 D.moves] 30)) := ((Below.refl _ _).alloc (Nat.le_refl _) _).alloc (by simp) _
  obtain ⟨W0, hW0⟩ : ∃ W0, W0 = ((w.alloc (.cells #[.int .i64 D.me, v1, .int .i64 D.top, .int .i64 D.heapSize, .int .i64 D.stockSize, v5, .int .i64 D.turn, .int .i64 D.moves] 30)).alloc (.cells #[.int .i64 D.me, y1, .int .i64 D.top, .int .i64 D.heapSize, .int .i64 D.stockSize, y5, .int .i64 D.turn, .int .i64 D.moves] 30)) := ⟨_, rfl⟩
  have G := SPeek_three w (.cells #[.int .i64 D.me, v1, .int .i64 D.top, .int .i64 D.heapSize, .int .i64 D.stockSize, v5, .int .i64 D.turn, .int .i64 D.moves] 30) (.cells #[.int .i64 D.me, y1, .int .i64 D.top, .int .i64 D.heapSize, .int .i64 D.stockSize, y5, .int .i64 D.turn, .int .i64 D.moves] 30) (.cells #[.int .i64 D.me, y1, .int .i64 D.top, .int .i64 D.heapSize, .int .i64 D.stockSize, y5, .int .i64 D.turn, .int .i64 D.moves] 30)
  have G1 : W0.heap[w.heap.size]? = some (.cells #[.int .i64 D.me, v1, .int .i64 D.top, .int .i64 D.heapSize, .int .i64 D.stockSize, v5, .int .i64 D.turn, .int .i64 D.moves] 30 (0, 0)) := by
    rw [hW0]; show ((w.heap.push _).push _)[_]? = _
    rw [Array.getElem?_push, if_neg (by simp), Array.getElem?_push, if_pos rfl]
  have G2 : W0.heap[w.heap.size + 1]? = some (.cells #[.int .i64 D.me, y1, .int .i64 D.top, .int .i64 D.heapSize, .int .i64 D.stockSize, y5, .int .i64 D.turn, .int .i64 D.moves] 30 (0, 0)) := by
    rw [hW0]; show ((w.heap.push _).push _)[_]? = _
    rw [Array.getElem?_push, if_pos (by simp)]
  have hS0 : w.heap.size + 2 ≤ W0.heap.size := by rw [hW0]; simp
  rw [← hW0] at B
  have HW := Lib.hid hW0
  clear hW0 G
  go_enter Tryz.func9, Tryz.ntmps9
  go_wp2_with fail
  rw [← HW.out]
  refine (eqIntS_t _ _ _ _ _ W0 (h1.below B) (k1.below B) (by omega)).mono ?_
  rintro e w1 ⟨rfl, bb1⟩
  replace B := B.trans (bb1.mono B.size)
  replace G1 := (bb1.block _ (by omega)).trans G1
  replace G2 := (bb1.block _ (by omega)).trans G2
  replace hS0 := Nat.le_trans hS0 bb1.size
  clear bb1
  have c1_0 := SPeek_cell G1 0
  have c2_0 := SPeek_cell G2 0
  have c1_1 := SPeek_cell G1 1
  have c2_1 := SPeek_cell G2 1
  have c1_2 := SPeek_cell G1 2
  have c2_2 := SPeek_cell G2 2
  have c1_3 := SPeek_cell G1 3
  have c2_3 := SPeek_cell G2 3
  have c1_4 := SPeek_cell G1 4
  have c2_4 := SPeek_cell G2 4
  have c1_5 := SPeek_cell G1 5
  have c2_5 := SPeek_cell G2 5
  have c1_6 := SPeek_cell G1 6
  have c2_6 := SPeek_cell G2 6
  have c1_7 := SPeek_cell G1 7
  have c2_7 := SPeek_cell G2 7
  simp at c1_0 c2_0 c1_1 c2_1 c1_2 c2_2 c1_3 c2_3 c1_4 c2_4 c1_5 c2_5 c1_6 c2_6 c1_7 c2_7
  go_wp2_with fail
  refine (eqIntS_t _ _ _ _ _ w1 (h5.below B) (k5.below B) (by omega)).mono ?_
  rintro e w5 ⟨rfl, bb5⟩
  replace B := B.trans (bb5.mono B.size)
  replace G1 := (bb5.block _ (by omega)).trans G1
  replace G2 := (bb5.block _ (by omega)).trans G2
  replace hS0 := Nat.le_trans hS0 bb5.size
  clear c1_0 c2_0 c1_1 c2_1 c1_2 c2_2 c1_3 c2_3 c1_4 c2_4 c1_5 c2_5 c1_6 c2_6 c1_7 c2_7
  clear bb5
  have c1_0 := SPeek_cell G1 0
  have c2_0 := SPeek_cell G2 0
  have c1_1 := SPeek_cell G1 1
  have c2_1 := SPeek_cell G2 1
  have c1_2 := SPeek_cell G1 2
  have c2_2 := SPeek_cell G2 2
  have c1_3 := SPeek_cell G1 3
  have c2_3 := SPeek_cell G2 3
  have c1_4 := SPeek_cell G1 4
  have c2_4 := SPeek_cell G2 4
  have c1_5 := SPeek_cell G1 5
  have c2_5 := SPeek_cell G2 5
  have c1_6 := SPeek_cell G1 6
  have c2_6 := SPeek_cell G2 6
  have c1_7 := SPeek_cell G1 7
  have c2_7 := SPeek_cell G2 7
  simp at c1_0 c2_0 c1_1 c2_1 c1_2 c2_2 c1_3 c2_3 c1_4 c2_4 c1_5 c2_5 c1_6 c2_6 c1_7 c2_7
  go_wp2_with fail
  go_ret
  exact ⟨rfl, B⟩

end Go.Proofs.YtoeobpdgfhgpiaaGreatDoor
