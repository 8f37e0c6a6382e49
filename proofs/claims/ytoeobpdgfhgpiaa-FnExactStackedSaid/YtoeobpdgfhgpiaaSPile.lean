/-
  The struct Pile: its numbers, what can be read of it; the laws' helpers over it.
-/
import Derived.Test.YtoeobpdgfhgpiaaSzI
import Derived.Laws.Rows
namespace Go.Proofs.Ytoeobpdgfhgpiaa
open Go.RowKit

structure MPile where
  cards : List Int
  hidden : Int

/-- The value v is such a struct, with the numbers D. -/
def RdPile (w : World) (v : Value) (D : MPile) : Prop :=
  ∃ (v0 : Value) (b0 : Nat), v = .agg #[v0, .int .i64 D.hidden] ∧ RdAt .i64 w v0 D.cards b0 ∧ (Lit.int .i64 D.hidden).wf = true
theorem RdPile.below {w w' : World} {v : Value} {D : MPile} (h : RdPile w v D) (hb : Below w.heap.size w w') : RdPile w' v D := by
  obtain ⟨v0, b0, e, h0, wf1⟩ := h
  exact ⟨v0, b0, e, h0.below hb, wf1⟩
def MPile.Few (D : MPile) : Prop := D.cards.length ≤ 1048576 ∧ True
theorem RdPile.shape {w : World} {v : Value} {D : MPile} (h : RdPile w v D) : ∃ (p0 : Option Addr) (c0 : Nat), v = .agg #[.slice p0 D.cards.length c0, .int .i64 D.hidden] := by
  obtain ⟨v0, b0, rfl, h0, wf1⟩ := h
  obtain ⟨p0, c0, e0, -⟩ := id h0
  subst e0
  exact ⟨_, _, rfl⟩
theorem SPile_cells {w : World} {b : Nat} {a0 a1 : Value} {t : TypeId} {fr : Nat × Nat} (h : w.heap[b]? = some (.cells #[a0, a1] t fr)) : w.cell? ⟨b, 0, none⟩ = some a0 ∧ w.cell? ⟨b, 1, none⟩ = some a1 := by
  simp [World.cell?, h]

set_option linter.unusedVariables false in
set_option maxRecDepth 100000 in
theorem szPile_any (v : Value) (D : MPile) (left : Int) (w : World) (h : RdPile w v D) (hl0 : 0 ≤ left) (hl1 : left ≤ 1048576) :
    Calls Try.prog 11 #[v, .int .i64 left] w fun e w' => (∃ r : Int, e = .returned (.int .i64 r) ∧ -1 ≤ r ∧ r ≤ 1048576 ∧ (0 ≤ r → D.Few)) ∧ Below w.heap.size w w' := by
  obtain ⟨v0, b0, rfl, h0, wf1⟩ := h
  obtain ⟨p0, c0, e0, hc0, -⟩ := id h0
  have hm0 : D.cards.length ≤ 9223372036854775807 := by have h1 := hc0.1; have h2 := hc0.2.1; unfold maxLen at h2; omega
  clear hc0
  have B0 := fun o => (Below.refl w.heap.size w).alloc (Nat.le_refl _) o
  go_enter Try.func11, Try.ntmps11
  subst e0
  have HC0 := Lib.hid (fun wx => szIntS_any p0 D.cards.length c0 (left) wx (by omega) (by omega) hm0)
  by_cases hx0 : (left) < D.cards.length
  · rw [if_pos hx0] at HC0
    go_wp2_with fail
    refine (HC0.out _).mono ?_
    rintro e _w ⟨rfl, rfl⟩
    go_wp2_with fail
    go_ret
    exact ⟨⟨-1, rfl, by omega, by omega, fun h => by omega⟩, B0 _⟩
  rw [if_neg hx0] at HC0
  obtain ⟨r0, hr0⟩ : ∃ r, r = (left) - (D.cards.length : Int) := ⟨_, rfl⟩
  rw [← hr0] at HC0
  have g0 : D.cards.length ≤ 1048576 := by omega
  have ra0 : 0 ≤ r0 := by omega
  have rb0 : r0 ≤ 1048576 := by omega
  clear hr0 hx0
  go_wp2_with fail
  refine (HC0.out _).mono ?_
  rintro e _w ⟨rfl, rfl⟩
  clear HC0
  go_wp2_with fail
  go_ret
  exact ⟨⟨r0, rfl, by omega, by omega, fun _ => ⟨g0, trivial⟩⟩, B0 _⟩

theorem SPile_three (w : World) (o1 o2 o3 : Obj) : (((w.alloc o1).alloc o2).alloc o3).heap[w.heap.size]? = some o1 ∧ (((w.alloc o1).alloc o2).alloc o3).heap[w.heap.size + 1]? = some o2 ∧ (((w.alloc o1).alloc o2).alloc o3).heap[w.heap.size + 2]? = some o3 := by
  refine ⟨?_, ?_, ?_⟩ <;> show (((w.heap.push o1).push o2).push o3)[_]? = _
  · rw [Array.getElem?_push, if_neg (by simp; omega), Array.getElem?_push, if_neg (by simp)]; simp
  · rw [Array.getElem?_push, if_neg (by simp), Array.getElem?_push, if_pos (by simp)]
  · rw [Array.getElem?_push, if_pos (by simp)]
theorem SPile_cell {w : World} {b : Nat} {c : Array Value} {t : TypeId} {fr : Nat × Nat} (h : w.heap[b]? = some (.cells c t fr)) (i : Nat) : w.cell? ⟨b, i, none⟩ = c[i]? := by
  simp [World.cell?, h]
theorem SPile_free {w : World} {b : Nat} {c : Array Value} {t : TypeId} (h : w.heap[b]? = some (.cells c t (0, 0))) (i : Nat) : w.frozen? ⟨b, i, none⟩ = false := by
  simp [World.frozen?, h]
theorem SPile_set {w : World} {b : Nat} {c : Array Value} {t : TypeId} {fr : Nat × Nat} (h : w.heap[b]? = some (.cells c t fr)) (i : Nat) (v : Value) : (w.setCell ⟨b, i, none⟩ v).heap[b]? = some (.cells (c.setIfInBounds i v) t fr) := by
  simp [World.setCell, Array.getElem?_modify, h]

set_option linter.unusedVariables false in
set_option maxRecDepth 100000 in
set_option maxHeartbeats 1000000 in
theorem toPile_any (v : Value) (D : MPile) (w : World) (h : RdPile w v D) (hf : D.Few) :
    Calls Try.prog 13 #[v] w fun e w' => ∃ v', e = .returned v' ∧ RdPile w' v' D ∧ Below w.heap.size w w' := by
  obtain ⟨v0, b0, rfl, h0, wf1⟩ := h
  obtain ⟨f0, -⟩ := hf
  have T := Lib.hid (SPile_three w (.cells #[v0, .int .i64 D.hidden] 30) (.cells #[.slice none 0 0, .int .i64 0] 32) (.cells #[.slice none 0 0, .int .i64 0] 32))
  have B : Below w.heap.size w (((w.alloc (.cells #[v0, .int .i64 D.hidden] 30)).alloc (.cells #[.slice none 0 0, .int .i64 0] 32)).alloc (.cells #[.slice none 0 0, .int .i64 0] 32)) := (((Below.refl _ _).alloc (Nat.le_refl _) _).alloc (by simp) _).alloc (by simp; omega) _
  obtain ⟨W0, hW0⟩ : ∃ W0, W0 = (((w.alloc (.cells #[v0, .int .i64 D.hidden] 30)).alloc (.cells #[.slice none 0 0, .int .i64 0] 32)).alloc (.cells #[.slice none 0 0, .int .i64 0] 32)) := ⟨_, rfl⟩
  obtain ⟨bl, hbl⟩ : ∃ b, b = w.heap.size + 1 + 1 := ⟨_, rfl⟩
  obtain ⟨br, hbr⟩ : ∃ b, b = w.heap.size + 1 := ⟨_, rfl⟩
  have hS0 : bl < W0.heap.size := by rw [hW0, hbl]; simp
  rw [← hW0] at B T
  have HW := Lib.hid hW0
  clear hW0
  obtain ⟨G1, G2, G3⟩ := T.out
  clear T
  have e3 : w.heap.size + 2 = bl := by omega
  rw [← hbr] at G2
  rw [e3] at G3
  have hd1 : w.heap.size < br := by omega
  have hd2 : br < bl := by omega
  have Hbl := Lib.hid hbl
  have Hbr := Lib.hid hbr
  clear hbl hbr e3
  go_enter Try.func13, Try.ntmps13
  go_wp2_with fail
  rw [← HW.out, ← Hbl.out, ← Hbr.out]
  refine (toIntS_any _ _ _ W0 (h0.below B) (by omega)).mono ?_
  rintro e w0 ⟨u0, rfl, x0, bb0, -⟩
  replace x0 := x0.rd
  obtain ⟨pu0, cu0, eu0, -⟩ := id x0
  subst eu0
  have l0 : bl < W0.heap.size := hS0
  replace B := B.trans (bb0.mono B.size)
  replace G1 := (bb0.block _ (by omega)).trans G1
  replace G2 := (bb0.block _ (by omega)).trans G2
  replace G3 := (bb0.block _ (by omega)).trans G3
  replace hS0 := Nat.lt_of_lt_of_le hS0 bb0.size
  clear bb0
  have c1_0 := SPile_cell G1 0
  have c3_0 := SPile_cell G3 0
  have z3_0 := SPile_free G3 0
  have c1_1 := SPile_cell G1 1
  have c3_1 := SPile_cell G3 1
  have z3_1 := SPile_free G3 1
  have c2_0 := SPile_cell G2 0
  have z2_0 := SPile_free G2 0
  have c2_1 := SPile_cell G2 1
  have z2_1 := SPile_free G2 1
  simp at c1_0 c3_0 c2_0 c1_1 c3_1 c2_1
  go_wp2_with fail
  obtain ⟨X, hX⟩ : ∃ X, X = ((((w0.setCell ⟨bl, 0, none⟩ (.slice pu0 D.cards.length cu0)).setCell ⟨bl, 1, none⟩ (.int .i64 D.hidden)).setCell ⟨br, 0, none⟩ (.slice pu0 D.cards.length cu0)).setCell ⟨br, 1, none⟩ (.int .i64 D.hidden)) := ⟨_, rfl⟩
  have G2a : ((w0.setCell ⟨bl, 0, none⟩ (.slice pu0 D.cards.length cu0)).setCell ⟨bl, 1, none⟩ (.int .i64 D.hidden)).heap[br]? = some (.cells #[.slice none 0 0, .int .i64 0] 32 (0, 0)) := (by rw [Below.heap_setCell _ _ _ _ (show br ≠ bl by omega), Below.heap_setCell _ _ _ _ (show br ≠ bl by omega)]; exact G2)
  have N2 := (SPile_set (SPile_set G2a 0 (.slice pu0 D.cards.length cu0)) 1 (.int .i64 D.hidden))
  rw [← hX] at N2
  have K : ∀ i, i ≠ bl → i ≠ br → X.heap[i]? = w0.heap[i]? := fun i hi hr => by rw [hX]; rw [Below.heap_setCell _ _ _ _ hr, Below.heap_setCell _ _ _ _ hr, Below.heap_setCell _ _ _ _ hi, Below.heap_setCell _ _ _ _ hi]
  have Z : X.heap.size = w0.heap.size := by rw [hX]; simp [World.setCell]
  have NB : Below w.heap.size w X := by rw [hX]; exact ((((B.setCell (show w.heap.size ≤ bl by omega) (.slice pu0 D.cards.length cu0)).setCell (show w.heap.size ≤ bl by omega) (.int .i64 D.hidden)).setCell (show w.heap.size ≤ br by omega) (.slice pu0 D.cards.length cu0)).setCell (show w.heap.size ≤ br by omega) (.int .i64 D.hidden))
  rw [← hX]
  simp only [List.setIfInBounds_toArray, List.set_cons_zero, List.set_cons_succ] at N2
  replace x0 := x0.keep (fun _ => K _ (by omega) (by omega))
  (try simp only [Exit.inBlock, Exit.then]); refine bodyPost_ret (results_cell_row rfl _ _ br _ _ _ _ rfl N2 Try.underlying32 rfl (by kernel_rfl)) rfl ?_
  exact ⟨_, rfl, ⟨_, _, rfl, x0, wf1⟩, NB⟩

set_option linter.unusedVariables false in
set_option maxRecDepth 100000 in
set_option maxHeartbeats 1000000 in
theorem eqPile_t (va vb : Value) (D : MPile) (w : World) (ha : RdPile w va D) (hb : RdPile w vb D) (hf : D.Few) :
    Calls Try.prog 16 #[va, vb] w fun e w' => e = .returned (.bool true) ∧ Below w.heap.size w w' := by
  obtain ⟨v0, b0, rfl, h0, wf1⟩ := ha
  obtain ⟨y0, d0, rfl, k0, -⟩ := hb
  obtain ⟨f0, -⟩ := hf
  have B : Below w.heap.size w ((w.alloc (.cells #[v0, .int .i64 D.hidden] 32)).alloc (.cells #[y0, .int .i64 D.hidden] 32)) := ((Below.refl _ _).alloc (Nat.le_refl _) _).alloc (by simp) _
  obtain ⟨W0, hW0⟩ : ∃ W0, W0 = ((w.alloc (.cells #[v0, .int .i64 D.hidden] 32)).alloc (.cells #[y0, .int .i64 D.hidden] 32)) := ⟨_, rfl⟩
  have G := SPile_three w (.cells #[v0, .int .i64 D.hidden] 32) (.cells #[y0, .int .i64 D.hidden] 32) (.cells #[y0, .int .i64 D.hidden] 32)
  have G1 : W0.heap[w.heap.size]? = some (.cells #[v0, .int .i64 D.hidden] 32 (0, 0)) := by
    rw [hW0]; show ((w.heap.push _).push _)[_]? = _
    rw [Array.getElem?_push, if_neg (by simp), Array.getElem?_push, if_pos rfl]
  have G2 : W0.heap[w.heap.size + 1]? = some (.cells #[y0, .int .i64 D.hidden] 32 (0, 0)) := by
    rw [hW0]; show ((w.heap.push _).push _)[_]? = _
    rw [Array.getElem?_push, if_pos (by simp)]
  have hS0 : w.heap.size + 2 ≤ W0.heap.size := by rw [hW0]; simp
  rw [← hW0] at B
  have HW := Lib.hid hW0
  clear hW0 G
  go_enter Try.func16, Try.ntmps16
  go_wp2_with fail
  rw [← HW.out]
  refine (eqIntS_t _ _ _ _ _ W0 (h0.below B) (k0.below B) (by omega)).mono ?_
  rintro e w0 ⟨rfl, bb0⟩
  replace B := B.trans (bb0.mono B.size)
  replace G1 := (bb0.block _ (by omega)).trans G1
  replace G2 := (bb0.block _ (by omega)).trans G2
  replace hS0 := Nat.le_trans hS0 bb0.size
  clear bb0
  have c1_0 := SPile_cell G1 0
  have c2_0 := SPile_cell G2 0
  have c1_1 := SPile_cell G1 1
  have c2_1 := SPile_cell G2 1
  simp at c1_0 c2_0 c1_1 c2_1
  go_wp2_with fail
  go_ret
  exact ⟨rfl, B⟩

end Go.Proofs.Ytoeobpdgfhgpiaa
