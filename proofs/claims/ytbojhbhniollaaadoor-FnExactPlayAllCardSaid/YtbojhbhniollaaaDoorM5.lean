/-
  Several texts in one: The struct Deal: its numbers, what can be read of it; the laws' helpers over it. The struct Deal: what can be read of it, what may be written and in which blocks; the laws' helpers over it. A region that draws its order, with several calls that make memory: each operation of a list J has its own contract, whichever order is drawn; no order is gone through one by one. Slices of slices found marked; loads and stores of whole structs as rows; small words for the walks over struct results. copyInts by contract.
-/
import Derived.Test.YtbojhbhniollaaaDoorM4
import Derived.Laws.Rows
import Derived.Deep.Cut
import Derived.OrdersHeld
import Derived.Below
import Derived.Deep.RegionHeld3
namespace Go.Proofs.YtbojhbhniollaaaDoor
open Go.RowKit

structure MDeal where
  hands : List (List Int)
  leader : Int
  trump : Int
  trick : List Int
  won : List Int
  points : List Int
  left : Int

/-- The value v is such a struct, with the numbers D. -/
def RdDeal (w : World) (v : Value) (D : MDeal) : Prop :=
  ∃ (v0 v3 v4 v5 : Value) (b3 b4 b5 : Nat), v = .agg #[v0, .int .i64 D.leader, .int .i64 D.trump, v3, v4, v5, .int .i64 D.left] ∧ RdRows .i64 w v0 D.hands ∧ RdAt .i64 w v3 D.trick b3 ∧ RdAt .i64 w v4 D.won b4 ∧ RdAt .i64 w v5 D.points b5 ∧ (Lit.int .i64 D.leader).wf = true ∧ (Lit.int .i64 D.trump).wf = true ∧ (Lit.int .i64 D.left).wf = true
theorem RdDeal.below {w w' : World} {v : Value} {D : MDeal} (h : RdDeal w v D) (hb : Below w.heap.size w w') : RdDeal w' v D := by
  obtain ⟨v0, v3, v4, v5, b3, b4, b5, e, h0, h3, h4, h5, wf1, wf2, wf6⟩ := h
  exact ⟨v0, v3, v4, v5, b3, b4, b5, e, h0.below hb, h3.below hb, h4.below hb, h5.below hb, wf1, wf2, wf6⟩
def MDeal.Few (D : MDeal) : Prop := D.hands.length ≤ 1048576 ∧ sumLen D.hands ≤ 1048576 ∧ D.trick.length ≤ 1048576 ∧ D.won.length ≤ 1048576 ∧ D.points.length ≤ 1048576
theorem RdDeal.shape {w : World} {v : Value} {D : MDeal} (h : RdDeal w v D) : ∃ (p0 p3 p4 p5 : Option Addr) (c0 c3 c4 c5 : Nat), v = .agg #[.slice p0 D.hands.length c0, .int .i64 D.leader, .int .i64 D.trump, .slice p3 D.trick.length c3, .slice p4 D.won.length c4, .slice p5 D.points.length c5, .int .i64 D.left] := by
  obtain ⟨v0, v3, v4, v5, b3, b4, b5, rfl, h0, h3, h4, h5, wf1, wf2, wf6⟩ := h
  obtain ⟨p0, c0, e0, -⟩ := id h0
  subst e0
  obtain ⟨p3, c3, e3, -⟩ := id h3
  subst e3
  obtain ⟨p4, c4, e4, -⟩ := id h4
  subst e4
  obtain ⟨p5, c5, e5, -⟩ := id h5
  subst e5
  exact ⟨_, _, _, _, _, _, _, _, rfl⟩
theorem SDeal_cells {w : World} {b : Nat} {a0 a1 a2 a3 a4 a5 a6 : Value} {t : TypeId} {fr : Nat × Nat} (h : w.heap[b]? = some (.cells #[a0, a1, a2, a3, a4, a5, a6] t fr)) : w.cell? ⟨b, 0, none⟩ = some a0 ∧ w.cell? ⟨b, 1, none⟩ = some a1 ∧ w.cell? ⟨b, 2, none⟩ = some a2 ∧ w.cell? ⟨b, 3, none⟩ = some a3 ∧ w.cell? ⟨b, 4, none⟩ = some a4 ∧ w.cell? ⟨b, 5, none⟩ = some a5 ∧ w.cell? ⟨b, 6, none⟩ = some a6 := by
  simp [World.cell?, h]

set_option linter.unusedVariables false in
set_option maxRecDepth 100000 in
theorem szDeal_any (v : Value) (D : MDeal) (left : Int) (w : World) (h : RdDeal w v D) (hl0 : 0 ≤ left) (hl1 : left ≤ 1048576) :
    Calls Tryd.prog 8 #[v, .int .i64 left] w fun e w' => (∃ r : Int, e = .returned (.int .i64 r) ∧ -1 ≤ r ∧ r ≤ 1048576 ∧ (0 ≤ r → D.Few)) ∧ Below w.heap.size w w' := by
  obtain ⟨v0, v3, v4, v5, b3, b4, b5, rfl, h0, h3, h4, h5, wf1, wf2, wf6⟩ := h
  obtain ⟨p3, c3, e3, hc3, -⟩ := id h3
  obtain ⟨p4, c4, e4, hc4, -⟩ := id h4
  obtain ⟨p5, c5, e5, hc5, -⟩ := id h5
  obtain ⟨p0, c0, e0, -⟩ := id h0
  have hm3 : D.trick.length ≤ 9223372036854775807 := by have h1 := hc3.1; have h2 := hc3.2.1; unfold maxLen at h2; omega
  have hm4 : D.won.length ≤ 9223372036854775807 := by have h1 := hc4.1; have h2 := hc4.2.1; unfold maxLen at h2; omega
  have hm5 : D.points.length ≤ 9223372036854775807 := by have h1 := hc5.1; have h2 := hc5.2.1; unfold maxLen at h2; omega
  clear hc3
  clear hc4
  clear hc5
  have B0 := fun o => (Below.refl w.heap.size w).alloc (Nat.le_refl _) o
  go_enter Tryd.func8, Tryd.ntmps8
  subst e0
  subst e3
  subst e4
  subst e5
  go_wp2_with fail
  refine (szIntSS_any _ _ left _ (h0.below (B0 _)) (by omega) (by omega)).mono ?_
  rintro e _w ⟨⟨r0, rfl, rn0, rm0, hr0⟩, rfl⟩
  by_cases hneg0 : r0 < 0
  · go_wp2_with fail
    go_ret
    exact ⟨⟨-1, rfl, by omega, by omega, fun h => by omega⟩, B0 _⟩
  have g0 : D.hands.length ≤ 1048576 := by have := hr0 (by omega); omega
  have k0 : sumLen D.hands ≤ 1048576 := by have := hr0 (by omega); omega
  clear hr0
  have HC3 := Lib.hid (fun wx => szIntS_any p3 D.trick.length c3 (r0) wx (by omega) (by omega) hm3)
  by_cases hx3 : (r0) < D.trick.length
  · rw [if_pos hx3] at HC3
    go_wp2_with fail
    refine (HC3.out _).mono ?_
    rintro e _w ⟨rfl, rfl⟩
    go_wp2_with fail
    go_ret
    exact ⟨⟨-1, rfl, by omega, by omega, fun h => by omega⟩, B0 _⟩
  rw [if_neg hx3] at HC3
  obtain ⟨r3, hr3⟩ : ∃ r, r = (r0) - (D.trick.length : Int) := ⟨_, rfl⟩
  rw [← hr3] at HC3
  have g3 : D.trick.length ≤ 1048576 := by omega
  have ra3 : 0 ≤ r3 := by omega
  have rb3 : r3 ≤ 1048576 := by omega
  clear hr3 hx3
  go_wp2_with fail
  refine (HC3.out _).mono ?_
  rintro e _w ⟨rfl, rfl⟩
  clear HC3
  have HC4 := Lib.hid (fun wx => szIntS_any p4 D.won.length c4 (r3) wx (by omega) (by omega) hm4)
  by_cases hx4 : (r3) < D.won.length
  · rw [if_pos hx4] at HC4
    go_wp2_with fail
    refine (HC4.out _).mono ?_
    rintro e _w ⟨rfl, rfl⟩
    go_wp2_with fail
    go_ret
    exact ⟨⟨-1, rfl, by omega, by omega, fun h => by omega⟩, B0 _⟩
  rw [if_neg hx4] at HC4
  obtain ⟨r4, hr4⟩ : ∃ r, r = (r3) - (D.won.length : Int) := ⟨_, rfl⟩
  rw [← hr4] at HC4
  have g4 : D.won.length ≤ 1048576 := by omega
  have ra4 : 0 ≤ r4 := by omega
  have rb4 : r4 ≤ 1048576 := by omega
  clear hr4 hx4
  go_wp2_with fail
  refine (HC4.out _).mono ?_
  rintro e _w ⟨rfl, rfl⟩
  clear HC4
  have HC5 := Lib.hid (fun wx => szIntS_any p5 D.points.length c5 (r4) wx (by omega) (by omega) hm5)
  by_cases hx5 : (r4) < D.points.length
  · rw [if_pos hx5] at HC5
    go_wp2_with fail
    refine (HC5.out _).mono ?_
    rintro e _w ⟨rfl, rfl⟩
    go_wp2_with fail
    go_ret
    exact ⟨⟨-1, rfl, by omega, by omega, fun h => by omega⟩, B0 _⟩
  rw [if_neg hx5] at HC5
  obtain ⟨r5, hr5⟩ : ∃ r, r = (r4) - (D.points.length : Int) := ⟨_, rfl⟩
  rw [← hr5] at HC5
  have g5 : D.points.length ≤ 1048576 := by omega
  have ra5 : 0 ≤ r5 := by omega
  have rb5 : r5 ≤ 1048576 := by omega
  clear hr5 hx5
  go_wp2_with fail
  refine (HC5.out _).mono ?_
  rintro e _w ⟨rfl, rfl⟩
  clear HC5
  go_wp2_with fail
  go_ret
  exact ⟨⟨r5, rfl, by omega, by omega, fun _ => ⟨g0, k0, g3, g4, g5⟩⟩, B0 _⟩

theorem SDeal_three (w : World) (o1 o2 o3 : Obj) : (((w.alloc o1).alloc o2).alloc o3).heap[w.heap.size]? = some o1 ∧ (((w.alloc o1).alloc o2).alloc o3).heap[w.heap.size + 1]? = some o2 ∧ (((w.alloc o1).alloc o2).alloc o3).heap[w.heap.size + 2]? = some o3 := by
  refine ⟨?_, ?_, ?_⟩ <;> show (((w.heap.push o1).push o2).push o3)[_]? = _
  · rw [Array.getElem?_push, if_neg (by simp; omega), Array.getElem?_push, if_neg (by simp)]; simp
  · rw [Array.getElem?_push, if_neg (by simp), Array.getElem?_push, if_pos (by simp)]
  · rw [Array.getElem?_push, if_pos (by simp)]
theorem SDeal_cell {w : World} {b : Nat} {c : Array Value} {t : TypeId} {fr : Nat × Nat} (h : w.heap[b]? = some (.cells c t fr)) (i : Nat) : w.cell? ⟨b, i, none⟩ = c[i]? := by
  simp [World.cell?, h]
theorem SDeal_free {w : World} {b : Nat} {c : Array Value} {t : TypeId} (h : w.heap[b]? = some (.cells c t (0, 0))) (i : Nat) : w.frozen? ⟨b, i, none⟩ = false := by
  simp [World.frozen?, h]
theorem SDeal_set {w : World} {b : Nat} {c : Array Value} {t : TypeId} {fr : Nat × Nat} (h : w.heap[b]? = some (.cells c t fr)) (i : Nat) (v : Value) : (w.setCell ⟨b, i, none⟩ v).heap[b]? = some (.cells (c.setIfInBounds i v) t fr) := by
  simp [World.setCell, Array.getElem?_modify, h]

set_option linter.unusedVariables false in
set_option maxRecDepth 100000 in
set_option maxHeartbeats 1000000 in
theorem toDeal_any (v : Value) (D : MDeal) (w : World) (h : RdDeal w v D) (hf : D.Few) :
    Calls Tryd.prog 10 #[v] w fun e w' => ∃ v', e = .returned v' ∧ RdDeal w' v' D ∧ Below w.heap.size w w' := by
  obtain ⟨v0, v3, v4, v5, b3, b4, b5, rfl, h0, h3, h4, h5, wf1, wf2, wf6⟩ := h
  obtain ⟨f0, fs0, f3, f4, f5⟩ := hf
  have T := Lib.hid (SDeal_three w (.cells #[v0, .int .i64 D.leader, .int .i64 D.trump, v3, v4, v5, .int .i64 D.left] 25) (.cells #[.slice none 0 0, .int .i64 0, .int .i64 0, .slice none 0 0, .slice none 0 0, .slice none 0 0, .int .i64 0] 31) (.cells #[.slice none 0 0, .int .i64 0, .int .i64 0, .slice none 0 0, .slice none 0 0, .slice none 0 0, .int .i64 0] 31))
  have B : Below w.heap.size w (((w.alloc (.cells #[v0, .int .i64 D.leader, .int .i64 D.trump, v3, v4, v5, .int .i64 D.left] 25)).alloc (.cells #[.slice none 0 0, .int .i64 0, .int .i64 0, .slice none 0 0, .slice none 0 0, .slice none 0 0, .int .i64 0] 31)).alloc (.cells #[.slice none 0 0, .int .i64 0, .int .i64 0, .slice none 0 0, .slice none 0 0, .slice none 0 0, .int .i64 0] 31)) := (((Below.refl _ _).alloc (Nat.le_refl _) _).alloc (by simp) _).alloc (by simp; omega) _
  obtain ⟨W0, hW0⟩ : ∃ W0, W0 = (((w.alloc (.cells #[v0, .int .i64 D.leader, .int .i64 D.trump, v3, v4, v5, .int .i64 D.left] 25)).alloc (.cells #[.slice none 0 0, .int .i64 0, .int .i64 0, .slice none 0 0, .slice none 0 0, .slice none 0 0, .int .i64 0] 31)).alloc (.cells #[.slice none 0 0, .int .i64 0, .int .i64 0, .slice none 0 0, .slice none 0 0, .slice none 0 0, .int .i64 0] 31)) := ⟨_, rfl⟩
  obtain ⟨bl, hbl⟩ : ∃ b, b = w.heap.size + 1 + 1 := ⟨_, rfl⟩
  obtain ⟨br, hbr⟩ : ∃ b, b = w.heap.size + 1 := ⟨_, rfl⟩
  have hS0 : bl < W0.heap.size := by rw [hW0, hbl]; simp
  rw [← hW0] at B T
  have HW := Lib.hid hW0
  clear hW0
  obtain ⟨G1, G2, G3⟩ := T.out
  clear T
  have e3 : w.heap.size + 2 = bl := by omega
  rw [← hbr] at G2
  rw [e3] at G3
  have hd1 : w.heap.size < br := by omega
  have hd2 : br < bl := by omega
  have Hbl := Lib.hid hbl
  have Hbr := Lib.hid hbr
  clear hbl hbr e3
  go_enter Tryd.func10, Tryd.ntmps10
  go_wp2_with fail
  rw [← HW.out, ← Hbl.out, ← Hbr.out]
  refine (toIntSS_any _ _ W0 (h0.below B) f0 fs0).mono ?_
  rintro e w0 ⟨u0, rfl, x0, bb0⟩
  obtain ⟨pu0, cu0, eu0, -⟩ := id x0.rd
  subst eu0
  have l0 : bl < W0.heap.size := hS0
  replace B := B.trans (bb0.mono B.size)
  replace G1 := (bb0.block _ (by omega)).trans G1
  replace G2 := (bb0.block _ (by omega)).trans G2
  replace G3 := (bb0.block _ (by omega)).trans G3
  replace hS0 := Nat.lt_of_lt_of_le hS0 bb0.size
  clear bb0
  have c1_0 := SDeal_cell G1 0
  have c3_0 := SDeal_cell G3 0
  have z3_0 := SDeal_free G3 0
  have c1_1 := SDeal_cell G1 1
  have c3_1 := SDeal_cell G3 1
  have z3_1 := SDeal_free G3 1
  have c1_2 := SDeal_cell G1 2
  have c3_2 := SDeal_cell G3 2
  have z3_2 := SDeal_free G3 2
  have c1_3 := SDeal_cell G1 3
  have c3_3 := SDeal_cell G3 3
  have z3_3 := SDeal_free G3 3
  have c1_4 := SDeal_cell G1 4
  have c3_4 := SDeal_cell G3 4
  have z3_4 := SDeal_free G3 4
  have c1_5 := SDeal_cell G1 5
  have c3_5 := SDeal_cell G3 5
  have z3_5 := SDeal_free G3 5
  have c1_6 := SDeal_cell G1 6
  have c3_6 := SDeal_cell G3 6
  have z3_6 := SDeal_free G3 6
  simp at c1_0 c3_0 c1_1 c3_1 c1_2 c3_2 c1_3 c3_3 c1_4 c3_4 c1_5 c3_5 c1_6 c3_6
  go_wp2_with fail
  obtain ⟨X3, hX3⟩ : ∃ X, X = (((w0.setCell ⟨bl, 0, none⟩ (.slice pu0 D.hands.length cu0)).setCell ⟨bl, 1, none⟩ (.int .i64 D.leader)).setCell ⟨bl, 2, none⟩ (.int .i64 D.trump)) := ⟨_, rfl⟩
  have N3 := (SDeal_set (SDeal_set (SDeal_set G3 0 (.slice pu0 D.hands.length cu0)) 1 (.int .i64 D.leader)) 2 (.int .i64 D.trump))
  rw [← hX3] at N3
  have K3 : ∀ i, i ≠ bl → X3.heap[i]? = w0.heap[i]? := fun i hi => by rw [hX3]; rw [Below.heap_setCell _ _ _ _ hi, Below.heap_setCell _ _ _ _ hi, Below.heap_setCell _ _ _ _ hi]
  have Z3 : X3.heap.size = w0.heap.size := by rw [hX3]; simp [World.setCell]
  have NB : Below w.heap.size w X3 := by rw [hX3]; exact (((B.setCell (show w.heap.size ≤ bl by omega) (.slice pu0 D.hands.length cu0)).setCell (show w.heap.size ≤ bl by omega) (.int .i64 D.leader)).setCell (show w.heap.size ≤ bl by omega) (.int .i64 D.trump))
  replace G1 := (K3 _ (by omega)).trans G1
  replace G2 := (K3 _ (by omega)).trans G2
  replace hS0 : bl < X3.heap.size := by rw [Z3]; exact hS0
  replace x0 := x0.keepS (fun i hi hlt => K3 i (by omega)) (by omega)
  rw [← hX3]
  clear hX3 B G3 K3 Z3 c3_0 z3_0 c3_1 z3_1 c3_2 z3_2 c3_3 z3_3 c3_4 z3_4 c3_5 z3_5 c3_6 z3_6 c1_0 c1_1 c1_2 c1_3 c1_4 c1_5 c1_6
  have G3 := N3
  have B := NB
  clear N3 NB
  simp only [List.setIfInBounds_toArray, List.set_cons_zero, List.set_cons_succ] at G3
  refine (toIntS_any _ _ _ X3 (h3.below B) (by omega)).mono ?_
  rintro e w3 ⟨u3, rfl, x3, bb3, -⟩
  replace x3 := x3.rd
  obtain ⟨pu3, cu3, eu3, -⟩ := id x3
  subst eu3
  have l3 : bl < X3.heap.size := hS0
  replace B := B.trans (bb3.mono B.size)
  replace G1 := (bb3.block _ (by omega)).trans G1
  replace G2 := (bb3.block _ (by omega)).trans G2
  replace G3 := (bb3.block _ (by omega)).trans G3
  replace hS0 := Nat.lt_of_lt_of_le hS0 bb3.size
  replace x0 := x0.keepS (fun i _ hlt => bb3.block i hlt) bb3.size
  clear bb3
  have c1_0 := SDeal_cell G1 0
  have c3_0 := SDeal_cell G3 0
  have z3_0 := SDeal_free G3 0
  have c1_1 := SDeal_cell G1 1
  have c3_1 := SDeal_cell G3 1
  have z3_1 := SDeal_free G3 1
  have c1_2 := SDeal_cell G1 2
  have c3_2 := SDeal_cell G3 2
  have z3_2 := SDeal_free G3 2
  have c1_3 := SDeal_cell G1 3
  have c3_3 := SDeal_cell G3 3
  have z3_3 := SDeal_free G3 3
  have c1_4 := SDeal_cell G1 4
  have c3_4 := SDeal_cell G3 4
  have z3_4 := SDeal_free G3 4
  have c1_5 := SDeal_cell G1 5
  have c3_5 := SDeal_cell G3 5
  have z3_5 := SDeal_free G3 5
  have c1_6 := SDeal_cell G1 6
  have c3_6 := SDeal_cell G3 6
  have z3_6 := SDeal_free G3 6
  simp at c1_0 c3_0 c1_1 c3_1 c1_2 c3_2 c1_3 c3_3 c1_4 c3_4 c1_5 c3_5 c1_6 c3_6
  go_wp2_with fail
  obtain ⟨X4, hX4⟩ : ∃ X, X = (w3.setCell ⟨bl, 3, none⟩ (.slice pu3 D.trick.length cu3)) := ⟨_, rfl⟩
  have N3 := (SDeal_set G3 3 (.slice pu3 D.trick.length cu3))
  rw [← hX4] at N3
  have K4 : ∀ i, i ≠ bl → X4.heap[i]? = w3.heap[i]? := fun i hi => by rw [hX4]; rw [Below.heap_setCell _ _ _ _ hi]
  have Z4 : X4.heap.size = w3.heap.size := by rw [hX4]; simp [World.setCell]
  have NB : Below w.heap.size w X4 := by rw [hX4]; exact (B.setCell (show w.heap.size ≤ bl by omega) (.slice pu3 D.trick.length cu3))
  replace G1 := (K4 _ (by omega)).trans G1
  replace G2 := (K4 _ (by omega)).trans G2
  replace hS0 : bl < X4.heap.size := by rw [Z4]; exact hS0
  replace x0 := x0.keepS (fun i hi hlt => K4 i (by omega)) (by omega)
  replace x3 := x3.keep (fun _ => K4 _ (by omega))
  rw [← hX4]
  clear hX4 B G3 K4 Z4 c3_0 z3_0 c3_1 z3_1 c3_2 z3_2 c3_3 z3_3 c3_4 z3_4 c3_5 z3_5 c3_6 z3_6 c1_0 c1_1 c1_2 c1_3 c1_4 c1_5 c1_6
  have G3 := N3
  have B := NB
  clear N3 NB
  simp only [List.setIfInBounds_toArray, List.set_cons_zero, List.set_cons_succ] at G3
  refine (toIntS_any _ _ _ X4 (h4.below B) (by omega)).mono ?_
  rintro e w4 ⟨u4, rfl, x4, bb4, -⟩
  replace x4 := x4.rd
  obtain ⟨pu4, cu4, eu4, -⟩ := id x4
  subst eu4
  have l4 : bl < X4.heap.size := hS0
  replace B := B.trans (bb4.mono B.size)
  replace G1 := (bb4.block _ (by omega)).trans G1
  replace G2 := (bb4.block _ (by omega)).trans G2
  replace G3 := (bb4.block _ (by omega)).trans G3
  replace hS0 := Nat.lt_of_lt_of_le hS0 bb4.size
  replace x0 := x0.keepS (fun i _ hlt => bb4.block i hlt) bb4.size
  replace x3 := x3.below bb4
  clear bb4
  have c1_0 := SDeal_cell G1 0
  have c3_0 := SDeal_cell G3 0
  have z3_0 := SDeal_free G3 0
  have c1_1 := SDeal_cell G1 1
  have c3_1 := SDeal_cell G3 1
  have z3_1 := SDeal_free G3 1
  have c1_2 := SDeal_cell G1 2
  have c3_2 := SDeal_cell G3 2
  have z3_2 := SDeal_free G3 2
  have c1_3 := SDeal_cell G1 3
  have c3_3 := SDeal_cell G3 3
  have z3_3 := SDeal_free G3 3
  have c1_4 := SDeal_cell G1 4
  have c3_4 := SDeal_cell G3 4
  have z3_4 := SDeal_free G3 4
  have c1_5 := SDeal_cell G1 5
  have c3_5 := SDeal_cell G3 5
  have z3_5 := SDeal_free G3 5
  have c1_6 := SDeal_cell G1 6
  have c3_6 := SDeal_cell G3 6
  have z3_6 := SDeal_free G3 6
  simp at c1_0 c3_0 c1_1 c3_1 c1_2 c3_2 c1_3 c3_3 c1_4 c3_4 c1_5 c3_5 c1_6 c3_6
  go_wp2_with fail
  obtain ⟨X5, hX5⟩ : ∃ X, X = (w4.setCell ⟨bl, 4, none⟩ (.slice pu4 D.won.length cu4)) := ⟨_, rfl⟩
  have N3 := (SDeal_set G3 4 (.slice pu4 D.won.length cu4))
  rw [← hX5] at N3
  have K5 : ∀ i, i ≠ bl → X5.heap[i]? = w4.heap[i]? := fun i hi => by rw [hX5]; rw [Below.heap_setCell _ _ _ _ hi]
  have Z5 : X5.heap.size = w4.heap.size := by rw [hX5]; simp [World.setCell]
  have NB : Below w.heap.size w X5 := by rw [hX5]; exact (B.setCell (show w.heap.size ≤ bl by omega) (.slice pu4 D.won.length cu4))
  replace G1 := (K5 _ (by omega)).trans G1
  replace G2 := (K5 _ (by omega)).trans G2
  replace hS0 : bl < X5.heap.size := by rw [Z5]; exact hS0
  replace x0 := x0.keepS (fun i hi hlt => K5 i (by omega)) (by omega)
  replace x3 := x3.keep (fun _ => K5 _ (by omega))
  replace x4 := x4.keep (fun _ => K5 _ (by omega))
  rw [← hX5]
  clear hX5 B G3 K5 Z5 c3_0 z3_0 c3_1 z3_1 c3_2 z3_2 c3_3 z3_3 c3_4 z3_4 c3_5 z3_5 c3_6 z3_6 c1_0 c1_1 c1_2 c1_3 c1_4 c1_5 c1_6
  have G3 := N3
  have B := NB
  clear N3 NB
  simp only [List.setIfInBounds_toArray, List.set_cons_zero, List.set_cons_succ] at G3
  refine (toIntS_any _ _ _ X5 (h5.below B) (by omega)).mono ?_
  rintro e w5 ⟨u5, rfl, x5, bb5, -⟩
  replace x5 := x5.rd
  obtain ⟨pu5, cu5, eu5, -⟩ := id x5
  subst eu5
  have l5 : bl < X5.heap.size := hS0
  replace B := B.trans (bb5.mono B.size)
  replace G1 := (bb5.block _ (by omega)).trans G1
  replace G2 := (bb5.block _ (by omega)).trans G2
  replace G3 := (bb5.block _ (by omega)).trans G3
  replace hS0 := Nat.lt_of_lt_of_le hS0 bb5.size
  replace x0 := x0.keepS (fun i _ hlt => bb5.block i hlt) bb5.size
  replace x3 := x3.below bb5
  replace x4 := x4.below bb5
  clear bb5
  have c1_0 := SDeal_cell G1 0
  have c3_0 := SDeal_cell G3 0
  have z3_0 := SDeal_free G3 0
  have c1_1 := SDeal_cell G1 1
  have c3_1 := SDeal_cell G3 1
  have z3_1 := SDeal_free G3 1
  have c1_2 := SDeal_cell G1 2
  have c3_2 := SDeal_cell G3 2
  have z3_2 := SDeal_free G3 2
  have c1_3 := SDeal_cell G1 3
  have c3_3 := SDeal_cell G3 3
  have z3_3 := SDeal_free G3 3
  have c1_4 := SDeal_cell G1 4
  have c3_4 := SDeal_cell G3 4
  have z3_4 := SDeal_free G3 4
  have c1_5 := SDeal_cell G1 5
  have c3_5 := SDeal_cell G3 5
  have z3_5 := SDeal_free G3 5
  have c1_6 := SDeal_cell G1 6
  have c3_6 := SDeal_cell G3 6
  have z3_6 := SDeal_free G3 6
  have c2_0 := SDeal_cell G2 0
  have z2_0 := SDeal_free G2 0
  have c2_1 := SDeal_cell G2 1
  have z2_1 := SDeal_free G2 1
  have c2_2 := SDeal_cell G2 2
  have z2_2 := SDeal_free G2 2
  have c2_3 := SDeal_cell G2 3
  have z2_3 := SDeal_free G2 3
  have c2_4 := SDeal_cell G2 4
  have z2_4 := SDeal_free G2 4
  have c2_5 := SDeal_cell G2 5
  have z2_5 := SDeal_free G2 5
  have c2_6 := SDeal_cell G2 6
  have z2_6 := SDeal_free G2 6
  simp at c1_0 c3_0 c2_0 c1_1 c3_1 c2_1 c1_2 c3_2 c2_2 c1_3 c3_3 c2_3 c1_4 c3_4 c2_4 c1_5 c3_5 c2_5 c1_6 c3_6 c2_6
  go_wp2_with fail
  obtain ⟨X, hX⟩ : ∃ X, X = (((((((((w5.setCell ⟨bl, 5, none⟩ (.slice pu5 D.points.length cu5)).setCell ⟨bl, 6, none⟩ (.int .i64 D.left)).setCell ⟨br, 0, none⟩ (.slice pu0 D.hands.length cu0)).setCell ⟨br, 1, none⟩ (.int .i64 D.leader)).setCell ⟨br, 2, none⟩ (.int .i64 D.trump)).setCell ⟨br, 3, none⟩ (.slice pu3 D.trick.length cu3)).setCell ⟨br, 4, none⟩ (.slice pu4 D.won.length cu4)).setCell ⟨br, 5, none⟩ (.slice pu5 D.points.length cu5)).setCell ⟨br, 6, none⟩ (.int .i64 D.left)) := ⟨_, rfl⟩
  have G2a : ((w5.setCell ⟨bl, 5, none⟩ (.slice pu5 D.points.length cu5)).setCell ⟨bl, 6, none⟩ (.int .i64 D.left)).heap[br]? = some (.cells #[.slice none 0 0, .int .i64 0, .int .i64 0, .slice none 0 0, .slice none 0 0, .slice none 0 0, .int .i64 0] 31 (0, 0)) := (by rw [Below.heap_setCell _ _ _ _ (show br ≠ bl by omega), Below.heap_setCell _ _ _ _ (show br ≠ bl by omega)]; exact G2)
  have N2 := (SDeal_set (SDeal_set (SDeal_set (SDeal_set (SDeal_set (SDeal_set (SDeal_set G2a 0 (.slice pu0 D.hands.length cu0)) 1 (.int .i64 D.leader)) 2 (.int .i64 D.trump)) 3 (.slice pu3 D.trick.length cu3)) 4 (.slice pu4 D.won.length cu4)) 5 (.slice pu5 D.points.length cu5)) 6 (.int .i64 D.left))
  rw [← hX] at N2
  have K : ∀ i, i ≠ bl → i ≠ br → X.heap[i]? = w5.heap[i]? := fun i hi hr => by rw [hX]; rw [Below.heap_setCell _ _ _ _ hr, Below.heap_setCell _ _ _ _ hr, Below.heap_setCell _ _ _ _ hr, Below.heap_setCell _ _ _ _ hr, Below.heap_setCell _ _ _ _ hr, Below.heap_setCell _ _ _ _ hr, Below.heap_setCell _ _ _ _ hr, Below.heap_setCell _ _ _ _ hi, Below.heap_setCell _ _ _ _ hi]
  have Z : X.heap.size = w5.heap.size := by rw [hX]; simp [World.setCell]
  have NB : Below w.heap.size w X := by rw [hX]; exact (((((((((B.setCell (show w.heap.size ≤ bl by omega) (.slice pu5 D.points.length cu5)).setCell (show w.heap.size ≤ bl by omega) (.int .i64 D.left)).setCell (show w.heap.size ≤ br by omega) (.slice pu0 D.hands.length cu0)).setCell (show w.heap.size ≤ br by omega) (.int .i64 D.leader)).setCell (show w.heap.size ≤ br by omega) (.int .i64 D.trump)).setCell (show w.heap.size ≤ br by omega) (.slice pu3 D.trick.length cu3)).setCell (show w.heap.size ≤ br by omega) (.slice pu4 D.won.length cu4)).setCell (show w.heap.size ≤ br by omega) (.slice pu5 D.points.length cu5)).setCell (show w.heap.size ≤ br by omega) (.int .i64 D.left))
  rw [← hX]
  simp only [List.setIfInBounds_toArray, List.set_cons_zero, List.set_cons_succ] at N2
  replace x0 := x0.keepS (fun i hi hlt => K i (by omega) (by omega)) (by omega)
  replace x3 := x3.keep (fun _ => K _ (by omega) (by omega))
  replace x4 := x4.keep (fun _ => K _ (by omega) (by omega))
  replace x5 := x5.keep (fun _ => K _ (by omega) (by omega))
  (try simp only [Exit.inBlock, Exit.then]); refine bodyPost_ret (results_cell_row rfl _ _ br _ _ _ _ rfl N2 Tryd.underlying31 rfl (by kernel_rfl)) rfl ?_
  exact ⟨_, rfl, ⟨_, _, _, _, _, _, _, rfl, x0.rd, x3, x4, x5, wf1, wf2, wf6⟩, NB⟩

set_option linter.unusedVariables false in
set_option maxRecDepth 100000 in
set_option maxHeartbeats 1000000 in
theorem eqDeal_t (va vb : Value) (D : MDeal) (w : World) (ha : RdDeal w va D) (hb : RdDeal w vb D) (hf : D.Few) :
    Calls Tryd.prog 13 #[va, vb] w fun e w' => e = .returned (.bool true) ∧ Below w.heap.size w w' := by
  obtain ⟨v0, v3, v4, v5, b3, b4, b5, rfl, h0, h3, h4, h5, wf1, wf2, wf6⟩ := ha
  obtain ⟨y0, y3, y4, y5, d3, d4, d5, rfl, k0, k3, k4, k5, -, -, -⟩ := hb
  obtain ⟨f0, fs0, f3, f4, f5⟩ := hf
  have B : Below w.heap.size w ((w.alloc (.cells #[v0, .int .i64 D.leader, .int .i64 D.trump, v3, v4, v5, .int .i64 D.left] 31)).alloc (.cells #[y0, .int .i64 D.leader, .int .i64 D.trump, y3, y4, y5, .int .i64 D.left] 31)) := ((Below.refl _ _).alloc (Nat.le_refl _) _).alloc (by simp) _
  obtain ⟨W0, hW0⟩ : ∃ W0, W0 = ((w.alloc (.cells #[v0, .int .i64 D.leader, .int .i64 D.trump, v3, v4, v5, .int .i64 D.left] 31)).alloc (.cells #[y0, .int .i64 D.leader, .int .i64 D.trump, y3, y4, y5, .int .i64 D.left] 31)) := ⟨_, rfl⟩
  have G := SDeal_three w (.cells #[v0, .int .i64 D.leader, .int .i64 D.trump, v3, v4, v5, .int .i64 D.left] 31) (.cells #[y0, .int .i64 D.leader, .int .i64 D.trump, y3, y4, y5, .int .i64 D.left] 31) (.cells #[y0, .int .i64 D.leader, .int .i64 D.trump, y3, y4, y5, .int .i64 D.left] 31)
  have G1 : W0.heap[w.heap.size]? = some (.cells #[v0, .int .i64 D.leader, .int .i64 D.trump, v3, v4, v5, .int .i64 D.left] 31 (0, 0)) := by
    rw [hW0]; show ((w.heap.push _).push _)[_]? = _
    rw [Array.getElem?_push, if_neg (by simp), Array.getElem?_push, if_pos rfl]
  have G2 : W0.heap[w.heap.size + 1]? = some (.cells #[y0, .int .i64 D.leader, .int .i64 D.trump, y3, y4, y5, .int .i64 D.left] 31 (0, 0)) := by
    rw [hW0]; show ((w.heap.push _).push _)[_]? = _
    rw [Array.getElem?_push, if_pos (by simp)]
  have hS0 : w.heap.size + 2 ≤ W0.heap.size := by rw [hW0]; simp
  rw [← hW0] at B
  have HW := Lib.hid hW0
  clear hW0 G
  go_enter Tryd.func13, Tryd.ntmps13
  go_wp2_with fail
  rw [← HW.out]
  refine (eqIntSS_t _ _ _ W0 (h0.below B) (k0.below B) f0 fs0).mono ?_
  rintro e w0 ⟨rfl, bb0⟩
  replace B := B.trans (bb0.mono B.size)
  replace G1 := (bb0.block _ (by omega)).trans G1
  replace G2 := (bb0.block _ (by omega)).trans G2
  replace hS0 := Nat.le_trans hS0 bb0.size
  clear bb0
  have c1_0 := SDeal_cell G1 0
  have c2_0 := SDeal_cell G2 0
  have c1_1 := SDeal_cell G1 1
  have c2_1 := SDeal_cell G2 1
  have c1_2 := SDeal_cell G1 2
  have c2_2 := SDeal_cell G2 2
  have c1_3 := SDeal_cell G1 3
  have c2_3 := SDeal_cell G2 3
  have c1_4 := SDeal_cell G1 4
  have c2_4 := SDeal_cell G2 4
  have c1_5 := SDeal_cell G1 5
  have c2_5 := SDeal_cell G2 5
  have c1_6 := SDeal_cell G1 6
  have c2_6 := SDeal_cell G2 6
  simp at c1_0 c2_0 c1_1 c2_1 c1_2 c2_2 c1_3 c2_3 c1_4 c2_4 c1_5 c2_5 c1_6 c2_6
  go_wp2_with fail
  refine (eqIntS_t _ _ _ _ _ w0 (h3.below B) (k3.below B) (by omega)).mono ?_
  rintro e w3 ⟨rfl, bb3⟩
  replace B := B.trans (bb3.mono B.size)
  replace G1 := (bb3.block _ (by omega)).trans G1
  replace G2 := (bb3.block _ (by omega)).trans G2
  replace hS0 := Nat.le_trans hS0 bb3.size
  clear c1_0 c2_0 c1_1 c2_1 c1_2 c2_2 c1_3 c2_3 c1_4 c2_4 c1_5 c2_5 c1_6 c2_6
  clear bb3
  have c1_0 := SDeal_cell G1 0
  have c2_0 := SDeal_cell G2 0
  have c1_1 := SDeal_cell G1 1
  have c2_1 := SDeal_cell G2 1
  have c1_2 := SDeal_cell G1 2
  have c2_2 := SDeal_cell G2 2
  have c1_3 := SDeal_cell G1 3
  have c2_3 := SDeal_cell G2 3
  have c1_4 := SDeal_cell G1 4
  have c2_4 := SDeal_cell G2 4
  have c1_5 := SDeal_cell G1 5
  have c2_5 := SDeal_cell G2 5
  have c1_6 := SDeal_cell G1 6
  have c2_6 := SDeal_cell G2 6
  simp at c1_0 c2_0 c1_1 c2_1 c1_2 c2_2 c1_3 c2_3 c1_4 c2_4 c1_5 c2_5 c1_6 c2_6
  go_wp2_with fail
  refine (eqIntS_t _ _ _ _ _ w3 (h4.below B) (k4.below B) (by omega)).mono ?_
  rintro e w4 ⟨rfl, bb4⟩
  replace B := B.trans (bb4.mono B.size)
  replace G1 := (bb4.block _ (by omega)).trans G1
  replace G2 := (bb4.block _ (by omega)).trans G2
  replace hS0 := Nat.le_trans hS0 bb4.size
  clear c1_0 c2_0 c1_1 c2_1 c1_2 c2_2 c1_3 c2_3 c1_4 c2_4 c1_5 c2_5 c1_6 c2_6
  clear bb4
  have c1_0 := SDeal_cell G1 0
  have c2_0 := SDeal_cell G2 0
  have c1_1 := SDeal_cell G1 1
  have c2_1 := SDeal_cell G2 1
  have c1_2 := SDeal_cell G1 2
  have c2_2 := SDeal_cell G2 2
  have c1_3 := SDeal_cell G1 3
  have c2_3 := SDeal_cell G2 3
  have c1_4 := SDeal_cell G1 4
  have c2_4 := SDeal_cell G2 4
  have c1_5 := SDeal_cell G1 5
  have c2_5 := SDeal_cell G2 5
  have c1_6 := SDeal_cell G1 6
  have c2_6 := SDeal_cell G2 6
  simp at c1_0 c2_0 c1_1 c2_1 c1_2 c2_2 c1_3 c2_3 c1_4 c2_4 c1_5 c2_5 c1_6 c2_6
  go_wp2_with fail
  refine (eqIntS_t _ _ _ _ _ w4 (h5.below B) (k5.below B) (by omega)).mono ?_
  rintro e w5 ⟨rfl, bb5⟩
  replace B := B.trans (bb5.mono B.size)
  replace G1 := (bb5.block _ (by omega)).trans G1
  replace G2 := (bb5.block _ (by omega)).trans G2
  replace hS0 := Nat.le_trans hS0 bb5.size
  clear c1_0 c2_0 c1_1 c2_1 c1_2 c2_2 c1_3 c2_3 c1_4 c2_4 c1_5 c2_5 c1_6 c2_6
  clear bb5
  have c1_0 := SDeal_cell G1 0
  have c2_0 := SDeal_cell G2 0
  have c1_1 := SDeal_cell G1 1
  have c2_1 := SDeal_cell G2 1
  have c1_2 := SDeal_cell G1 2
  have c2_2 := SDeal_cell G2 2
  have c1_3 := SDeal_cell G1 3
  have c2_3 := SDeal_cell G2 3
  have c1_4 := SDeal_cell G1 4
  have c2_4 := SDeal_cell G2 4
  have c1_5 := SDeal_cell G1 5
  have c2_5 := SDeal_cell G2 5
  have c1_6 := SDeal_cell G1 6
  have c2_6 := SDeal_cell G2 6
  simp at c1_0 c2_0 c1_1 c2_1 c1_2 c2_2 c1_3 c2_3 c1_4 c2_4 c1_5 c2_5 c1_6 c2_6
  go_wp2_with fail
  go_ret
  exact ⟨rfl, B⟩

end Go.Proofs.YtbojhbhniollaaaDoor
namespace Go.Proofs.YtbojhbhniollaaaDoor
open Go.RowKit
set_option linter.unusedVariables false
set_option linter.unusedSimpArgs false

/-- .. and its lists may be written, each in blocks of its own out of S. -/
def WrDeal (S : Nat → Prop) (w : World) (v : Value) (D : MDeal) : Prop :=
  ∃ (p0 p3 p4 p5 : Option Addr) (c0 c3 c4 c5 : Nat) (S0 S3 S4 S5 : Nat → Prop), v = .agg #[.slice p0 D.hands.length c0, .int .i64 D.leader, .int .i64 D.trump, .slice p3 D.trick.length c3, .slice p4 D.won.length c4, .slice p5 D.points.length c5, .int .i64 D.left] ∧ WrSS .i64 S0 w (.slice p0 D.hands.length c0) D.hands ∧ WrIn .i64 S3 w (.slice p3 D.trick.length c3) D.trick ∧ WrIn .i64 S4 w (.slice p4 D.won.length c4) D.won ∧ WrIn .i64 S5 w (.slice p5 D.points.length c5) D.points ∧ (∀ b, S0 b → S b) ∧ (∀ b, S3 b → S b) ∧ (∀ b, S4 b → S b) ∧ (∀ b, S5 b → S b) ∧ (∀ b, S0 b → ¬ S3 b) ∧ (∀ b, S0 b → ¬ S4 b) ∧ (∀ b, S0 b → ¬ S5 b) ∧ (∀ b, S3 b → ¬ S4 b) ∧ (∀ b, S3 b → ¬ S5 b) ∧ (∀ b, S4 b → ¬ S5 b) ∧ (Lit.int .i64 D.leader).wf = true ∧ (Lit.int .i64 D.trump).wf = true ∧ (Lit.int .i64 D.left).wf = true
theorem WrDeal.rd {S : Nat → Prop} {w : World} {v : Value} {D : MDeal} (h : WrDeal S w v D) : RdDeal w v D := by
  obtain ⟨p0, p3, p4, p5, c0, c3, c4, c5, S0, S3, S4, S5, e, h0, h3, h4, h5, s0, s3, s4, s5, d0_1, d0_2, d0_3, d1_2, d1_3, d2_3, wf0, wf1, wf2⟩ := h
  have r0 := h0.rd
  obtain ⟨b3, r3⟩ := h3.rd
  obtain ⟨b4, r4⟩ := h4.rd
  obtain ⟨b5, r5⟩ := h5.rd
  exact ⟨_, _, _, _, b3, b4, b5, e, r0, r3, r4, r5, wf0, wf1, wf2⟩
theorem WrDeal.touch {S U : Nat → Prop} {w w' : World} {v : Value} {D : MDeal} (h : WrDeal S w v D) (t : Touch U w w') (hd : ∀ b, S b → ¬ U b) : WrDeal S w' v D := by
  obtain ⟨p0, p3, p4, p5, c0, c3, c4, c5, S0, S3, S4, S5, e, h0, h3, h4, h5, s0, s3, s4, s5, d0_1, d0_2, d0_3, d1_2, d1_3, d2_3, wf0, wf1, wf2⟩ := h
  exact ⟨p0, p3, p4, p5, c0, c3, c4, c5, S0, S3, S4, S5, e, h0.touch t (fun b hb => hd b (s0 b hb)), h3.touch t (fun b hb => hd b (s3 b hb)), h4.touch t (fun b hb => hd b (s4 b hb)), h5.touch t (fun b hb => hd b (s5 b hb)), s0, s3, s4, s5, d0_1, d0_2, d0_3, d1_2, d1_3, d2_3, wf0, wf1, wf2⟩
theorem WrDeal.below {S : Nat → Prop} {w w' : World} {v : Value} {D : MDeal} (h : WrDeal S w v D) (b : Below w.heap.size w w') : WrDeal S w' v D := h.touch (Below.touch (S := fun _ => False) b) (fun _ _ hx => hx)
theorem WrDeal.mono {S U : Nat → Prop} {w : World} {v : Value} {D : MDeal} (h : WrDeal S w v D) (hs : ∀ b, S b → U b) : WrDeal U w v D := by
  obtain ⟨p0, p3, p4, p5, c0, c3, c4, c5, S0, S3, S4, S5, e, h0, h3, h4, h5, s0, s3, s4, s5, d0_1, d0_2, d0_3, d1_2, d1_3, d2_3, wf0, wf1, wf2⟩ := h
  exact ⟨p0, p3, p4, p5, c0, c3, c4, c5, S0, S3, S4, S5, e, h0, h3, h4, h5, fun b hb => hs b (s0 b hb), fun b hb => hs b (s3 b hb), fun b hb => hs b (s4 b hb), fun b hb => hs b (s5 b hb), d0_1, d0_2, d0_3, d1_2, d1_3, d2_3, wf0, wf1, wf2⟩
theorem WrDeal.shape {S : Nat → Prop} {w : World} {v : Value} {D : MDeal} (h : WrDeal S w v D) : ∃ (p0 p3 p4 p5 : Option Addr) (c0 c3 c4 c5 : Nat), v = .agg #[.slice p0 D.hands.length c0, .int .i64 D.leader, .int .i64 D.trump, .slice p3 D.trick.length c3, .slice p4 D.won.length c4, .slice p5 D.points.length c5, .int .i64 D.left] := by
  obtain ⟨p0, p3, p4, p5, c0, c3, c4, c5, S0, S3, S4, S5, e, h0, h3, h4, h5, s0, s3, s4, s5, d0_1, d0_2, d0_3, d1_2, d1_3, d2_3, wf0, wf1, wf2⟩ := h
  exact ⟨p0, p3, p4, p5, c0, c3, c4, c5, e⟩

set_option maxRecDepth 100000 in
set_option maxHeartbeats 1000000 in
theorem toDeal_w (v : Value) (D : MDeal) (w : World) (h : RdDeal w v D) (hf : D.Few) :
    Calls Tryd.prog 10 #[v] w fun e w' => ∃ v', e = .returned v' ∧ WrDeal (In w.heap.size w'.heap.size) w' v' D ∧ Below w.heap.size w w' := by
  obtain ⟨v0, v3, v4, v5, b3, b4, b5, rfl, h0, h3, h4, h5, wf0, wf1, wf2⟩ := h
  obtain ⟨p0, c0, e0, -⟩ := id h0
  subst e0
  obtain ⟨p3, c3, e3, -⟩ := id h3
  subst e3
  obtain ⟨p4, c4, e4, -⟩ := id h4
  subst e4
  obtain ⟨p5, c5, e5, -⟩ := id h5
  subst e5
  obtain ⟨f0, fs0, f3, f4, f5⟩ := hf
  have Q := Lib.hid (threeBoxes w (.cells #[.slice p0 D.hands.length c0, .int .i64 D.leader, .int .i64 D.trump, .slice p3 D.trick.length c3, .slice p4 D.won.length c4, .slice p5 D.points.length c5, .int .i64 D.left] 25) (.cells #[.slice none 0 0, .int .i64 0, .int .i64 0, .slice none 0 0, .slice none 0 0, .slice none 0 0, .int .i64 0] 31) (.cells #[.slice none 0 0, .int .i64 0, .int .i64 0, .slice none 0 0, .slice none 0 0, .slice none 0 0, .int .i64 0] 31))
  obtain ⟨W0, hW0⟩ : ∃ W0, W0 = (((w.alloc (.cells #[.slice p0 D.hands.length c0, .int .i64 D.leader, .int .i64 D.trump, .slice p3 D.trick.length c3, .slice p4 D.won.length c4, .slice p5 D.points.length c5, .int .i64 D.left] 25)).alloc (.cells #[.slice none 0 0, .int .i64 0, .int .i64 0, .slice none 0 0, .slice none 0 0, .slice none 0 0, .int .i64 0] 31)).alloc (.cells #[.slice none 0 0, .int .i64 0, .int .i64 0, .slice none 0 0, .slice none 0 0, .slice none 0 0, .int .i64 0] 31)) := ⟨_, rfl⟩
  have B : Below w.heap.size w W0 := by rw [hW0]; exact (((Below.refl _ _).alloc (Nat.le_refl _) _).alloc (by simp) _).alloc (by simp; omega) _
  obtain ⟨bl, hbl⟩ : ∃ b, b = w.heap.size + 1 + 1 := ⟨_, rfl⟩
  obtain ⟨br, hbr⟩ : ∃ b, b = w.heap.size + 1 := ⟨_, rfl⟩
  have hS0 : bl < W0.heap.size := by rw [hW0, hbl]; simp
  rw [← hW0] at Q
  have HW := Lib.hid hW0
  clear hW0
  obtain ⟨G1, G2, G3⟩ := Q.out
  clear Q
  have e3 : w.heap.size + 2 = bl := by omega
  rw [← hbr] at G2
  rw [e3] at G3
  have hd1 : w.heap.size < br := by omega
  have hd2 : br < bl := by omega
  have Hbl := Lib.hid hbl
  have Hbr := Lib.hid hbr
  clear hbl hbr e3
  go_enter Tryd.func10, Tryd.ntmps10
  go_wp2_with fail
  rw [← HW.out, ← Hbl.out, ← Hbr.out]
  refine (toIntSS_any _ _ W0 (h0.below B) f0 fs0).mono ?_
  rintro e w0 ⟨u0, rfl, y0, bb⟩
  have x0 := y0.ss
  clear y0
  obtain ⟨pu0, cu0, eu⟩ := x0.shape
  subst eu
  have l0 : bl < W0.heap.size := hS0
  have HQ0 : Hid (W0.heap.size ≤ w0.heap.size) := Lib.hid bb.size
  have HB0 : Hid (w.heap.size ≤ W0.heap.size) := Lib.hid B.size
  replace B := B.trans (bb.mono B.size)
  replace G1 := (bb.block _ (by omega)).trans G1
  replace G2 := (bb.block _ (by omega)).trans G2
  replace G3 := (bb.block _ (by omega)).trans G3
  replace hS0 := Nat.lt_of_lt_of_le hS0 bb.size
  clear bb
  have c1_1 := box_cell G1 1
  have c1_2 := box_cell G1 2
  have c1_3 := box_cell G1 3
  have c3_0 := box_cell G3 0
  have z3_0 := box_free G3 0
  have c3_1 := box_cell G3 1
  have z3_1 := box_free G3 1
  have c3_2 := box_cell G3 2
  have z3_2 := box_free G3 2
  simp at c1_1 c1_2 c1_3 c3_0 c3_1 c3_2
  go_wp2_with fail
  obtain ⟨X3, hX3⟩ : ∃ X, X = (((w0.setCell ⟨bl, 0, none⟩ (.slice pu0 D.hands.length cu0)).setCell ⟨bl, 1, none⟩ (.int .i64 D.leader)).setCell ⟨bl, 2, none⟩ (.int .i64 D.trump)) := ⟨_, rfl⟩
  have N3 := (box_set (box_set (box_set G3 0 (.slice pu0 D.hands.length cu0)) 1 (.int .i64 D.leader)) 2 (.int .i64 D.trump))
  rw [← hX3] at N3
  have K3 : ∀ i, i ≠ bl → X3.heap[i]? = w0.heap[i]? := fun i hi => by rw [hX3]; rw [Below.heap_setCell _ _ _ _ hi, Below.heap_setCell _ _ _ _ hi, Below.heap_setCell _ _ _ _ hi]
  have Z3 : X3.heap.size = w0.heap.size := by rw [hX3]; simp [World.setCell]
  have NB : Below w.heap.size w X3 := by rw [hX3]; exact (((B.setCell (show w.heap.size ≤ bl by omega) (.slice pu0 D.hands.length cu0)).setCell (show w.heap.size ≤ bl by omega) (.int .i64 D.leader)).setCell (show w.heap.size ≤ bl by omega) (.int .i64 D.trump))
  have b0 : Below 0 w0 X3 := by rw [hX3]; exact ((((Below.refl 0 w0).setCell (Nat.zero_le _) (.slice pu0 D.hands.length cu0)).setCell (Nat.zero_le _) (.int .i64 D.leader)).setCell (Nat.zero_le _) (.int .i64 D.trump))
  have tX : Touch (fun k => k = bl) w0 X3 := ⟨b0.os, b0.tape, b0.output, b0.size, fun k _ hn => K3 k hn⟩
  clear b0
  replace G1 := (K3 _ (by omega)).trans G1
  replace G2 := (K3 _ (by omega)).trans G2
  replace hS0 : bl < X3.heap.size := by rw [Z3]; exact hS0
  replace x0 := x0.touch tX (fun b h1 h2 => by have := h1.1; have := l0; omega)
  have HZ3 := Lib.hid Z3
  rw [← hX3]
  clear hX3 B G3 K3 Z3 tX c1_1 c1_2 c1_3 c3_0 z3_0 c3_1 z3_1 c3_2 z3_2
  have G3 := N3
  have B := NB
  clear N3 NB
  simp only [List.setIfInBounds_toArray, List.set_cons_zero, List.set_cons_succ] at G3
  refine (toIntS_any _ _ _ X3 (h3.below B) (by omega)).mono ?_
  rintro e w3 ⟨u3, rfl, y3, bb, -⟩
  have x3 := WrIn.of (lo := X3.heap.size) y3 (Nat.le_refl _)
  clear y3
  obtain ⟨pu3, cu3, eu⟩ := x3.shape
  subst eu
  have l3 : bl < X3.heap.size := hS0
  have HQ3 : Hid (X3.heap.size ≤ w3.heap.size) := Lib.hid bb.size
  have HB3 : Hid (w.heap.size ≤ X3.heap.size) := Lib.hid B.size
  replace B := B.trans (bb.mono B.size)
  replace G1 := (bb.block _ (by omega)).trans G1
  replace G2 := (bb.block _ (by omega)).trans G2
  replace G3 := (bb.block _ (by omega)).trans G3
  replace hS0 := Nat.lt_of_lt_of_le hS0 bb.size
  replace x0 := x0.touch (Below.touch (S := fun _ => False) bb) (fun _ _ hx => hx)
  clear bb
  have c1_4 := box_cell G1 4
  have c3_3 := box_cell G3 3
  have z3_3 := box_free G3 3
  simp at c1_4 c3_3
  go_wp2_with fail
  obtain ⟨X4, hX4⟩ : ∃ X, X = (w3.setCell ⟨bl, 3, none⟩ (.slice pu3 D.trick.length cu3)) := ⟨_, rfl⟩
  have N3 := (box_set G3 3 (.slice pu3 D.trick.length cu3))
  rw [← hX4] at N3
  have K4 : ∀ i, i ≠ bl → X4.heap[i]? = w3.heap[i]? := fun i hi => by rw [hX4]; rw [Below.heap_setCell _ _ _ _ hi]
  have Z4 : X4.heap.size = w3.heap.size := by rw [hX4]; simp [World.setCell]
  have NB : Below w.heap.size w X4 := by rw [hX4]; exact (B.setCell (show w.heap.size ≤ bl by omega) (.slice pu3 D.trick.length cu3))
  have b0 : Below 0 w3 X4 := by rw [hX4]; exact ((Below.refl 0 w3).setCell (Nat.zero_le _) (.slice pu3 D.trick.length cu3))
  have tX : Touch (fun k => k = bl) w3 X4 := ⟨b0.os, b0.tape, b0.output, b0.size, fun k _ hn => K4 k hn⟩
  clear b0
  replace G1 := (K4 _ (by omega)).trans G1
  replace G2 := (K4 _ (by omega)).trans G2
  replace hS0 : bl < X4.heap.size := by rw [Z4]; exact hS0
  replace x0 := x0.touch tX (fun b h1 h2 => by have := h1.1; have := l0; omega)
  replace x3 := x3.touch tX (fun b h1 h2 => by have := h1.1; have := l3; omega)
  have HZ4 := Lib.hid Z4
  rw [← hX4]
  clear hX4 B G3 K4 Z4 tX c1_4 c3_3 z3_3
  have G3 := N3
  have B := NB
  clear N3 NB
  simp only [List.setIfInBounds_toArray, List.set_cons_zero, List.set_cons_succ] at G3
  refine (toIntS_any _ _ _ X4 (h4.below B) (by omega)).mono ?_
  rintro e w4 ⟨u4, rfl, y4, bb, -⟩
  have x4 := WrIn.of (lo := X4.heap.size) y4 (Nat.le_refl _)
  clear y4
  obtain ⟨pu4, cu4, eu⟩ := x4.shape
  subst eu
  have l4 : bl < X4.heap.size := hS0
  have HQ4 : Hid (X4.heap.size ≤ w4.heap.size) := Lib.hid bb.size
  have HB4 : Hid (w.heap.size ≤ X4.heap.size) := Lib.hid B.size
  replace B := B.trans (bb.mono B.size)
  replace G1 := (bb.block _ (by omega)).trans G1
  replace G2 := (bb.block _ (by omega)).trans G2
  replace G3 := (bb.block _ (by omega)).trans G3
  replace hS0 := Nat.lt_of_lt_of_le hS0 bb.size
  replace x0 := x0.touch (Below.touch (S := fun _ => False) bb) (fun _ _ hx => hx)
  replace x3 := x3.touch (Below.touch (S := fun _ => False) bb) (fun _ _ hx => hx)
  clear bb
  have c1_5 := box_cell G1 5
  have c3_4 := box_cell G3 4
  have z3_4 := box_free G3 4
  simp at c1_5 c3_4
  go_wp2_with fail
  obtain ⟨X5, hX5⟩ : ∃ X, X = (w4.setCell ⟨bl, 4, none⟩ (.slice pu4 D.won.length cu4)) := ⟨_, rfl⟩
  have N3 := (box_set G3 4 (.slice pu4 D.won.length cu4))
  rw [← hX5] at N3
  have K5 : ∀ i, i ≠ bl → X5.heap[i]? = w4.heap[i]? := fun i hi => by rw [hX5]; rw [Below.heap_setCell _ _ _ _ hi]
  have Z5 : X5.heap.size = w4.heap.size := by rw [hX5]; simp [World.setCell]
  have NB : Below w.heap.size w X5 := by rw [hX5]; exact (B.setCell (show w.heap.size ≤ bl by omega) (.slice pu4 D.won.length cu4))
  have b0 : Below 0 w4 X5 := by rw [hX5]; exact ((Below.refl 0 w4).setCell (Nat.zero_le _) (.slice pu4 D.won.length cu4))
  have tX : Touch (fun k => k = bl) w4 X5 := ⟨b0.os, b0.tape, b0.output, b0.size, fun k _ hn => K5 k hn⟩
  clear b0
  replace G1 := (K5 _ (by omega)).trans G1
  replace G2 := (K5 _ (by omega)).trans G2
  replace hS0 : bl < X5.heap.size := by rw [Z5]; exact hS0
  replace x0 := x0.touch tX (fun b h1 h2 => by have := h1.1; have := l0; omega)
  replace x3 := x3.touch tX (fun b h1 h2 => by have := h1.1; have := l3; omega)
  replace x4 := x4.touch tX (fun b h1 h2 => by have := h1.1; have := l4; omega)
  have HZ5 := Lib.hid Z5
  rw [← hX5]
  clear hX5 B G3 K5 Z5 tX c1_5 c3_4 z3_4
  have G3 := N3
  have B := NB
  clear N3 NB
  simp only [List.setIfInBounds_toArray, List.set_cons_zero, List.set_cons_succ] at G3
  refine (toIntS_any _ _ _ X5 (h5.below B) (by omega)).mono ?_
  rintro e w5 ⟨u5, rfl, y5, bb, -⟩
  have x5 := WrIn.of (lo := X5.heap.size) y5 (Nat.le_refl _)
  clear y5
  obtain ⟨pu5, cu5, eu⟩ := x5.shape
  subst eu
  have l5 : bl < X5.heap.size := hS0
  have HQ5 : Hid (X5.heap.size ≤ w5.heap.size) := Lib.hid bb.size
  have HB5 : Hid (w.heap.size ≤ X5.heap.size) := Lib.hid B.size
  replace B := B.trans (bb.mono B.size)
  replace G1 := (bb.block _ (by omega)).trans G1
  replace G2 := (bb.block _ (by omega)).trans G2
  replace G3 := (bb.block _ (by omega)).trans G3
  replace hS0 := Nat.lt_of_lt_of_le hS0 bb.size
  replace x0 := x0.touch (Below.touch (S := fun _ => False) bb) (fun _ _ hx => hx)
  replace x3 := x3.touch (Below.touch (S := fun _ => False) bb) (fun _ _ hx => hx)
  replace x4 := x4.touch (Below.touch (S := fun _ => False) bb) (fun _ _ hx => hx)
  clear bb
  have c1_6 := box_cell G1 6
  have c3_5 := box_cell G3 5
  have z3_5 := box_free G3 5
  have c3_6 := box_cell G3 6
  have z3_6 := box_free G3 6
  simp at c1_6 c3_5 c3_6
  have G3f := (box_set (box_set G3 5 (.slice pu5 D.points.length cu5)) 6 (.int .i64 D.left))
  simp only [List.setIfInBounds_toArray, List.set_cons_zero, List.set_cons_succ] at G3f
  have G2a : ((w5.setCell ⟨bl, 5, none⟩ (.slice pu5 D.points.length cu5)).setCell ⟨bl, 6, none⟩ (.int .i64 D.left)).heap[br]? = some (.cells #[.slice none 0 0, .int .i64 0, .int .i64 0, .slice none 0 0, .slice none 0 0, .slice none 0 0, .int .i64 0] 31 (0, 0)) := by
    rw [Below.heap_setCell _ _ _ _ (show br ≠ bl by omega), Below.heap_setCell _ _ _ _ (show br ≠ bl by omega)]; exact G2
  obtain ⟨X0, hX0⟩ : ∃ X, X = ((w5.setCell ⟨bl, 5, none⟩ (.slice pu5 D.points.length cu5)).setCell ⟨bl, 6, none⟩ (.int .i64 D.left)) := ⟨_, rfl⟩
  have G3x : X0.heap[bl]? = some (.cells #[.slice pu0 D.hands.length cu0, .int .i64 D.leader, .int .i64 D.trump, .slice pu3 D.trick.length cu3, .slice pu4 D.won.length cu4, .slice pu5 D.points.length cu5, .int .i64 D.left] 31 (0, 0)) := by rw [hX0]; exact G3f
  have G2x : X0.heap[br]? = some (.cells #[.slice none 0 0, .int .i64 0, .int .i64 0, .slice none 0 0, .slice none 0 0, .slice none 0 0, .int .i64 0] 31 (0, 0)) := by rw [hX0]; exact G2a
  have HX0 := Lib.hid hX0
  clear G3f G2a hX0
  go_upto_region 9 with fail
  rw [← HX0.out]
  clear c1_6 c3_5 z3_5 c3_6 z3_6
  refine wp_region_lit ?_
  refine wpList_load_row rfl 31 _ rfl bl rfl 31 _ _ _ G3x Tryd.underlying31 rfl (by kernel_rfl) ?_
  refine wpList_store_row rfl 31 _ _ rfl br #[.slice pu0 D.hands.length cu0, .int .i64 D.leader, .int .i64 D.trump, .slice pu3 D.trick.length cu3, .slice pu4 D.won.length cu4, .slice pu5 D.points.length cu5, .int .i64 D.left] rfl rfl 31 _ G2x (by kernel_rfl) rfl (by simp [Value.oneCell']) ?_
  go_wp2_with fail
  obtain ⟨X, hX⟩ : ∃ X, X = (X0.setRow br #[.slice pu0 D.hands.length cu0, .int .i64 D.leader, .int .i64 D.trump, .slice pu3 D.trick.length cu3, .slice pu4 D.won.length cu4, .slice pu5 D.points.length cu5, .int .i64 D.left]) := ⟨_, rfl⟩
  have N2 := setRow_heap X0 br _ #[.slice pu0 D.hands.length cu0, .int .i64 D.leader, .int .i64 D.trump, .slice pu3 D.trick.length cu3, .slice pu4 D.won.length cu4, .slice pu5 D.points.length cu5, .int .i64 D.left] _ _ G2x
  rw [← hX] at N2
  have K : ∀ i, i ≠ bl → i ≠ br → X.heap[i]? = w5.heap[i]? := fun i hi hr => by rw [hX, HX0.out]; rw [setRow_other _ _ _ _ hr, Below.heap_setCell _ _ _ _ hi, Below.heap_setCell _ _ _ _ hi]
  have Z : X.heap.size = w5.heap.size := by rw [hX, HX0.out]; simp [World.setCell]
  have NB : Below w.heap.size w X := by rw [hX, HX0.out]; exact below_setRow ((B.setCell (show w.heap.size ≤ bl by omega) (.slice pu5 D.points.length cu5)).setCell (show w.heap.size ≤ bl by omega) (.int .i64 D.left)) (by omega) _
  have b0 : Below 0 w5 X := by rw [hX, HX0.out]; exact below_setRow (((Below.refl 0 w5).setCell (Nat.zero_le _) (.slice pu5 D.points.length cu5)).setCell (Nat.zero_le _) (.int .i64 D.left)) (Nat.zero_le _) _
  have tX : Touch (fun k => k = bl ∨ k = br) w5 X := ⟨b0.os, b0.tape, b0.output, b0.size, fun k _ hn => K k (fun e => hn (.inl e)) (fun e => hn (.inr e))⟩
  clear b0
  rw [← hX]
  replace x0 := x0.touch tX (fun b h1 h2 => by have := h1.1; have := l0; omega)
  replace x3 := x3.touch tX (fun b h1 h2 => by have := h1.1; have := l3; omega)
  replace x4 := x4.touch tX (fun b h1 h2 => by have := h1.1; have := l4; omega)
  replace x5 := x5.touch tX (fun b h1 h2 => by have := h1.1; have := l5; omega)
  have q0 := HQ0.out
  have qb0 := HB0.out
  have q3 := HQ3.out
  have qb3 := HB3.out
  have q4 := HQ4.out
  have qb4 := HB4.out
  have q5 := HQ5.out
  have qb5 := HB5.out
  have qz3 := HZ3.out
  have qz4 := HZ4.out
  have qz5 := HZ5.out
  have HWr : WrDeal (In w.heap.size X.heap.size) X (.agg #[.slice pu0 D.hands.length cu0, .int .i64 D.leader, .int .i64 D.trump, .slice pu3 D.trick.length cu3, .slice pu4 D.won.length cu4, .slice pu5 D.points.length cu5, .int .i64 D.left]) D := ⟨pu0, pu3, pu4, pu5, cu0, cu3, cu4, cu5, (In W0.heap.size w0.heap.size), (In X3.heap.size w3.heap.size), (In X4.heap.size w4.heap.size), (In X5.heap.size w5.heap.size), rfl, x0, x3, x4, x5, (fun b hb => by obtain ⟨h1, h2⟩ := hb; constructor <;> omega), (fun b hb => by obtain ⟨h1, h2⟩ := hb; constructor <;> omega), (fun b hb => by obtain ⟨h1, h2⟩ := hb; constructor <;> omega), (fun b hb => by obtain ⟨h1, h2⟩ := hb; constructor <;> omega), (fun b h1 h2 => by obtain ⟨a1, a2⟩ := h1; obtain ⟨a3, a4⟩ := h2; omega), (fun b h1 h2 => by obtain ⟨a1, a2⟩ := h1; obtain ⟨a3, a4⟩ := h2; omega), (fun b h1 h2 => by obtain ⟨a1, a2⟩ := h1; obtain ⟨a3, a4⟩ := h2; omega), (fun b h1 h2 => by obtain ⟨a1, a2⟩ := h1; obtain ⟨a3, a4⟩ := h2; omega), (fun b h1 h2 => by obtain ⟨a1, a2⟩ := h1; obtain ⟨a3, a4⟩ := h2; omega), (fun b h1 h2 => by obtain ⟨a1, a2⟩ := h1; obtain ⟨a3, a4⟩ := h2; omega), wf0, wf1, wf2⟩
  (try simp only [Exit.inBlock, Exit.then]); refine bodyPost_ret (results_cell_row rfl _ _ br _ _ _ _ rfl N2 Tryd.underlying31 rfl (by kernel_rfl)) rfl ?_
  exact ⟨_, rfl, HWr, NB⟩
def MDeal.total (D : MDeal) : Nat := sumLen D.hands + D.trick.length + D.won.length + D.points.length
def MDeal.marked (D : MDeal) (k : Int) : MDeal := { D with hands := marksII (k) D.hands, trick := marksI (k + (sumLen D.hands : Nat)) D.trick.length, won := marksI (k + (sumLen D.hands : Nat) + (D.trick.length : Nat)) D.won.length, points := marksI (k + (sumLen D.hands : Nat) + (D.trick.length : Nat) + (D.won.length : Nat)) D.points.length }
theorem MDeal.total_le {D : MDeal} (hf : D.Few) : D.total ≤ 4194304 := by
  obtain ⟨f0, fs0, f3, f4, f5⟩ := hf
  unfold MDeal.total
  omega
set_option maxRecDepth 100000 in
set_option maxHeartbeats 1000000 in
theorem markDeal_any {S : Nat → Prop} (v : Value) (D : MDeal) (k : Int) (w : World) (h : WrDeal S w v D) (hf : D.Few) (k0 : 0 ≤ k) (k1 : k ≤ 1099400000000) (hS : ∀ b, S b → b < w.heap.size) :
    Calls Tryd.prog 14 #[v, .int .i64 k] w fun e w' => e = .returned (.int .i64 (k + (D.total : Nat))) ∧ WrDeal S w' v (D.marked k) ∧ Touch S w w' := by
  obtain ⟨p0, p3, p4, p5, c0, c3, c4, c5, S0, S3, S4, S5, rfl, h0, h3, h4, h5, s0, s3, s4, s5, d0_1, d0_2, d0_3, d1_2, d1_3, d2_3, wf0, wf1, wf2⟩ := h
  obtain ⟨f0, fs0, f3, f4, f5⟩ := hf
  unfold MDeal.total
  obtain ⟨n0, hn0⟩ : ∃ n, n = sumLen D.hands := ⟨_, rfl⟩
  have Hn0 := Lib.hid hn0
  obtain ⟨n3, hn3⟩ : ∃ n, n = D.trick.length := ⟨_, rfl⟩
  have Hn3 := Lib.hid hn3
  obtain ⟨n4, hn4⟩ : ∃ n, n = D.won.length := ⟨_, rfl⟩
  have Hn4 := Lib.hid hn4
  obtain ⟨n5, hn5⟩ : ∃ n, n = D.points.length := ⟨_, rfl⟩
  have Hn5 := Lib.hid hn5
  have nb0 : n0 ≤ 1048576 := by omega
  have nb3 : n3 ≤ 1048576 := by omega
  have nb4 : n4 ≤ 1048576 := by omega
  have nb5 : n5 ≤ 1048576 := by omega
  clear hn0 hn3 hn4 hn5
  obtain ⟨W0, hW0⟩ : ∃ W, W = w.alloc (.cells #[.slice p0 D.hands.length c0, .int .i64 D.leader, .int .i64 D.trump, .slice p3 D.trick.length c3, .slice p4 D.won.length c4, .slice p5 D.points.length c5, .int .i64 D.left] 31) := ⟨_, rfl⟩
  have G1 : W0.heap[w.heap.size]? = some (.cells #[.slice p0 D.hands.length c0, .int .i64 D.leader, .int .i64 D.trump, .slice p3 D.trick.length c3, .slice p4 D.won.length c4, .slice p5 D.points.length c5, .int .i64 D.left] 31 (0, 0)) := by rw [hW0]; exact heap_alloc_new _ _
  have B : Below w.heap.size w W0 := by rw [hW0]; exact (Below.refl _ _).alloc (Nat.le_refl _) _
  have l1 : w.heap.size < W0.heap.size := by rw [hW0]; simp
  have HW := Lib.hid hW0
  clear hW0
  replace h0 := h0.touch (Below.touch (S := fun _ => False) B) (fun _ _ hx => hx)
  have z0 : ∀ b, S0 b → b < w.heap.size := fun b hb => hS b (s0 b hb)
  replace h3 := h3.touch (Below.touch (S := fun _ => False) B) (fun _ _ hx => hx)
  have z3 : ∀ b, S3 b → b < w.heap.size := fun b hb => hS b (s3 b hb)
  replace h4 := h4.touch (Below.touch (S := fun _ => False) B) (fun _ _ hx => hx)
  have z4 : ∀ b, S4 b → b < w.heap.size := fun b hb => hS b (s4 b hb)
  replace h5 := h5.touch (Below.touch (S := fun _ => False) B) (fun _ _ hx => hx)
  have z5 : ∀ b, S5 b → b < w.heap.size := fun b hb => hS b (s5 b hb)
  have TT : Touch S w W0 := Below.touch B
  go_enter Tryd.func14, Tryd.ntmps14
  go_wp2_with fail
  rw [← HW.out]
  refine (markIntSS_any _ _ (k) _ h0 f0 fs0 (by omega) (by omega)).mono ?_
  rintro e w0 ⟨he, hw0, tt, -⟩
  rw [← Hn0.out] at he
  subst he
  replace G1 := touch_heap tt G1 (fun hb => absurd (z0 _ hb) (Nat.lt_irrefl _))
  replace l1 := Nat.lt_of_lt_of_le l1 tt.size
  replace TT := TT.trans (tt.mono s0)
  replace h3 := h3.touch tt (fun b h1 h2 => d0_1 b h2 h1)
  replace h4 := h4.touch tt (fun b h1 h2 => d0_2 b h2 h1)
  replace h5 := h5.touch tt (fun b h1 h2 => d0_3 b h2 h1)
  clear tt
  have k3 := box_cell G1 3
  simp at k3
  go_wp2_with fail
  refine (markIn h3 (k := k + (n0 : Int)) (by omega) (by omega) (by omega)).mono ?_
  rintro e w3 ⟨he, hw3, tt, -⟩
  rw [← Hn3.out] at he
  subst he
  replace G1 := touch_heap tt G1 (fun hb => absurd (z3 _ hb) (Nat.lt_irrefl _))
  replace l1 := Nat.lt_of_lt_of_le l1 tt.size
  replace TT := TT.trans (tt.mono s3)
  replace hw0 := hw0.touch tt d0_1
  replace h4 := h4.touch tt (fun b h1 h2 => d1_2 b h2 h1)
  replace h5 := h5.touch tt (fun b h1 h2 => d1_3 b h2 h1)
  clear tt
  clear k3
  have k4 := box_cell G1 4
  simp at k4
  go_wp2_with fail
  refine (markIn h4 (k := k + (n0 : Int) + (n3 : Int)) (by omega) (by omega) (by omega)).mono ?_
  rintro e w4 ⟨he, hw4, tt, -⟩
  rw [← Hn4.out] at he
  subst he
  replace G1 := touch_heap tt G1 (fun hb => absurd (z4 _ hb) (Nat.lt_irrefl _))
  replace l1 := Nat.lt_of_lt_of_le l1 tt.size
  replace TT := TT.trans (tt.mono s4)
  replace hw0 := hw0.touch tt d0_2
  replace hw3 := hw3.touch tt d1_2
  replace h5 := h5.touch tt (fun b h1 h2 => d2_3 b h2 h1)
  clear tt
  clear k4
  have k5 := box_cell G1 5
  simp at k5
  go_wp2_with fail
  refine (markIn h5 (k := k + (n0 : Int) + (n3 : Int) + (n4 : Int)) (by omega) (by omega) (by omega)).mono ?_
  rintro e w5 ⟨he, hw5, tt, -⟩
  rw [← Hn5.out] at he
  subst he
  replace G1 := touch_heap tt G1 (fun hb => absurd (z5 _ hb) (Nat.lt_irrefl _))
  replace l1 := Nat.lt_of_lt_of_le l1 tt.size
  replace TT := TT.trans (tt.mono s5)
  replace hw0 := hw0.touch tt d0_3
  replace hw3 := hw3.touch tt d1_3
  replace hw4 := hw4.touch tt d2_3
  clear tt
  clear k5
  go_wp2_with fail
  go_ret
  have hn0 := Hn0.out
  have hn3 := Hn3.out
  have hn4 := Hn4.out
  have hn5 := Hn5.out
  refine ⟨congrArg (fun z => Ending.returned (.int .i64 z)) (show k + (n0 : Int) + (n3 : Int) + (n4 : Int) + (n5 : Int) = k + ((sumLen D.hands + D.trick.length + D.won.length + D.points.length : Nat) : Int) by omega), ?_, TT⟩
  subst hn0
  subst hn3
  subst hn4
  subst hn5
  unfold MDeal.marked
  refine ⟨p0, p3, p4, p5, c0, c3, c4, c5, S0, S3, S4, S5, ?_, ?_, ?_, ?_, ?_, s0, s3, s4, s5, d0_1, d0_2, d0_3, d1_2, d1_3, d2_3, wf0, wf1, wf2⟩
  · simp [marksI_length, marksII_length]
  · have := hw0
    simpa [marksI_length, marksII_length] using this
  · have := hw3
    simpa [marksI_length, marksII_length] using this
  · have := hw4
    simpa [marksI_length, marksII_length] using this
  · have := hw5
    simpa [marksI_length, marksII_length] using this
set_option maxRecDepth 100000 in
set_option maxHeartbeats 1000000 in
theorem heldDeal_any (v : Value) (D : MDeal) (k : Int) (w : World) (h : RdDeal w v (D.marked k)) (hf : D.Few) (k0 : 0 ≤ k) (k1 : k ≤ 1099400000000) :
    Calls Tryd.prog 19 #[v, .int .i64 k] w fun e w' => e = .returned (.int .i64 (k + (D.total : Nat))) ∧ Below w.heap.size w w' := by
  obtain ⟨v0, v3, v4, v5, b3, b4, b5, rfl, h0, h3, h4, h5, wf0, wf1, wf2⟩ := h
  obtain ⟨p0, c0, e0, -⟩ := id h0
  subst e0
  obtain ⟨p3, c3, e3, -⟩ := id h3
  subst e3
  obtain ⟨p4, c4, e4, -⟩ := id h4
  subst e4
  obtain ⟨p5, c5, e5, -⟩ := id h5
  subst e5
  obtain ⟨f0, fs0, f3, f4, f5⟩ := hf
  unfold MDeal.total
  unfold MDeal.marked at *
  dsimp only at *
  skip
  skip
  skip
  simp only [marksI_length, marksII_length] at *
  obtain ⟨n0, hn0⟩ : ∃ n, n = sumLen D.hands := ⟨_, rfl⟩
  have Hn0 := Lib.hid hn0
  obtain ⟨n3, hn3⟩ : ∃ n, n = D.trick.length := ⟨_, rfl⟩
  have Hn3 := Lib.hid hn3
  obtain ⟨n4, hn4⟩ : ∃ n, n = D.won.length := ⟨_, rfl⟩
  have Hn4 := Lib.hid hn4
  obtain ⟨n5, hn5⟩ : ∃ n, n = D.points.length := ⟨_, rfl⟩
  have Hn5 := Lib.hid hn5
  have nb0 : n0 ≤ 1048576 := by omega
  have nb3 : n3 ≤ 1048576 := by omega
  have nb4 : n4 ≤ 1048576 := by omega
  have nb5 : n5 ≤ 1048576 := by omega
  clear hn0 hn3 hn4 hn5
  obtain ⟨W0, hW0⟩ : ∃ W, W = w.alloc (.cells #[.slice p0 D.hands.length c0, .int .i64 D.leader, .int .i64 D.trump, .slice p3 D.trick.length c3, .slice p4 D.won.length c4, .slice p5 D.points.length c5, .int .i64 D.left] 31) := ⟨_, rfl⟩
  have G1 : W0.heap[w.heap.size]? = some (.cells #[.slice p0 D.hands.length c0, .int .i64 D.leader, .int .i64 D.trump, .slice p3 D.trick.length c3, .slice p4 D.won.length c4, .slice p5 D.points.length c5, .int .i64 D.left] 31 (0, 0)) := by rw [hW0]; exact heap_alloc_new _ _
  have B : Below w.heap.size w W0 := by rw [hW0]; exact (Below.refl _ _).alloc (Nat.le_refl _) _
  have l1 : w.heap.size < W0.heap.size := by rw [hW0]; simp
  have HW := Lib.hid hW0
  clear hW0
  go_enter Tryd.func19, Tryd.ntmps19
  go_wp2_with fail
  rw [← HW.out]
  refine (heldIntSS_any _ D.hands (k) _ (by have hx := h0.below B; exact hx) f0 fs0 (by omega) (by omega)).mono ?_
  rintro e w0 ⟨he, bb⟩
  rw [← Hn0.out] at he
  subst he
  replace G1 := (bb.block _ l1).trans G1
  replace l1 := Nat.lt_of_lt_of_le l1 bb.size
  replace B := B.trans (bb.mono B.size)
  clear bb
  have nn0 : decide (k + (n0 : Int) < 0) = false := by simp; omega
  have k3 := box_cell G1 3
  simp at k3
  go_wp2_with fail
  refine (heldIntS_any _ _ (k + (n0 : Int)) D.trick.length _ (by have hx := h3.below B; (try rw [← Hn0.out] at hx); exact hx) (by omega) (by omega) (by omega)).mono ?_
  rintro e _w ⟨he, rfl⟩
  rw [← Hn3.out] at he
  subst he
  have nn3 : decide (k + (n0 : Int) + (n3 : Int) < 0) = false := by simp; omega
  clear k3
  have k4 := box_cell G1 4
  simp at k4
  go_wp2_with fail
  refine (heldIntS_any _ _ (k + (n0 : Int) + (n3 : Int)) D.won.length _ (by have hx := h4.below B; (try rw [← Hn0.out] at hx); (try rw [← Hn3.out] at hx); exact hx) (by omega) (by omega) (by omega)).mono ?_
  rintro e _w ⟨he, rfl⟩
  rw [← Hn4.out] at he
  subst he
  have nn4 : decide (k + (n0 : Int) + (n3 : Int) + (n4 : Int) < 0) = false := by simp; omega
  clear k4
  have k5 := box_cell G1 5
  simp at k5
  go_wp2_with fail
  refine (heldIntS_any _ _ (k + (n0 : Int) + (n3 : Int) + (n4 : Int)) D.points.length _ (by have hx := h5.below B; (try rw [← Hn0.out] at hx); (try rw [← Hn3.out] at hx); (try rw [← Hn4.out] at hx); exact hx) (by omega) (by omega) (by omega)).mono ?_
  rintro e _w ⟨he, rfl⟩
  rw [← Hn5.out] at he
  subst he
  have nn5 : decide (k + (n0 : Int) + (n3 : Int) + (n4 : Int) + (n5 : Int) < 0) = false := by simp; omega
  clear k5
  go_wp2_with fail
  go_ret
  have hn0 := Hn0.out
  have hn3 := Hn3.out
  have hn4 := Hn4.out
  have hn5 := Hn5.out
  exact ⟨congrArg (fun z => Ending.returned (.int .i64 z)) (show k + (n0 : Int) + (n3 : Int) + (n4 : Int) + (n5 : Int) = k + ((sumLen D.hands + D.trick.length + D.won.length + D.points.length : Nat) : Int) by omega), B⟩

end Go.Proofs.YtbojhbhniollaaaDoor
namespace Go.Proofs.YtbojhbhniollaaaDoor
open Go.RowKit
set_option linter.unusedVariables false
set_option linter.unusedSimpArgs false

section
variable {P : Program} {ops : Array Oper} {md : Region.Mode}

def dstOf (ops : Array Oper) (i : Nat) : Option Tmp := (ops[i]?).bind (·.dst)
def putAll (ops : Array Oper) (val : Nat → Value) (L : List Nat) (a : Act) : Act := L.foldl (fun a j => a.put (dstOf ops j) (val j)) a
def listAll (l : Array Bool) (L : List Nat) : Array Bool := L.foldl (fun l j => l.setIfInBounds j true) l
/-- j must have come up ahead of i. -/
def predOf (md : Region.Mode) (ops : Array Oper) (i j : Nat) : Bool := ((ops[i]?).map fun o => o.after.any fun e => Region.binds md e && e.on == j).getD false
def reachJ (md : Region.Mode) (ops : Array Oper) (J : List Nat) : Nat → Nat → Nat → Bool
  | 0, _, _ => false
  | f + 1, k, j => predOf md ops k j || J.any fun p => predOf md ops k p && reachJ md ops J f p j
def apartJ (md : Region.Mode) (ops : Array Oper) (j p : Nat) : Bool :=
  match dstOf ops p, ops[j]? with
  | some d, some o => (!(o.looksAt ops).contains d || predOf md ops j p) && o.dst != some d
  | _, _ => true
def jointB (md : Region.Mode) (ops : Array Oper) (listed : Array Bool) (J : List Nat) : Bool :=
  decide J.Nodup && (decide (listed.size = ops.size) && (J.all (fun j => decide (j < ops.size) && (!listed.getD j true &&
    (((ops[j]?).map fun o => o.after.all fun e => !Region.binds md e || (listed.getD e.on false || (J.contains e.on && decide (e.on < j)))).getD false &&
    J.all fun p => p == j || apartJ md ops j p))) &&
  (List.range ops.size).all fun k => J.contains k || (listed.getD k true || ((List.range ops.size).any (fun p => predOf md ops k p && (!J.contains p && !listed.getD p true)) || J.all fun j => reachJ md ops J ops.size k j))))

theorem listAll_size (L : List Nat) : ∀ l : Array Bool, (listAll l L).size = l.size := by
  induction L with
  | nil => intro l; rfl
  | cons x L ih => intro l; show (listAll (l.setIfInBounds x true) L).size = _; rw [ih]; simp
theorem listAll_not (L : List Nat) (k : Nat) (b : Bool) (hk : k ∉ L) : ∀ l : Array Bool, (listAll l L).getD k b = l.getD k b := by
  induction L with
  | nil => intro l; rfl
  | cons x L ih =>
    intro l
    show (listAll (l.setIfInBounds x true) L).getD k b = _
    rw [ih (fun h => hk (List.mem_cons_of_mem _ h)), getD_set_ne b (fun e => hk (by rw [e]; exact List.mem_cons_self))]
theorem listAll_mem (L : List Nat) (k : Nat) (b : Bool) (hk : k ∈ L) : ∀ l : Array Bool, k < l.size → (listAll l L).getD k b = true := by
  induction L with
  | nil => cases hk
  | cons x L ih =>
    intro l hl
    show (listAll (l.setIfInBounds x true) L).getD k b = true
    by_cases h : k ∈ L
    · exact ih h _ (by simpa using hl)
    · rw [listAll_not _ _ _ h]
      have : k = x := by simpa [h] using hk
      subst this
      simp [hl]
theorem listAll_snoc (l : Array Bool) (L : List Nat) (j : Nat) : listAll l (L ++ [j]) = (listAll l L).setIfInBounds j true := by
  unfold listAll; rw [List.foldl_append]; rfl
theorem listAll_perm {L L' : List Nat} (h : L.Perm L') (l : Array Bool) : listAll l L = listAll l L' := by
  unfold listAll
  refine h.foldl_eq' (fun x _ y _ z => ?_) l
  by_cases e : x = y
  · subst e; rfl
  · exact Array.setIfInBounds_comm _ _ e
theorem putAll_congr {val val' : Nat → Value} {L : List Nat} (h : ∀ k ∈ L, val k = val' k) : ∀ a : Act, putAll ops val L a = putAll ops val' L a := by
  induction L with
  | nil => intro a; rfl
  | cons x L ih =>
    intro a
    show putAll ops val L (a.put (dstOf ops x) (val x)) = putAll ops val' L (a.put (dstOf ops x) (val' x))
    rw [h x List.mem_cons_self, ih (fun k hk => h k (List.mem_cons_of_mem _ hk))]
theorem putAll_append (val : Nat → Value) (L L' : List Nat) (a : Act) : putAll ops val (L ++ L') a = putAll ops val L' (putAll ops val L a) := by
  unfold putAll; rw [List.foldl_append]
theorem putAll_perm {val : Nat → Value} {L L' : List Nat} (h : L.Perm L') (hd : ∀ x ∈ L, ∀ y ∈ L, x ≠ y → ∀ d, dstOf ops x = some d → dstOf ops y ≠ some d) (a : Act) : putAll ops val L a = putAll ops val L' a := by
  unfold putAll
  refine h.foldl_eq' (fun x hx y hy z => ?_) a
  by_cases e : x = y
  · subst e; rfl
  · exact Act.put_comm z (val x) (val y) (hd x hx y hy e)
theorem filter_add {J : List Nat} (hJ : J.Nodup) {f : Nat → Bool} {j : Nat} (hj : j ∈ J) (hf : f j = false) : (J.filter fun k => f k || k == j).Perm (J.filter f ++ [j]) := by
  induction J with
  | nil => cases hj
  | cons x J ih =>
    rw [List.nodup_cons] at hJ
    by_cases e : x = j
    · subst e
      have h1 : (J.filter fun k => f k || k == x) = J.filter f := by
        refine List.filter_congr (fun k hk => ?_)
        have : k ≠ x := fun e => hJ.1 (e ▸ hk)
        simp [this]
      rw [List.filter_cons_of_pos (by simp), List.filter_cons_of_neg (by simp [hf]), h1]
      exact (List.perm_append_singleton x _).symm
    · have hj' : j ∈ J := by simpa [Ne.symm e] using hj
      by_cases hx : f x = true
      · rw [List.filter_cons_of_pos (by simp [hx]), List.filter_cons_of_pos hx, List.cons_append]
        exact (ih hJ.2 hj').cons x
      · rw [List.filter_cons_of_neg (by simp [hx, e]), List.filter_cons_of_neg hx]
        exact ih hJ.2 hj'
/-- An operation does the same behind a put that it does not look at. -/
theorem wpOp_move {Q : Exit → Act → World → Prop} {j : Nat} {oj : Oper} {x : Option Tmp} {v : Value} (hj : ops[j]? = some oj) (hlook : ∀ d, x = some d → d ∉ oj.looksAt ops) (hdst : ∀ d, x = some d → oj.dst ≠ some d)
    (hsj : ∀ cs b, oj.op ≠ .select cs b) {K : Act → World → Prop} {b : Act} {w : World} (h : wpOp P ops (fun _ _ _ => False) j K b w) : wpOp P ops Q j (fun a' w' => ∃ a'', K a'' w' ∧ a' = a''.put x v) (b.put x v) w := by
  unfold wpOp at *
  simp only [hj] at *
  rw [wanted_put oj b x v hlook]
  split
  · rename_i hw
    simp only [hw, if_true] at h
    rcases h with h | ⟨-, hlets⟩
    case inr => obtain ⟨_, _, h⟩ := hlets; exact h.elim
    refine .inl ?_
    unfold Oper.wp at *
    rw [execOp_put oj hsj b x v hlook]
    generalize (execOp b.eval oj).run P w = r at *
    cases r with
    | ok n w' =>
      cases n <;> simp only [Oper.upon] at h ⊢
      case value u => exact ⟨_, h, Act.put_comm b v u hdst⟩
      case skip => exact ⟨_, h, Act.put_comm b v undef hdst⟩
      case defer d => exact ⟨_, h, by rw [Act.put_defers]; exact Act.put_comm _ v undef hdst⟩
      case enter f args =>
        refine Calls.mono h fun e w'' he => ?_
        cases e with
        | returned u => exact ⟨_, he, Act.put_comm b v u hdst⟩
        | panicked c => exact he.elim
        | outgrown => obtain ⟨_, _, h⟩ := he; exact h.elim
      case row row args => exact Rows.mono h fun u w'' he => ⟨_, he, Act.put_comm b v u hdst⟩
    | halt y w' =>
      cases y <;> simp only [Oper.upon] at h ⊢
  · rename_i hw
    simp only [hw] at h
    exact ⟨_, h, Act.put_comm b v undef hdst⟩
theorem wpOp_moves {Q : Exit → Act → World → Prop} {j : Nat} {oj : Oper} {val : Nat → Value} (hj : ops[j]? = some oj) (hsj : ∀ cs b, oj.op ≠ .select cs b) :
    ∀ (L : List Nat) (hL : ∀ k ∈ L, (∀ d, dstOf ops k = some d → d ∉ oj.looksAt ops) ∧ ∀ d, dstOf ops k = some d → oj.dst ≠ some d) {K : Act → World → Prop} {b : Act} {w : World} (h : wpOp P ops (fun _ _ _ => False) j K b w),
      wpOp P ops Q j (fun a' w' => ∃ a'', K a'' w' ∧ a' = putAll ops val L a'') (putAll ops val L b) w := by
  have key : ∀ (L : List Nat) (hL : ∀ k ∈ L, (∀ d, dstOf ops k = some d → d ∉ oj.looksAt ops) ∧ ∀ d, dstOf ops k = some d → oj.dst ≠ some d) {K : Act → World → Prop} {b : Act} {w : World} (h : wpOp P ops (fun _ _ _ => False) j K b w),
      wpOp P ops (fun _ _ _ => False) j (fun a' w' => ∃ a'', K a'' w' ∧ a' = putAll ops val L a'') (putAll ops val L b) w := by
    intro L
    induction L with
    | nil => intro _ K b w h; exact wpOp_mono (fun a' w' h => ⟨a', h, rfl⟩) h
    | cons x L ih =>
      intro hL K b w h
      obtain ⟨h1, h2⟩ := hL x List.mem_cons_self
      have := ih (fun k hk => hL k (List.mem_cons_of_mem _ hk)) (wpOp_move (Q := fun _ _ _ => False) (x := dstOf ops x) (v := val x) hj h1 h2 hsj h)
      exact wpOp_mono (fun a' w' ⟨a1, ⟨a2, hk, e⟩, e2⟩ => ⟨a2, hk, by rw [e2, e]; rfl⟩) this
  intro L hL K b w h
  exact wpOp_mono (fun a' w' ⟨a1, ⟨a2, hk, e⟩, e2⟩ => ⟨a2, hk, by rw [e2, e]; rfl⟩) (wpOp_move (Q := Q) (x := none) (v := undef) hj (fun d h => by cases h) (fun d h => by cases h) hsj (key L hL h))

structure JointOK (md : Region.Mode) (ops : Array Oper) (listed : Array Bool) (J : List Nat) : Prop where
  nodup : J.Nodup
  size : listed.size = ops.size
  each : ∀ j ∈ J, j < ops.size ∧ listed.getD j true = false ∧ (∃ o, ops[j]? = some o ∧ ∀ e ∈ o.after, Region.binds md e = true → listed.getD e.on false = true ∨ e.on ∈ J ∧ e.on < j) ∧ ∀ p ∈ J, p = j ∨ apartJ md ops j p = true
  tail : ∀ k, k < ops.size → k ∈ J ∨ listed.getD k true = true ∨ (∃ p, p < ops.size ∧ predOf md ops k p = true ∧ p ∉ J ∧ listed.getD p true = false) ∨ ∀ j ∈ J, reachJ md ops J ops.size k j = true
theorem jointOK {listed : Array Bool} {J : List Nat} (h : jointB md ops listed J = true) : JointOK md ops listed J := by
  unfold jointB at h
  rw [Bool.and_eq_true, Bool.and_eq_true, Bool.and_eq_true, decide_eq_true_eq, decide_eq_true_eq, List.all_eq_true, List.all_eq_true] at h
  obtain ⟨h1, h2, h3, h4⟩ := h
  refine ⟨h1, h2, fun j hj => ?_, fun k hk => ?_⟩
  · have := h3 j hj
    rw [Bool.and_eq_true, Bool.and_eq_true, Bool.and_eq_true, decide_eq_true_eq, Bool.not_eq_true', List.all_eq_true] at this
    obtain ⟨a1, a2, a3, a4⟩ := this
    refine ⟨a1, a2, ?_, fun p hp => ?_⟩
    · obtain ⟨o, ho⟩ : ∃ o, ops[j]? = some o := ⟨_, Array.getElem?_eq_getElem a1⟩
      rw [ho] at a3
      refine ⟨o, ho, fun e he hb => ?_⟩
      obtain ⟨i, hi, rfl⟩ := Array.getElem_of_mem he
      have a3 : ∀ (i : Nat) (x : i < o.after.size), Region.binds md o.after[i] = false ∨ listed[o.after[i].on]?.getD false = true ∨ o.after[i].on ∈ J ∧ o.after[i].on < j := by simpa using a3
      have := a3 i hi
      simpa [hb] using this
    · have := a4 p hp
      simpa using this
  · have := h4 k (List.mem_range.2 hk)
    simp only [Bool.or_eq_true, List.contains_iff_mem, List.any_eq_true, List.mem_range, Bool.and_eq_true, Bool.not_eq_true', List.all_eq_true] at this
    rcases this with h | h | ⟨p, hp, h1, h2, h3⟩ | h
    · exact .inl h
    · exact .inr (.inl h)
    · exact .inr (.inr (.inl ⟨p, hp, h1, by simpa using h2, h3⟩))
    · exact .inr (.inr (.inr h))
theorem predOf_iff {i j : Nat} {o : Oper} (ho : ops[i]? = some o) : predOf md ops i j = true ↔ ∃ e ∈ o.after, Region.binds md e = true ∧ e.on = j := by
  unfold predOf
  rw [ho]
  simp only [Option.map_some, Option.getD_some, Array.any_eq_true', Bool.and_eq_true, beq_iff_eq]
theorem reach_done {J : List Nat} {f : Nat → Bool} (hdown : ∀ j ∈ J, f j = true → ∀ p ∈ J, predOf md ops j p = true → f p = true) :
    ∀ (n k j : Nat), (∀ p ∈ J, predOf md ops k p = true → f p = true) → j ∈ J → reachJ md ops J n k j = true → f j = true := by
  intro n
  induction n with
  | zero => intro k j _ _ h; cases h
  | succ n ih =>
    intro k j hk hj h
    simp only [reachJ, Bool.or_eq_true, List.any_eq_true, Bool.and_eq_true] at h
    rcases h with h | ⟨p, hp, h1, h2⟩
    · exact hk j hj h
    · exact ih p j (hdown p hp (hk p hp h1)) hj h2
theorem putAll_late {i : Nat} (val : Nat → Value) : ∀ (L : List Nat) (hne : ∀ k ∈ L, ∀ d, dstOf ops i = some d → dstOf ops k ≠ some d) (b : Act) (v : Value), putAll ops val L (b.put (dstOf ops i) v) = (putAll ops val L b).put (dstOf ops i) v := by
  intro L
  induction L with
  | nil => intro _ b v; rfl
  | cons x L ihL =>
    intro hne b v
    show putAll ops val L ((b.put (dstOf ops i) v).put (dstOf ops x) (val x)) = (putAll ops val L (b.put (dstOf ops x) (val x))).put (dstOf ops i) v
    rw [Act.put_comm b v (val x) (hne x List.mem_cons_self), ihL (fun k hk => hne k (List.mem_cons_of_mem _ hk))]
theorem wpAny_core {Q : Exit → Act → World → Prop} {J : List Nat} {V : Nat → (Nat → Value) → (Nat → Nat × Nat) → World → Prop} {w0 : World} {a0 : Act} {n : Nat} {listed : Array Bool} (hB : JointOK md ops listed J) (hsel : Region.noSelect ops = true)
    (hcong : ∀ j ∈ J, ∀ val val' iv iv' w, (∀ p, (p = j ∨ p ∈ J ∧ predOf md ops j p = true) → val p = val' p ∧ iv p = iv' p) → V j val iv w → V j val' iv' w)
    (hst : ∀ j ∈ J, ∀ val iv w w', V j val iv w → Below w.heap.size w w' → V j val iv w')
    (step : ∀ j ∈ J, ∀ w val (iv : Nat → Nat × Nat), Below w0.heap.size w0 w → (∀ p ∈ J, predOf md ops j p = true → V p val iv w) → wpOp P ops (fun _ _ _ => False) j (fun a' w' => ∃ v, a' = (putAll ops val (J.filter (predOf md ops j)) a0).put (dstOf ops j) v ∧ V j (fun k => if k = j then v else val k) (fun k => if k = j then (w.heap.size, w'.heap.size) else iv k) w' ∧ Below w.heap.size w w') (putAll ops val (J.filter (predOf md ops j)) a0) w)
    (fin : ∀ w val (iv : Nat → Nat × Nat), Below w0.heap.size w0 w → (∀ j ∈ J, V j val iv w ∧ w0.heap.size ≤ (iv j).1 ∧ (iv j).2 ≤ w.heap.size) → (∀ i ∈ J, ∀ j ∈ J, i ≠ j → (iv i).2 ≤ (iv j).1 ∨ (iv j).2 ≤ (iv i).1) → wpAny P md ops Q n (listAll listed J) (putAll ops val J a0) w) :
    ∀ (m : Nat) (f : Nat → Bool) (val : Nat → Value) (iv : Nat → Nat × Nat) (w : World), (J.filter fun k => !f k).length = m → (∀ j ∈ J, f j = true → ∀ p ∈ J, predOf md ops j p = true → f p = true) → Below w0.heap.size w0 w → (∀ j ∈ J, f j = true → V j val iv w ∧ w0.heap.size ≤ (iv j).1 ∧ (iv j).2 ≤ w.heap.size) → (∀ i ∈ J, ∀ j ∈ J, f i = true → f j = true → i ≠ j → (iv i).2 ≤ (iv j).1 ∨ (iv j).2 ≤ (iv i).1) →
      wpAny P md ops Q (n + m) (listAll listed (J.filter f)) (putAll ops val (J.filter f) a0) w := by
  have hdd : ∀ x ∈ J, ∀ y ∈ J, x ≠ y → ∀ d, dstOf ops x = some d → dstOf ops y ≠ some d := fun x hx y hy hne d hd => by
    obtain ⟨-, -, ⟨o, ho, -⟩, h⟩ := hB.each y hy
    rcases h x hx with h | h
    · exact absurd h hne
    · unfold apartJ at h
      rw [hd, ho] at h
      simp only [Bool.and_eq_true, bne_iff_ne] at h
      unfold dstOf; rw [ho]; exact h.2
  intro m
  induction m with
  | zero =>
    intro f val iv w hm hdown B hV hD
    have hall : ∀ j ∈ J, f j = true := fun j hj => by
      have := List.filter_eq_nil_iff.1 (List.length_eq_zero_iff.1 hm) j hj
      simpa using this
    rw [List.filter_eq_self.2 hall]
    exact fin w val iv B (fun j hj => hV j hj (hall j hj)) (fun i hi j hj => hD i hi j hj (hall i hi) (hall j hj))
  | succ m ih =>
    intro f val iv w hm hdown B hV hD
    have hgetF : ∀ j ∈ J, f j = false → (listAll listed (J.filter f)).getD j true = false := fun j hj hf => by
      rw [listAll_not _ _ _ (by simp [hf])]; exact (hB.each j hj).2.1
    have hgetT : ∀ j ∈ J, f j = true → (listAll listed (J.filter f)).getD j false = true := fun j hj hf =>
      listAll_mem _ _ _ (List.mem_filter.2 ⟨hj, hf⟩) _ (by rw [hB.size]; exact (hB.each j hj).1)
    have hkeep : ∀ k, listed.getD k false = true → (listAll listed (J.filter f)).getD k false = true := fun k hk => by
      by_cases h : k ∈ J.filter f
      · exact listAll_mem _ _ _ h _ (by rcases Nat.lt_or_ge k listed.size with h | h; exact h; simp [Array.getElem?_eq_none h] at hk)
      · rw [listAll_not _ _ _ h]; exact hk
    -- somebody is ready
    have hsome : ∀ j, j ∈ J → f j = false → Region.ready md ops (listAll listed (J.filter f)) ≠ [] := by
      intro j
      induction j using Nat.strongRecOn with
      | _ j ihj =>
        intro hj hf
        obtain ⟨h1, h2, ⟨o, ho, h3⟩, -⟩ := hB.each j hj
        by_cases hp : ∃ p ∈ J, p < j ∧ f p = false
        · obtain ⟨p, hp, hlt, hfp⟩ := hp
          exact ihj p hlt hp hfp
        · intro hnil
          have : j ∈ Region.ready md ops (listAll listed (J.filter f)) := mem_ready.2 ⟨hgetF j hj hf, o, ho, fun e he hb => by
            rcases h3 e he hb with h | ⟨h, hlt⟩
            · exact hkeep _ h
            · refine hgetT _ h ?_
              cases hq : f e.on with
              | true => rfl
              | false => exact absurd ⟨_, h, hlt, hq⟩ hp⟩
          rw [hnil] at this
          cases this
    obtain ⟨j0, hj0, hf0⟩ : ∃ j ∈ J, f j = false := by
      have : (J.filter fun k => !f k) ≠ [] := fun e => by rw [e] at hm; cases hm
      obtain ⟨j, hj⟩ := List.exists_mem_of_ne_nil _ this
      obtain ⟨h1, h2⟩ := List.mem_filter.1 hj
      exact ⟨j, h1, by simpa using h2⟩
    refine ⟨fun h => absurd h (hsome j0 hj0 hf0), fun i hi => ?_⟩
    obtain ⟨hun, o, ho, hpre⟩ := mem_ready.1 hi
    have hilt : i < ops.size := (Array.getElem?_eq_some_iff.1 ho).1
    have hpJ : ∀ p ∈ J, predOf md ops i p = true → f p = true := fun p hp h => by
      obtain ⟨e, he, hb, rfl⟩ := (predOf_iff ho).1 h
      have := hpre e he hb
      cases hq : f e.on with
      | true => rfl
      | false =>
        have h2 := hgetF _ hp hq
        have hs : e.on < (listAll listed (J.filter f)).size := by rw [listAll_size, hB.size]; exact (hB.each _ hp).1
        simp [hs] at h2 this
        rw [h2] at this; cases this
    have hiJ : i ∈ J := by
      rcases hB.tail i hilt with h | h | ⟨p, hp, h1, h2, h3⟩ | h
      · exact h
      · exfalso
        by_cases hm2 : i ∈ J.filter f
        · exact absurd (List.mem_filter.1 hm2).1 (fun h => by rw [listAll_mem _ _ _ hm2 _ (by rw [hB.size]; exact hilt)] at hun; cases hun)
        · rw [listAll_not _ _ _ hm2, h] at hun; cases hun
      · exfalso
        obtain ⟨e, he, hb, rfl⟩ := (predOf_iff ho).1 h1
        have := hpre e he hb
        rw [listAll_not _ _ _ (fun h => h2 (List.mem_filter.1 h).1)] at this
        have hs : e.on < listed.size := by rw [hB.size]; exact hp
        simp [hs] at h3 this
        rw [h3] at this; cases this
      · exact absurd (reach_done hdown _ i j0 hpJ hj0 (h j0 hj0)) (by rw [hf0]; decide)
    have hfi : f i = false := by
      cases hq : f i with
      | false => rfl
      | true => rw [listAll_mem _ _ _ (List.mem_filter.2 ⟨hiJ, hq⟩) _ (by rw [hB.size]; exact hilt)] at hun; cases hun
    -- the operation, behind its own predecessors alone
    have h0 := step i hiJ w val iv B (fun p hp h => (hV p hp (hpJ p hp h)).1)
    have hL : ∀ k ∈ (J.filter f).filter (fun k => !predOf md ops i k), (∀ d, dstOf ops k = some d → d ∉ o.looksAt ops) ∧ ∀ d, dstOf ops k = some d → o.dst ≠ some d := fun k hk => by
      obtain ⟨hk1, hk2⟩ := List.mem_filter.1 hk
      obtain ⟨hk3, hk4⟩ := List.mem_filter.1 hk1
      obtain ⟨-, -, -, h⟩ := hB.each i hiJ
      rcases h k hk3 with h | h
      · subst h; rw [hfi] at hk4; cases hk4
      · unfold apartJ at h
        have hk2 : predOf md ops i k = false := by simpa using hk2
        refine ⟨fun d hd => ?_, fun d hd => ?_⟩ <;> rw [hd, ho] at h <;> simp [hk2] at h
        · exact h.1
        · exact h.2
    have h1 := wpOp_moves (Q := Q) (val := val) ho (fun cs b => Region.noSelect_spec hsel i o cs b ho) _ hL h0
    have hpf : (J.filter f).filter (predOf md ops i) = J.filter (predOf md ops i) := by
      rw [List.filter_filter]
      refine List.filter_congr (fun k hk => ?_)
      cases hq : predOf md ops i k with
      | false => rfl
      | true => rw [hpJ k hk hq]; rfl
    have hperm : (J.filter (predOf md ops i) ++ (J.filter f).filter (fun k => !predOf md ops i k)).Perm (J.filter f) := by
      rw [← hpf]; exact List.filter_append_perm _ _
    have hmemJ : ∀ {g : Nat → Bool} {x : Nat}, x ∈ J.filter g → x ∈ J := fun h => (List.mem_filter.1 h).1
    have hput : ∀ a : Act, putAll ops val ((J.filter f).filter (fun k => !predOf md ops i k)) (putAll ops val (J.filter (predOf md ops i)) a) = putAll ops val (J.filter f) a := fun a => by
      rw [← putAll_append]
      refine putAll_perm hperm (fun x hx y hy => hdd x ?_ y ?_) a
      · exact hmemJ (hperm.mem_iff.1 hx)
      · exact hmemJ (hperm.mem_iff.1 hy)
    rw [hput] at h1
    refine wpOp_mono ?_ h1
    rintro a' w' ⟨a'', ⟨v, rfl, hv, B1⟩, rfl⟩
    have hfil := filter_add hB.nodup hiJ hfi
    have hset : (listAll listed (J.filter f)).setIfInBounds i true = listAll listed (J.filter fun k => f k || k == i) := by
      rw [← listAll_snoc]; exact (listAll_perm hfil listed).symm
    have hval : ∀ k ∈ J.filter f, val k = (if k = i then v else val k) := fun k hk => by
      have : k ≠ i := fun e => by subst e; have := (List.mem_filter.1 hk).2; rw [hfi] at this; cases this
      rw [if_neg this]
    have hact : putAll ops val ((J.filter f).filter (fun k => !predOf md ops i k)) ((putAll ops val (J.filter (predOf md ops i)) a0).put (dstOf ops i) v) = putAll ops (fun k => if k = i then v else val k) (J.filter fun k => f k || k == i) a0 := by
      rw [putAll_perm hfil (fun x hx y hy => hdd x (hmemJ hx) y (hmemJ hy)), putAll_append, ← putAll_congr hval, ← hput]
      show _ = (putAll ops val _ (putAll ops val _ a0)).put (dstOf ops i) (if i = i then v else val i)
      rw [if_pos rfl]
      generalize putAll ops val (J.filter (predOf md ops i)) a0 = b
      have hne : ∀ k ∈ (J.filter f).filter (fun k => !predOf md ops i k), ∀ d, dstOf ops i = some d → dstOf ops k ≠ some d := fun k hk => by
        have h1 := List.mem_filter.1 (List.mem_filter.1 hk).1
        refine hdd i hiJ k h1.1 (fun e => ?_)
        subst e; rw [hfi] at h1; cases h1.2
      exact putAll_late val _ hne b v
    rw [hset, hact]
    refine ih (fun k => f k || k == i) (fun k => if k = i then v else val k) (fun k => if k = i then (w.heap.size, w'.heap.size) else iv k) w' ?_ ?_ (B.trans (B1.mono B.size)) ?_ ?_
    · have h3 := hfil.length_eq
      rw [List.length_append] at h3
      have c1 := (List.filter_append_perm f J).length_eq
      have c2 := (List.filter_append_perm (fun k => f k || k == i) J).length_eq
      rw [List.length_append] at c1 c2
      simp only [List.length_singleton] at h3
      omega
    · intro j hj hfj p hp hpp
      simp only [Bool.or_eq_true, beq_iff_eq] at hfj ⊢
      rcases hfj with h | h
      · exact .inl (hdown j hj h p hp hpp)
      · subst h; exact .inl (hpJ p hp hpp)
    · intro j hj hfj
      by_cases e : j = i
      · subst e; simp only [if_true]; exact ⟨hv, B.size, Nat.le_refl _⟩
      · simp only [if_neg e]
        have : f j = true := by simpa [e] using hfj
        obtain ⟨q1, q2, q3⟩ := hV j hj this
        refine ⟨hcong j hj val _ iv _ w' (fun p hp => ?_) (hst j hj _ _ w w' q1 B1), q2, Nat.le_trans q3 B1.size⟩
        have hpi : p ≠ i := fun e2 => by
          subst e2
          rcases hp with h | ⟨h1, h2⟩
          · exact e h.symm
          · rw [hdown j hj this p h1 h2] at hfi; cases hfi
        simp only [if_neg hpi, and_self]
    · intro j hj k hk hfj hfk hne
      by_cases e : j = i
      · have e2 : k ≠ i := fun h => hne (e.trans h.symm)
        have h2 : f k = true := by simpa [e2] using hfk
        simp only [if_pos e, if_neg e2]
        exact .inr (hV k hk h2).2.2
      · have h1 : f j = true := by simpa [e] using hfj
        by_cases e2 : k = i
        · simp only [if_pos e2, if_neg e]
          exact .inl (hV j hj h1).2.2
        · have h2 : f k = true := by simpa [e2] using hfk
          simp only [if_neg e2, if_neg e]
          exact hD j hj k hk h1 h2 hne
end
end Go.Proofs.YtbojhbhniollaaaDoor
namespace Go.Proofs.YtbojhbhniollaaaDoor
open Go.RowKit
set_option linter.unusedVariables false
set_option linter.unusedSimpArgs false

theorem WrIn.below {k : IntKind} {S : Nat → Prop} {w w' : World} {v : Value} {zs : List Int} (h : WrIn k S w v zs) (b : Below w.heap.size w w') : WrIn k S w' v zs := h.touch (Below.touch (S := fun _ => False) b) (fun _ _ hx => hx)
theorem WrSS.below {k : IntKind} {S : Nat → Prop} {w w' : World} {v : Value} {zss : List (List Int)} (h : WrSS k S w v zss) (b : Below w.heap.size w w') : WrSS k S w' v zss := h.touch (Below.touch (S := fun _ => False) b) (fun _ _ hx => hx)
theorem loadRowX {w : World} {g : Nat} {t ty : TypeId} {cs : Array Value} {fr : Nat × Nat} {d : TypeDesc} (hg : w.heap[g]? = some (.cells cs t fr)) (hu : Tryd.prog.underlying ty = some d) (hd : d.isRow = true) (hi : (Tryd.prog.info? ty).map (·.size) = some cs.size) :
    (Instr.loadAt ty (.pointer (some ⟨g, 0, none⟩))).run Tryd.prog w = .ok (.agg cs) w := by
  have := run_loadAt_mid (P := Tryd.prog) w g 0 ty cs.toList d (fun j v hv => by
    have hc : w.cell? ⟨g, 0 + j, none⟩ = cs[0 + j]? := cell_of_row w g (0 + j) cs t fr hg
    rw [hc, Nat.zero_add]; simpa using hv) hu hd (by rw [hi]; simp)
  simpa using this
theorem yieldsX {ops : Array Oper} {S : World → Prop} {op : Oper} {a : Act} (hw : Region.wanted op (yielded ops a.tmps) = true) (ty : TypeId) (x : Operand) (ho : op.op = .load ty x)
    (b : Nat) (hx : a.eval x = .pointer (some ⟨b, 0, none⟩)) (cs : Array Value) (t : TypeId) (d : TypeDesc) (hS : ∀ w : World, S w → w.heap[b]? = some (.cells cs t (0, 0)))
    (hu : Tryd.prog.underlying ty = some d) (hd : d.isRow = true) (hi : (Tryd.prog.info? ty).map (·.size) = some cs.size) : YieldsIf Tryd.prog ops S op (.agg cs) a := by
  have := yieldsIf_load_mid (P := Tryd.prog) hw ty x ho b 0 hx cs.toList d (fun w h j v hv => by
    have hc : w.cell? ⟨b, 0 + j, none⟩ = cs[0 + j]? := cell_of_row w b (0 + j) cs t (0, 0) (hS w h)
    rw [hc, Nat.zero_add]; simpa using hv) hu hd (by rw [hi]; simp)
  simpa using this
/-- A whole struct loaded, guarded or not. -/
theorem wpList_load_rowG {ops : Array Oper} {rest : List Oper} {o : Oper} {a : Act} {w : World} {Q : Exit → Act → World → Prop} (hw : Region.wanted o (yielded ops a.tmps) = true) (ty : TypeId) (x : Operand) (ho : o.op = .load ty x)
    (g : Nat) (hx : a.eval x = .pointer (some ⟨g, 0, none⟩)) (cs : Array Value) (hr : (Instr.loadAt ty (.pointer (some ⟨g, 0, none⟩))).run Tryd.prog w = .ok (.agg cs) w)
    (h : wpList Tryd.prog ops Q rest (a.put o.dst (.agg cs)) w) : wpList Tryd.prog ops Q (o :: rest) a w :=
  wpList_step fun K hK => by
    rw [if_pos hw]
    unfold Oper.wp execOp
    simp only [ho, hx, hr, Sem.run_bind, Sem.run_pure, Result.andThen_ok]
    exact hK _ _ h
/-- What a fresh box holds behind the store of a whole struct. -/
theorem freshX (w : World) (Z A : Array Value) (t : TypeId) : ((w.alloc (.cells Z t)).setRow w.heap.size A).heap[w.heap.size]? = some (.cells A t (0, 0)) ∧ Below w.heap.size w ((w.alloc (.cells Z t)).setRow w.heap.size A) ∧ w.heap.size < ((w.alloc (.cells Z t)).setRow w.heap.size A).heap.size :=
  ⟨setRow_heap _ _ Z A _ _ (heap_alloc_new _ _), below_setRow ((Below.refl _ _).alloc (Nat.le_refl _) _) (Nat.le_refl _) _, by simp [World.setRow]⟩
/-- A contract that names the block of its slice, as one that tells between which blocks it lies. -/
theorem toIn1 {P : Program} {f : FuncId} {args : Array Value} {w : World} {k : IntKind} {F : List Int} (h : Calls P f args w fun e w' => ∃ v b, e = .returned v ∧ w.heap.size ≤ b ∧ WrAt k w' v F b ∧ Below w.heap.size w w') :
    Calls P f args w fun e w' => ∃ v, e = .returned v ∧ WrIn k (In w.heap.size w'.heap.size) w' v F ∧ Below w.heap.size w w' :=
  h.mono fun e w' ⟨v, b, he, hb, hw, B⟩ => ⟨v, he, WrIn.of hw hb, B⟩
theorem toIn2 {P : Program} {f : FuncId} {args : Array Value} {w : World} {k : IntKind} {F : List Int} {u : Value} (h : Calls P f args w fun e w' => ∃ v b, e = .returned (.tuple #[v, u]) ∧ w.heap.size ≤ b ∧ WrAt k w' v F b ∧ Below w.heap.size w w') :
    Calls P f args w fun e w' => ∃ v, e = .returned (.tuple #[v, u]) ∧ WrIn k (In w.heap.size w'.heap.size) w' v F ∧ Below w.heap.size w w' :=
  h.mono fun e w' ⟨v, b, he, hb, hw, B⟩ => ⟨v, he, WrIn.of hw hb, B⟩
theorem two_apart {S T : Nat → Prop} {a b c d : Nat} (hs : ∀ x, S x → a ≤ x ∧ x < b) (ht : ∀ x, T x → c ≤ x ∧ x < d) (h : b ≤ c ∨ d ≤ a) : ∀ x, S x → ¬ T x := fun x h1 h2 => by
  have := hs x h1; have := ht x h2; omega
end Go.Proofs.YtbojhbhniollaaaDoor
namespace Go.Proofs.YtbojhbhniollaaaDoor
open Go.RowKit

set_option maxRecDepth 100000 in
set_option maxHeartbeats 1000000 in
theorem copyInts_own (v : Value) (zs : List Int) (b : Nat) (w : World) (h : RdAt .i64 w v zs b) (hl : zs.length ≤ 1099511627776) :
    Calls Tryd.prog 40 #[v] w fun e w' => ∃ v', e = .returned v' ∧ w'.ownsRow w.heap.size 3 1 v' zs.length (zs.map (Value.int .i64)) ∧ Below w.heap.size w w' := by
  obtain ⟨i0, hi, hz0, hz1, hz2⟩ := info_parts info_i64
  have hown0 := World.ownsRow_lit (base := w.heap.size) (e := 3) (size := 1) w #[] 0 (Nat.le_refl _) (Nat.zero_le _) rfl
  have ha : RdAt .i64 (w.alloc (.cells #[] 3)) v zs b := h.below ((Below.refl _ _).alloc (Nat.le_refl _) _)
  obtain ⟨p0, cap0, hv0, -⟩ := id h
  go_enter Tryd.func40, Tryd.ntmps40
  subst hv0
  go_wp2_with (at_builtin; refine wpList_append_rd _ rfl _ _ 23 rfl w.heap.size 3 i0 (.int .i64 0) 8 Tryd.underlying23 hi hz0 hz1 hz2 rfl _ _ _ rfl hown0 .i64 _ zs b rfl ha ?d3 ?d4 (by simp) ?_)
  case d3 => unfold maxLen; omega
  case d4 => omega
  intro v1 w1 hown hgr
  have hb1 : Below w.heap.size w w1 := ((Below.refl _ _).alloc (Nat.le_refl _) _).grown hgr (by simp) (own_block hown0)
  try simp only [Nat.zero_add, List.nil_append] at hown
  clear hgr ha hown0
  go_wp2_with fail
  go_ret
  exact ⟨_, rfl, hown, hb1⟩
end Go.Proofs.YtbojhbhniollaaaDoor
