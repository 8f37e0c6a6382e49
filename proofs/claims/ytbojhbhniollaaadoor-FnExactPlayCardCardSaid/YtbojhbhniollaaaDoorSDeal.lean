/-
  The struct Deal: its numbers, what can be read of it; the laws' helpers over it.
-/
import Derived.Test.YtbojhbhniollaaaDoorIntRows
import Derived.Laws.Rows
namespace Go.Proofs.YtbojhbhniollaaaDoor
open Go.RowKit

structure MDeal where
  hands : List (List Int)
  leader : Int
  trump : Int
  trick : List Int
  won : List Int
  points : List Int
  left : Int

/-- The value v is such a struct, with the numbers D. -/
def RdDeal (w : World) (v : Value) (D : MDeal) : Prop :=
  ∃ (v0 v3 v4 v5 : Value) (b3 b4 b5 : Nat), v = .agg #[v0, .int .i64 D.leader, .int .i64 D.trump, v3, v4, v5, .int .i64 D.left] ∧ RdRows .i64 w v0 D.hands ∧ RdAt .i64 w v3 D.trick b3 ∧ RdAt .i64 w v4 D.won b4 ∧ RdAt .i64 w v5 D.points b5 ∧ (Lit.int .i64 D.leader).wf = true ∧ (Lit.int .i64 D.trump).wf = true ∧ (Lit.int .i64 D.left).wf = true
theorem RdDeal.below {w w' : World} {v : Value} {D : MDeal} (h : RdDeal w v D) (hb : Below w.heap.size w w') : RdDeal w' v D := by
  obtain ⟨v0, v3, v4, v5, b3, b4, b5, e, h0, h3, h4, h5, wf1, wf2, wf6⟩ := h
  exact ⟨v0, v3, v4, v5, b3, b4, b5, e, h0.below hb, h3.below hb, h4.below hb, h5.below hb, wf1, wf2, wf6⟩
def MDeal.Few (D : MDeal) : Prop := D.hands.length ≤ 1048576 ∧ sumLen D.hands ≤ 1048576 ∧ D.trick.length ≤ 1048576 ∧ D.won.length ≤ 1048576 ∧ D.points.length ≤ 1048576
theorem RdDeal.shape {w : World} {v : Value} {D : MDeal} (h : RdDeal w v D) : ∃ (p0 p3 p4 p5 : Option Addr) (c0 c3 c4 c5 : Nat), v = .agg #[.slice p0 D.hands.length c0, .int .i64 D.leader, .int .i64 D.trump, .slice p3 D.trick.length c3, .slice p4 D.won.length c4, .slice p5 D.points.length c5, .int .i64 D.left] := by
  obtain ⟨v0, v3, v4, v5, b3, b4, b5, rfl, h0, h3, h4, h5, wf1, wf2, wf6⟩ := h
  obtain ⟨p0, c0, e0, -⟩ := id h0
  subst e0
  obtain ⟨p3, c3, e3, -⟩ := id h3
  subst e3
  obtain ⟨p4, c4, e4, -⟩ := id h4
  subst e4
  obtain ⟨p5, c5, e5, -⟩ := id h5
  subst e5
  exact ⟨_, _, _, _, _, _, _, _, rfl⟩
theorem SDeal_cells {w : World} {b : Nat} {a0 a1 a2 a3 a4 a5 a6 : Value} {t : TypeId} {fr : Nat × Nat} (h : w.heap[b]? = some (.cells #[a0, a1, a2, a3, a4, a5, a6] t fr)) : w.cell? ⟨b, 0, none⟩ = some a0 ∧ w.cell? ⟨b, 1, none⟩ = some a1 ∧ w.cell? ⟨b, 2, none⟩ = some a2 ∧ w.cell? ⟨b, 3, none⟩ = some a3 ∧ w.cell? ⟨b, 4, none⟩ = some a4 ∧ w.cell? ⟨b, 5, none⟩ = some a5 ∧ w.cell? ⟨b, 6, none⟩ = some a6 := by
  simp [World.cell?, h]

set_option linter.unusedVariables false in
set_option maxRecDepth 100000 in
theorem szDeal_any (v : Value) (D : MDeal) (left : Int) (w : World) (h : RdDeal w v D) (hl0 : 0 ≤ left) (hl1 : left ≤ 1048576) :
    Calls Tryd.prog 8 #[v, .int .i64 left] w fun e w' => (∃ r : Int, e = .returned (.int .i64 r) ∧ -1 ≤ r ∧ r ≤ 1048576 ∧ (0 ≤ r → D.Few)) ∧ Below w.heap.size w w' := by
  obtain ⟨v0, v3, v4, v5, b3, b4, b5, rfl, h0, h3, h4, h5, wf1, wf2, wf6⟩ := h
  obtain ⟨p3, c3, e3, hc3, -⟩ := id h3
  obtain ⟨p4, c4, e4, hc4, -⟩ := id h4
  obtain ⟨p5, c5, e5, hc5, -⟩ := id h5
  obtain ⟨p0, c0, e0, -⟩ := id h0
  have hm3 : D.trick.length ≤ 9223372036854775807 := by have h1 := hc3.1; have h2 := hc3.2.1; unfold maxLen at h2; omega
  have hm4 : D.won.length ≤ 9223372036854775807 := by have h1 := hc4.1; have h2 := hc4.2.1; unfold maxLen at h2; omega
  have hm5 : D.points.length ≤ 9223372036854775807 := by have h1 := hc5.1; have h2 := hc5.2.1; unfold maxLen at h2; omega
  clear hc3
  clear hc4
  clear hc5
  have B0 := fun o => (Below.refl w.heap.size w).alloc (Nat.le_refl _) o
  go_enter Tryd.func8, Tryd.ntmps8
  subst e0
  subst e3
  subst e4
  subst e5
  go_wp2_with fail
  refine (szIntSS_any _ _ left _ (h0.below (B0 _)) (by omega) (by omega)).mono ?_
  rintro e _w ⟨⟨r0, rfl, rn0, rm0, hr0⟩, rfl⟩
  by_cases hneg0 : r0 < 0
  · go_wp2_with fail
    go_ret
    exact ⟨⟨-1, rfl, by omega, by omega, fun h => by omega⟩, B0 _⟩
  have g0 : D.hands.length ≤ 1048576 := by have := hr0 (by omega); omega
  have k0 : sumLen D.hands ≤ 1048576 := by have := hr0 (by omega); omega
  clear hr0
  have HC3 := Lib.hid (fun wx => szIntS_any p3 D.trick.length c3 (r0) wx (by omega) (by omega) hm3)
  by_cases hx3 : (r0) < D.trick.length
  · rw [if_pos hx3] at HC3
    go_wp2_with fail
    refine (HC3.out _).mono ?_
    rintro e _w ⟨rfl, rfl⟩
    go_wp2_with fail
    go_ret
    exact ⟨⟨-1, rfl, by omega, by omega, fun h => by omega⟩, B0 _⟩
  rw [if_neg hx3] at HC3
  obtain ⟨r3, hr3⟩ : ∃ r, r = (r0) - (D.trick.length : Int) := ⟨_, rfl⟩
  rw [← hr3] at HC3
  have g3 : D.trick.length ≤ 1048576 := by omega
  have ra3 : 0 ≤ r3 := by omega
  have rb3 : r3 ≤ 1048576 := by omega
  clear hr3 hx3
  go_wp2_with fail
  refine (HC3.out _).mono ?_
  rintro e _w ⟨rfl, rfl⟩
  clear HC3
  have HC4 := Lib.hid (fun wx => szIntS_any p4 D.won.length c4 (r3) wx (by omega) (by omega) hm4)
  by_cases hx4 : (r3) < D.won.length
  · rw [if_pos hx4] at HC4
    go_wp2_with fail
    refine (HC4.out _).mono ?_
    rintro e _w ⟨rfl, rfl⟩
    go_wp2_with fail
    go_ret
    exact ⟨⟨-1, rfl, by omega, by omega, fun h => by omega⟩, B0 _⟩
  rw [if_neg hx4] at HC4
  obtain ⟨r4, hr4⟩ : ∃ r, r = (r3) - (D.won.length : Int) := ⟨_, rfl⟩
  rw [← hr4] at HC4
  have g4 : D.won.length ≤ 1048576 := by omega
  have ra4 : 0 ≤ r4 := by omega
  have rb4 : r4 ≤ 1048576 := by omega
  clear hr4 hx4
  go_wp2_with fail
  refine (HC4.out _).mono ?_
  rintro e _w ⟨rfl, rfl⟩
  clear HC4
  have HC5 := Lib.hid (fun wx => szIntS_any p5 D.points.length c5 (r4) wx (by omega) (by omega) hm5)
  by_cases hx5 : (r4) < D.points.length
  · rw [if_pos hx5] at HC5
    go_wp2_with fail
    refine (HC5.out _).mono ?_
    rintro e _w ⟨rfl, rfl⟩
    go_wp2_with fail
    go_ret
    exact ⟨⟨-1, rfl, by omega, by omega, fun h => by omega⟩, B0 _⟩
  rw [if_neg hx5] at HC5
  obtain ⟨r5, hr5⟩ : ∃ r, r = (r4) - (D.points.length : Int) := ⟨_, rfl⟩
  rw [← hr5] at HC5
  have g5 : D.points.length ≤ 1048576 := by omega
  have ra5 : 0 ≤ r5 := by omega
  have rb5 : r5 ≤ 1048576 := by omega
  clear hr5 hx5
  go_wp2_with fail
  refine (HC5.out _).mono ?_
  rintro e _w ⟨rfl, rfl⟩
  clear HC5
  go_wp2_with fail
  go_ret
  exact ⟨⟨r5, rfl, by omega, by omega, fun _ => ⟨g0, k0, g3, g4, g5⟩⟩, B0 _⟩

theorem SDeal_three (w : World) (o1 o2 o3 : Obj) : (((w.alloc o1).alloc o2).alloc o3).heap[w.heap.size]? = some o1 ∧ (((w.alloc o1).alloc o2).alloc o3).heap[w.heap.size + 1]? = some o2 ∧ (((w.alloc o1).alloc o2).alloc o3).heap[w.heap.size + 2]? = some o3 := by
  refine ⟨?_, ?_, ?_⟩ <;> show (((w.heap.push o1).push o2).push o3)[_]? = _
  · rw [Array.getElem?_push, if_neg (by simp; omega), Array.getElem?_push, if_neg (by simp)]; simp
  · rw [Array.getElem?_push, if_neg (by simp), Array.getElem?_push, if_pos (by simp)]
  · rw [Array.getElem?_push, if_pos (by simp)]
theorem SDeal_cell {w : World} {b : Nat} {c : Array Value} {t : TypeId} {fr : Nat × Nat} (h : w.heap[b]? = some (.cells c t fr)) (i : Nat) : w.cell? ⟨b, i, none⟩ = c[i]? := by
  simp [World.cell?, h]
theorem SDeal_free {w : World} {b : Nat} {c : Array Value} {t : TypeId} (h : w.heap[b]? = some (.cells c t (0, 0))) (i : Nat) : w.frozen? ⟨b, i, none⟩ = false := by
  simp [World.frozen?, h]
theorem SDeal_set {w : World} {b : Nat} {c : Array Value} {t : TypeId} {fr : Nat × Nat} (h : w.heap[b]? = some (.cells c t fr)) (i : Nat) (v : Value) : (w.setCell ⟨b, i, none⟩ v).heap[b]? = some (.cells (c.setIfInBounds i v) t fr) := by
  simp [World.setCell, Array.getElem?_modify, h]

set_option linter.unusedVariables false in
set_option maxRecDepth 100000 in
set_option maxHeartbeats 1000000 in
theorem toDeal_any (v : Value) (D : MDeal) (w : World) (h : RdDeal w v D) (hf : D.Few) :
    Calls Tryd.prog 10 #[v] w fun e w' => ∃ v', e = .returned v' ∧ RdDeal w' v' D ∧ Below w.heap.size w w' := by
  obtain ⟨v0, v3, v4, v5, b3, b4, b5, rfl, h0, h3, h4, h5, wf1, wf2, wf6⟩ := h
  obtain ⟨f0, fs0, f3, f4, f5⟩ := hf
  have T := Lib.hid (SDeal_three w (.cells #[v0, .int .i64 D.leader, .int .i64 D.trump, v3, v4, v5, .int .i64 D.left] 25) (.cells #[.slice none 0 0, .int .i64 0, .int .i64 0, .slice none 0 0, .slice none 0 0, .slice none 0 0, .int .i64 0] 31) (.cells #[.slice none 0 0, .int .i64 0, .int .i64 0, .slice none 0 0, .slice none 0 0, .slice none 0 0, .int .i64 0] 31))
  have B : Below w.heap.size w (((w.alloc (.cells #[v0, .int .i64 D.leader, .int .i64 D.trump, v3, v4, v5, .int .i64 D.left] 25)).alloc (.cells #[.slice none 0 0, .int .i64 0, .int .i64 0, .slice none 0 0, .slice none 0 0, .slice none 0 0, .int .i64 0] 31)).alloc (.cells #[.slice none 0 0, .int .i64 0, .int .i64 0, .slice none 0 0, .slice none 0 0, .slice none 0 0, .int .i64 0] 31)) := (((Below.refl _ _).alloc (Nat.le_refl _) _).alloc (by simp) _).alloc (by simp; omega) _
  obtain ⟨W0, hW0⟩ : ∃ W0, W0 = (((w.alloc (.cells #[v0, .int .i64 D.leader, .int .i64 D.trump, v3, v4, v5, .int .i64 D.left] 25)).alloc (.cells #[.slice none 0 0, .int .i64 0, .int .i64 0, .slice none 0 0, .slice none 0 0, .slice none 0 0, .int .i64 0] 31)).alloc (.cells #[.slice none 0 0, .int .i64 0, .int .i64 0, .slice none 0 0, .slice none 0 0, .slice none 0 0, .int .i64 0] 31)) := ⟨_, rfl⟩
  obtain ⟨bl, hbl⟩ : ∃ b, b = w.heap.size + 1 + 1 := ⟨_, rfl⟩
  obtain ⟨br, hbr⟩ : ∃ b, b = w.heap.size + 1 := ⟨_, rfl⟩
  have hS0 : bl < W0.heap.size := by rw [hW0, hbl]; simp
  rw [← hW0] at B T
  have HW := Lib.hid hW0
  clear hW0
  obtain ⟨G1, G2, G3⟩ := T.out
  clear T
  have e3 : w.heap.size + 2 = bl := by omega
  rw [← hbr] at G2
  rw [e3] at G3
  have hd1 : w.heap.size < br := by omega
  have hd2 : br < bl := by omega
  have Hbl := Lib.hid hbl
  have Hbr := Lib.hid hbr
  clear hbl hbr e3
  go_enter Tryd.func10, Tryd.ntmps10
  go_wp2_with fail
  rw [← HW.out, ← Hbl.out, ← Hbr.out]
  refine (toIntSS_any _ _ W0 (h0.below B) f0 fs0).mono ?_
  rintro e w0 ⟨u0, rfl, x0, bb0⟩
  obtain ⟨pu0, cu0, eu0, -⟩ := id x0.rd
  subst eu0
  have l0 : bl < W0.heap.size := hS0
  replace B := B.trans (bb0.mono B.size)
  replace G1 := (bb0.block _ (by omega)).trans G1
  replace G2 := (bb0.block _ (by omega)).trans G2
  replace G3 := (bb0.block _ (by omega)).trans G3
  replace hS0 := Nat.lt_of_lt_of_le hS0 bb0.size
  clear bb0
  have c1_0 := SDeal_cell G1 0
  have c3_0 := SDeal_cell G3 0
  have z3_0 := SDeal_free G3 0
  have c1_1 := SDeal_cell G1 1
  have c3_1 := SDeal_cell G3 1
  have z3_1 := SDeal_free G3 1
  have c1_2 := SDeal_cell G1 2
  have c3_2 := SDeal_cell G3 2
  have z3_2 := SDeal_free G3 2
  have c1_3 := SDeal_cell G1 3
  have c3_3 := SDeal_cell G3 3
  have z3_3 := SDeal_free G3 3
  have c1_4 := SDeal_cell G1 4
  have c3_4 := SDeal_cell G3 4
  have z3_4 := SDeal_free G3 4
  have c1_5 := SDeal_cell G1 5
  have c3_5 := SDeal_cell G3 5
  have z3_5 := SDeal_free G3 5
  have c1_6 := SDeal_cell G1 6
  have c3_6 := SDeal_cell G3 6
  have z3_6 := SDeal_free G3 6
  simp at c1_0 c3_0 c1_1 c3_1 c1_2 c3_2 c1_3 c3_3 c1_4 c3_4 c1_5 c3_5 c1_6 c3_6
  go_wp2_with fail
  obtain ⟨X3, hX3⟩ : ∃ X, X = (((w0.setCell ⟨bl, 0, none⟩ (.slice pu0 D.hands.length cu0)).setCell ⟨bl, 1, none⟩ (.int .i64 D.leader)).setCell ⟨bl, 2, none⟩ (.int .i64 D.trump)) := ⟨_, rfl⟩
  have N3 := (SDeal_set (SDeal_set (SDeal_set G3 0 (.slice pu0 D.hands.length cu0)) 1 (.int .i64 D.leader)) 2 (.int .i64 D.trump))
  rw [← hX3] at N3
  have K3 : ∀ i, i ≠ bl → X3.heap[i]? = w0.heap[i]? := fun i hi => by rw [hX3]; rw [Below.heap_setCell _ _ _ _ hi, Below.heap_setCell _ _ _ _ hi, Below.heap_setCell _ _ _ _ hi]
  have Z3 : X3.heap.size = w0.heap.size := by rw [hX3]; simp [World.setCell]
  have NB : Below w.heap.size w X3 := by rw [hX3]; exact (((B.setCell (show w.heap.size ≤ bl by omega) (.slice pu0 D.hands.length cu0)).setCell (show w.heap.size ≤ bl by omega) (.int .i64 D.leader)).setCell (show w.heap.size ≤ bl by omega) (.int .i64 D.trump))
  replace G1 := (K3 _ (by omega)).trans G1
  replace G2 := (K3 _ (by omega)).trans G2
  replace hS0 : bl < X3.heap.size := by rw [Z3]; exact hS0
  replace x0 := x0.keepS (fun i hi hlt => K3 i (by omega)) (by omega)
  rw [← hX3]
  clear hX3 B G3 K3 Z3 c3_0 z3_0 c3_1 z3_1 c3_2 z3_2 c3_3 z3_3 c3_4 z3_4 c3_5 z3_5 c3_6 z3_6 c1_0 c1_1 c1_2 c1_3 c1_4 c1_5 c1_6
  have G3 := N3
  have B := NB
  clear N3 NB
  simp only [List.setIfInBounds_toArray, List.set_cons_zero, List.set_cons_succ] at G3
  refine (toIntS_any _ _ _ X3 (h3.below B) (by omega)).mono ?_
  rintro e w3 ⟨u3, rfl, x3, bb3, -⟩
  replace x3 := x3.rd
  obtain ⟨pu3, cu3, eu3, -⟩ := id x3
  subst eu3
  have l3 : bl < X3.heap.size := hS0
  replace B := B.trans (bb3.mono B.size)
  replace G1 := (bb3.block _ (by omega)).trans G1
  replace G2 := (bb3.block _ (by omega)).trans G2
  replace G3 := (bb3.block _ (by omega)).trans G3
  replace hS0 := Nat.lt_of_lt_of_le hS0 bb3.size
  replace x0 := x0.keepS (fun i _ hlt => bb3.block i hlt) bb3.size
  clear bb3
  have c1_0 := SDeal_cell G1 0
  have c3_0 := SDeal_cell G3 0
  have z3_0 := SDeal_free G3 0
  have c1_1 := SDeal_cell G1 1
  have c3_1 := SDeal_cell G3 1
  have z3_1 := SDeal_free G3 1
  have c1_2 := SDeal_cell G1 2
  have c3_2 := SDeal_cell G3 2
  have z3_2 := SDeal_free G3 2
  have c1_3 := SDeal_cell G1 3
  have c3_3 := SDeal_cell G3 3
  have z3_3 := SDeal_free G3 3
  have c1_4 := SDeal_cell G1 4
  have c3_4 := SDeal_cell G3 4
  have z3_4 := SDeal_free G3 4
  have c1_5 := SDeal_cell G1 5
  have c3_5 := SDeal_cell G3 5
  have z3_5 := SDeal_free G3 5
  have c1_6 := SDeal_cell G1 6
  have c3_6 := SDeal_cell G3 6
  have z3_6 := SDeal_free G3 6
  simp at c1_0 c3_0 c1_1 c3_1 c1_2 c3_2 c1_3 c3_3 c1_4 c3_4 c1_5 c3_5 c1_6 c3_6
  go_wp2_with fail
  obtain ⟨X4, hX4⟩ : ∃ X, X = (w3.setCell ⟨bl, 3, none⟩ (.slice pu3 D.trick.length cu3)) := ⟨_, rfl⟩
  have N3 := (SDeal_set G3 3 (.slice pu3 D.trick.length cu3))
  rw [← hX4] at N3
  have K4 : ∀ i, i ≠ bl → X4.heap[i]? = w3.heap[i]? := fun i hi => by rw [hX4]; rw [Below.heap_setCell _ _ _ _ hi]
  have Z4 : X4.heap.size = w3.heap.size := by rw [hX4]; simp [World.setCell]
  have NB : Below w.heap.size w X4 := by rw [hX4]; exact (B.setCell (show w.heap.size ≤ bl by omega) (.slice pu3 D.trick.length cu3))
  replace G1 := (K4 _ (by omega)).trans G1
  replace G2 := (K4 _ (by omega)).trans G2
  replace hS0 : bl < X4.heap.size := by rw [Z4]; exact hS0
  replace x0 := x0.keepS (fun i hi hlt => K4 i (by omega)) (by omega)
  replace x3 := x3.keep (fun _ => K4 _ (by omega))
  rw [← hX4]
  clear hX4 B G3 K4 Z4 c3_0 z3_0 c3_1 z3_1 c3_2 z3_2 c3_3 z3_3 c3_4 z3_4 c3_5 z3_5 c3_6 z3_6 c1_0 c1_1 c1_2 c1_3 c1_4 c1_5 c1_6
  have G3 := N3
  have B := NB
  clear N3 NB
  simp only [List.setIfInBounds_toArray, List.set_cons_zero, List.set_cons_succ] at G3
  refine (toIntS_any _ _ _ X4 (h4.below B) (by omega)).mono ?_
  rintro e w4 ⟨u4, rfl, x4, bb4, -⟩
  replace x4 := x4.rd
  obtain ⟨pu4, cu4, eu4, -⟩ := id x4
  subst eu4
  have l4 : bl < X4.heap.size := hS0
  replace B := B.trans (bb4.mono B.size)
  replace G1 := (bb4.block _ (by omega)).trans G1
  replace G2 := (bb4.block _ (by omega)).trans G2
  replace G3 := (bb4.block _ (by omega)).trans G3
  replace hS0 := Nat.lt_of_lt_of_le hS0 bb4.size
  replace x0 := x0.keepS (fun i _ hlt => bb4.block i hlt) bb4.size
  replace x3 := x3.below bb4
  clear bb4
  have c1_0 := SDeal_cell G1 0
  have c3_0 := SDeal_cell G3 0
  have z3_0 := SDeal_free G3 0
  have c1_1 := SDeal_cell G1 1
  have c3_1 := SDeal_cell G3 1
  have z3_1 := SDeal_free G3 1
  have c1_2 := SDeal_cell G1 2
  have c3_2 := SDeal_cell G3 2
  have z3_2 := SDeal_free G3 2
  have c1_3 := SDeal_cell G1 3
  have c3_3 := SDeal_cell G3 3
  have z3_3 := SDeal_free G3 3
  have c1_4 := SDeal_cell G1 4
  have c3_4 := SDeal_cell G3 4
  have z3_4 := SDeal_free G3 4
  have c1_5 := SDeal_cell G1 5
  have c3_5 := SDeal_cell G3 5
  have z3_5 := SDeal_free G3 5
  have c1_6 := SDeal_cell G1 6
  have c3_6 := SDeal_cell G3 6
  have z3_6 := SDeal_free G3 6
  simp at c1_0 c3_0 c1_1 c3_1 c1_2 c3_2 c1_3 c3_3 c1_4 c3_4 c1_5 c3_5 c1_6 c3_6
  go_wp2_with fail
  obtain ⟨X5, hX5⟩ : ∃ X, X = (w4.setCell ⟨bl, 4, none⟩ (.slice pu4 D.won.length cu4)) := ⟨_, rfl⟩
  have N3 := (SDeal_set G3 4 (.slice pu4 D.won.length cu4))
  rw [← hX5] at N3
  have K5 : ∀ i, i ≠ bl → X5.heap[i]? = w4.heap[i]? := fun i hi => by rw [hX5]; rw [Below.heap_setCell _ _ _ _ hi]
  have Z5 : X5.heap.size = w4.heap.size := by rw [hX5]; simp [World.setCell]
  have NB : Below w.heap.size w X5 := by rw [hX5]; exact (B.setCell (show w.heap.size ≤ bl by omega) (.slice pu4 D.won.length cu4))
  replace G1 := (K5 _ (by omega)).trans G1
  replace G2 := (K5 _ (by omega)).trans G2
  replace hS0 : bl < X5.heap.size := by rw [Z5]; exact hS0
  replace x0 := x0.keepS (fun i hi hlt => K5 i (by omega)) (by omega)
  replace x3 := x3.keep (fun _ => K5 _ (by omega))
  replace x4 := x4.keep (fun _ => K5 _ (by omega))
  rw [← hX5]
  clear hX5 B G3 K5 Z5 c3_0 z3_0 c3_1 z3_1 c3_2 z3_2 c3_3 z3_3 c3_4 z3_4 c3_5 z3_5 c3_6 z3_6 c1_0 c1_1 c1_2 c1_3 c1_4 c1_5 c1_6
  have G3 := N3
  have B := NB
  clear N3 NB
  simp only [List.setIfInBounds_toArray, List.set_cons_zero, List.set_cons_succ] at G3
  refine (toIntS_any _ _ _ X5 (h5.below B) (by omega)).mono ?_
  rintro e w5 ⟨u5, rfl, x5, bb5, -⟩
  replace x5 := x5.rd
  obtain ⟨pu5, cu5, eu5, -⟩ := id x5
  subst eu5
  have l5 : bl < X5.heap.size := hS0
  replace B := B.trans (bb5.mono B.size)
  replace G1 := (bb5.block _ (by omega)).trans G1
  replace G2 := (bb5.block _ (by omega)).trans G2
  replace G3 := (bb5.block _ (by omega)).trans G3
  replace hS0 := Nat.lt_of_lt_of_le hS0 bb5.size
  replace x0 := x0.keepS (fun i _ hlt => bb5.block i hlt) bb5.size
  replace x3 := x3.below bb5
  replace x4 := x4.below bb5
  clear bb5
  have c1_0 := SDeal_cell G1 0
  have c3_0 := SDeal_cell G3 0
  have z3_0 := SDeal_free G3 0
  have c1_1 := SDeal_cell G1 1
  have c3_1 := SDeal_cell G3 1
  have z3_1 := SDeal_free G3 1
  have c1_2 := SDeal_cell G1 2
  have c3_2 := SDeal_cell G3 2
  have z3_2 := SDeal_free G3 2
  have c1_3 := SDeal_cell G1 3
  have c3_3 := SDeal_cell G3 3
  have z3_3 := SDeal_free G3 3
  have c1_4 := SDeal_cell G1 4
  have c3_4 := SDeal_cell G3 4
  have z3_4 := SDeal_free G3 4
  have c1_5 := SDeal_cell G1 5
  have c3_5 := SDeal_cell G3 5
  have z3_5 := SDeal_free G3 5
  have c1_6 := SDeal_cell G1 6
  have c3_6 := SDeal_cell G3 6
  have z3_6 := SDeal_free G3 6
  have c2_0 := SDeal_cell G2 0
  have z2_0 := SDeal_free G2 0
  have c2_1 := SDeal_cell G2 1
  have z2_1 := SDeal_free G2 1
  have c2_2 := SDeal_cell G2 2
  have z2_2 := SDeal_free G2 2
  have c2_3 := SDeal_cell G2 3
  have z2_3 := SDeal_free G2 3
  have c2_4 := SDeal_cell G2 4
  have z2_4 := SDeal_free G2 4
  have c2_5 := SDeal_cell G2 5
  have z2_5 := SDeal_free G2 5
  have c2_6 := SDeal_cell G2 6
  have z2_6 := SDeal_free G2 6
  simp at c1_0 c3_0 c2_0 c1_1 c3_1 c2_1 c1_2 c3_2 c2_2 c1_3 c3_3 c2_3 c1_4 c3_4 c2_4 c1_5 c3_5 c2_5 c1_6 c3_6 c2_6
  go_wp2_with fail
  obtain ⟨X, hX⟩ : ∃ X, X = (((((((((w5.setCell ⟨bl, 5, none⟩ (.slice pu5 D.points.length cu5)).setCell ⟨bl, 6, none⟩ (.int .i64 D.left)).setCell ⟨br, 0, none⟩ (.slice pu0 D.hands.length cu0)).setCell ⟨br, 1, none⟩ (.int .i64 D.leader)).setCell ⟨br, 2, none⟩ (.int .i64 D.trump)).setCell ⟨br, 3, none⟩ (.slice pu3 D.trick.length cu3)).setCell ⟨br, 4, none⟩ (.slice pu4 D.won.length cu4)).setCell ⟨br, 5, none⟩ (.slice pu5 D.points.length cu5)).setCell ⟨br, 6, none⟩ (.int .i64 D.left)) := ⟨_, rfl⟩
  have G2a : ((w5.setCell ⟨bl, 5, none⟩ (.slice pu5 D.points.length cu5)).setCell ⟨bl, 6, none⟩ (.int .i64 D.left)).heap[br]? = some (.cells #[.slice none 0 0, .int .i64 0, .int .i64 0, .slice none 0 0, .slice none 0 0, .slice none 0 0, .int .i64 0] 31 (0, 0)) := (by rw [Below.heap_setCell _ _ _ _ (show br ≠ bl by omega), Below.heap_setCell _ _ _ _ (show br ≠ bl by omega)]; exact G2)
  have N2 := (SDeal_set (SDeal_set (SDeal_set (SDeal_set (SDeal_set (SDeal_set (SDeal_set G2a 0 (.slice pu0 D.hands.length cu0)) 1 (.int .i64 D.leader)) 2 (.int .i64 D.trump)) 3 (.slice pu3 D.trick.length cu3)) 4 (.slice pu4 D.won.length cu4)) 5 (.slice pu5 D.points.length cu5)) 6 (.int .i64 D.left))
  rw [← hX] at N2
  have K : ∀ i, i ≠ bl → i ≠ br → X.heap[i]? = w5.heap[i]? := fun i hi hr => by rw [hX]; rw [Below.heap_setCell _ _ _ _ hr, Below.heap_setCell _ _ _ _ hr, Below.heap_setCell _ _ _ _ hr, Below.heap_setCell _ _ _ _ hr, Below.heap_setCell _ _ _ _ hr, Below.heap_setCell _ _ _ _ hr, Below.heap_setCell _ _ _ _ hr, Below.heap_setCell _ _ _ _ hi, Below.heap_setCell _ _ _ _ hi]
  have Z : X.heap.size = w5.heap.size := by rw [hX]; simp [World.setCell]
  have NB : Below w.heap.size w X := by rw [hX]; exact (((((((((B.setCell (show w.heap.size ≤ bl by omega) (.slice pu5 D.points.length cu5)).setCell (show w.heap.size ≤ bl by omega) (.int .i64 D.left)).setCell (show w.heap.size ≤ br by omega) (.slice pu0 D.hands.length cu0)).setCell (show w.heap.size ≤ br by omega) (.int .i64 D.leader)).setCell (show w.heap.size ≤ br by omega) (.int .i64 D.trump)).setCell (show w.heap.size ≤ br by omega) (.slice pu3 D.trick.length cu3)).setCell (show w.heap.size ≤ br by omega) (.slice pu4 D.won.length cu4)).setCell (show w.heap.size ≤ br by omega) (.slice pu5 D.points.length cu5)).setCell (show w.heap.size ≤ br by omega) (.int .i64 D.left))
  rw [← hX]
  simp only [List.setIfInBounds_toArray, List.set_cons_zero, List.set_cons_succ] at N2
  replace x0 := x0.keepS (fun i hi hlt => K i (by omega) (by omega)) (by omega)
  replace x3 := x3.keep (fun _ => K _ (by omega) (by omega))
  replace x4 := x4.keep (fun _ => K _ (by omega) (by omega))
  replace x5 := x5.keep (fun _ => K _ (by omega) (by omega))
  (try simp only [Exit.inBlock, Exit.then]); refine bodyPost_ret (results_cell_row rfl _ _ br _ _ _ _ rfl N2 Tryd.underlying31 rfl (by kernel_rfl)) rfl ?_
  exact ⟨_, rfl, ⟨_, _, _, _, _, _, _, rfl, x0.rd, x3, x4, x5, wf1, wf2, wf6⟩, NB⟩

set_option linter.unusedVariables false in
set_option maxRecDepth 100000 in
set_option maxHeartbeats 1000000 in
theorem eqDeal_t (va vb : Value) (D : MDeal) (w : World) (ha : RdDeal w va D) (hb : RdDeal w vb D) (hf : D.Few) :
    Calls Tryd.prog 13 #[va, vb] w fun e w' => e = .returned (.bool true) ∧ Below w.heap.size w w' := by
  obtain ⟨v0, v3, v4, v5, b3, b4, b5, rfl, h0, h3, h4, h5, wf1, wf2, wf6⟩ := ha
  obtain ⟨y0, y3, y4, y5, d3, d4, d5, rfl, k0, k3, k4, k5, -, -, -⟩ := hb
  obtain ⟨f0, fs0, f3, f4, f5⟩ := hf
  have B : Below w.heap.size w ((w.alloc (.cells #[v0, .int .i64 D.leader, .int .i64 D.trump, v3, v4, v5, .int .i64 D.left] 31)).alloc (.cells #[y0, .int .i64 D.leader, .int .i64 D.trump, y3, y4, y5, .int .i64 D.left] 31)) := ((Below.refl _ _).alloc (Nat.le_refl _) _).alloc (by simp) _
  obtain ⟨W0, hW0⟩ : ∃ W0, W0 = ((w.alloc (.cells #[v0, .int .i64 D.leader, .int .i64 D.trump, v3, v4, v5, .int .i64 D.left] 31)).alloc (.cells #[y0, .int .i64 D.leader, .int .i64 D.trump, y3, y4, y5, .int .i64 D.left] 31)) := ⟨_, rfl⟩
  have G := SDeal_three w (.cells #[v0, .int .i64 D.leader, .int .i64 D.trump, v3, v4, v5, .int .i64 D.left] 31) (.cells #[y0, .int .i64 D.leader, .int .i64 D.trump, y3, y4, y5, .int .i64 D.left] 31) (.cells #[y0, .int .i64 D.leader, .int .i64 D.trump, y3, y4, y5, .int .i64 D.left] 31)
  have G1 : W0.heap[w.heap.size]? = some (.cells #[v0, .int .i64 D.leader, .int .i64 D.trump, v3, v4, v5, .int .i64 D.left] 31 (0, 0)) := by
    rw [hW0]; show ((w.heap.push _).push _)[_]? = _
    rw [Array.getElem?_push, if_neg (by simp), Array.getElem?_push, if_pos rfl]
  have G2 : W0.heap[w.heap.size + 1]? = some (.cells #[y0, .int .i64 D.leader, .int .i64 D.trump, y3, y4, y5, .int .i64 D.left] 31 (0, 0)) := by
    rw [hW0]; show ((w.heap.push _).push _)[_]? = _
    rw [Array.getElem?_push, if_pos (by simp)]
  have hS0 : w.heap.size + 2 ≤ W0.heap.size := by rw [hW0]; simp
  rw [← hW0] at B
  have HW := Lib.hid hW0
  clear hW0 G
  go_enter Tryd.func13, Tryd.ntmps13
  go_wp2_with fail
  rw [← HW.out]
  refine (eqIntSS_t _ _ _ W0 (h0.below B) (k0.below B) f0 fs0).mono ?_
  rintro e w0 ⟨rfl, bb0⟩
  replace B := B.trans (bb0.mono B.size)
  replace G1 := (bb0.block _ (by omega)).trans G1
  replace G2 := (bb0.block _ (by omega)).trans G2
  replace hS0 := Nat.le_trans hS0 bb0.size
  clear bb0
  have c1_0 := SDeal_cell G1 0
  have c2_0 := SDeal_cell G2 0
  have c1_1 := SDeal_cell G1 1
  have c2_1 := SDeal_cell G2 1
  have c1_2 := SDeal_cell G1 2
  have c2_2 := SDeal_cell G2 2
  have c1_3 := SDeal_cell G1 3
  have c2_3 := SDeal_cell G2 3
  have c1_4 := SDeal_cell G1 4
  have c2_4 := SDeal_cell G2 4
  have c1_5 := SDeal_cell G1 5
  have c2_5 := SDeal_cell G2 5
  have c1_6 := SDeal_cell G1 6
  have c2_6 := SDeal_cell G2 6
  simp at c1_0 c2_0 c1_1 c2_1 c1_2 c2_2 c1_3 c2_3 c1_4 c2_4 c1_5 c2_5 c1_6 c2_6
  go_wp2_with fail
  refine (eqIntS_t _ _ _ _ _ w0 (h3.below B) (k3.below B) (by omega)).mono ?_
  rintro e w3 ⟨rfl, bb3⟩
  replace B := B.trans (bb3.mono B.size)
  replace G1 := (bb3.block _ (by omega)).trans G1
  replace G2 := (bb3.block _ (by omega)).trans G2
  replace hS0 := Nat.le_trans hS0 bb3.size
  clear c1_0 c2_0 c1_1 c2_1 c1_2 c2_2 c1_3 c2_3 c1_4 c2_4 c1_5 c2_5 c1_6 c2_6
  clear bb3
  have c1_0 := SDeal_cell G1 0
  have c2_0 := SDeal_cell G2 0
  have c1_1 := SDeal_cell G1 1
  have c2_1 := SDeal_cell G2 1
  have c1_2 := SDeal_cell G1 2
  have c2_2 := SDeal_cell G2 2
  have c1_3 := SDeal_cell G1 3
  have c2_3 := SDeal_cell G2 3
  have c1_4 := SDeal_cell G1 4
  have c2_4 := SDeal_cell G2 4
  have c1_5 := SDeal_cell G1 5
  have c2_5 := SDeal_cell G2 5
  have c1_6 := SDeal_cell G1 6
  have c2_6 := SDeal_cell G2 6
  simp at c1_0 c2_0 c1_1 c2_1 c1_2 c2_2 c1_3 c2_3 c1_4 c2_4 c1_5 c2_5 c1_6 c2_6
  go_wp2_with fail
  refine (eqIntS_t _ _ _ _ _ w3 (h4.below B) (k4.below B) (by omega)).mono ?_
  rintro e w4 ⟨rfl, bb4⟩
  replace B := B.trans (bb4.mono B.size)
  replace G1 := (bb4.block _ (by omega)).trans G1
  replace G2 := (bb4.block _ (by omega)).trans G2
  replace hS0 := Nat.le_trans hS0 bb4.size
  clear c1_0 c2_0 c1_1 c2_1 c1_2 c2_2 c1_3 c2_3 c1_4 c2_4 c1_5 c2_5 c1_6 c2_6
  clear bb4
  have c1_0 := SDeal_cell G1 0
  have c2_0 := SDeal_cell G2 0
  have c1_1 := SDeal_cell G1 1
  have c2_1 := SDeal_cell G2 1
  have c1_2 := SDeal_cell G1 2
  have c2_2 := SDeal_cell G2 2
  have c1_3 := SDeal_cell G1 3
  have c2_3 := SDeal_cell G2 3
  have c1_4 := SDeal_cell G1 4
  have c2_4 := SDeal_cell G2 4
  have c1_5 := SDeal_cell G1 5
  have c2_5 := SDeal_cell G2 5
  have c1_6 := SDeal_cell G1 6
  have c2_6 := SDeal_cell G2 6
  simp at c1_0 c2_0 c1_1 c2_1 c1_2 c2_2 c1_3 c2_3 c1_4 c2_4 c1_5 c2_5 c1_6 c2_6
  go_wp2_with fail
  refine (eqIntS_t _ _ _ _ _ w4 (h5.below B) (k5.below B) (by omega)).mono ?_
  rintro e w5 ⟨rfl, bb5⟩
  replace B := B.trans (bb5.mono B.size)
  replace G1 := (bb5.block _ (by omega)).trans G1
  replace G2 := (bb5.block _ (by omega)).trans G2
  replace hS0 := Nat.le_trans hS0 bb5.size
  clear c1_0 c2_0 c1_1 c2_1 c1_2 c2_2 c1_3 c2_3 c1_4 c2_4 c1_5 c2_5 c1_6 c2_6
  clear bb5
  have c1_0 := SDeal_cell G1 0
  have c2_0 := SDeal_cell G2 0
  have c1_1 := SDeal_cell G1 1
  have c2_1 := SDeal_cell G2 1
  have c1_2 := SDeal_cell G1 2
  have c2_2 := SDeal_cell G2 2
  have c1_3 := SDeal_cell G1 3
  have c2_3 := SDeal_cell G2 3
  have c1_4 := SDeal_cell G1 4
  have c2_4 := SDeal_cell G2 4
  have c1_5 := SDeal_cell G1 5
  have c2_5 := SDeal_cell G2 5
  have c1_6 := SDeal_cell G1 6
  have c2_6 := SDeal_cell G2 6
  simp at c1_0 c2_0 c1_1 c2_1 c1_2 c2_2 c1_3 c2_3 c1_4 c2_4 c1_5 c2_5 c1_6 c2_6
  go_wp2_with fail
  go_ret
  exact ⟨rfl, B⟩

end Go.Proofs.YtbojhbhniollaaaDoor
