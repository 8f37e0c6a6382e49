/-
  The struct Rules: its numbers, what can be read of it; the laws' helpers over it.
-/
import Derived.Test.YtmfammgdcdlceaaDoorSzI
import Derived.Laws.Rows
namespace Go.Proofs.YtmfammgdcdlceaaDoor
open Go.RowKit
set_option linter.unusedSimpArgs false

structure MRules where
  players : Int
  each : Int
  sameSuit : Bool
  sameRank : Bool
  wild : List Int
  skip : List Int
  take : Int
  limit : Int

/-- The value v is such a struct, with the numbers D. -/
def RdRules (w : World) (v : Value) (D : MRules) : Prop :=
  ∃ (v4 v5 : Value) (b4 b5 : Nat), v = .agg #[.int .i64 D.players, .int .i64 D.each, .bool D.sameSuit, .bool D.sameRank, v4, v5, .int .i64 D.take, .int .i64 D.limit] ∧ RdAt .i64 w v4 D.wild b4 ∧ RdAt .i64 w v5 D.skip b5 ∧ (Lit.int .i64 D.players).wf = true ∧ (Lit.int .i64 D.each).wf = true ∧ (Lit.int .i64 D.take).wf = true ∧ (Lit.int .i64 D.limit).wf = true
theorem RdRules.below {w w' : World} {v : Value} {D : MRules} (h : RdRules w v D) (hb : Below w.heap.size w w') : RdRules w' v D := by
  obtain ⟨v4, v5, b4, b5, e, h4, h5, wf0, wf1, wf6, wf7⟩ := h
  exact ⟨v4, v5, b4, b5, e, h4.below hb, h5.below hb, wf0, wf1, wf6, wf7⟩
def MRules.Few (D : MRules) : Prop := D.wild.length ≤ 1048576 ∧ D.skip.length ≤ 1048576
theorem RdRules.shape {w : World} {v : Value} {D : MRules} (h : RdRules w v D) : ∃ (p4 p5 : Option Addr) (c4 c5 : Nat), v = .agg #[.int .i64 D.players, .int .i64 D.each, .bool D.sameSuit, .bool D.sameRank, .slice p4 D.wild.length c4, .slice p5 D.skip.length c5, .int .i64 D.take, .int .i64 D.limit] := by
  obtain ⟨v4, v5, b4, b5, rfl, h4, h5, wf0, wf1, wf6, wf7⟩ := h
  obtain ⟨p4, c4, e4, -⟩ := id h4
  subst e4
  obtain ⟨p5, c5, e5, -⟩ := id h5
  subst e5
  exact ⟨_, _, _, _, rfl⟩
theorem SRules_cells {w : World} {b : Nat} {a0 a1 a2 a3 a4 a5 a6 a7 : Value} {t : TypeId} {fr : Nat × Nat} (h : w.heap[b]? = some (.cells #[a0, a1, a2, a3, a4, a5, a6, a7] t fr)) : w.cell? ⟨b, 0, none⟩ = some a0 ∧ w.cell? ⟨b, 1, none⟩ = some a1 ∧ w.cell? ⟨b, 2, none⟩ = some a2 ∧ w.cell? ⟨b, 3, none⟩ = some a3 ∧ w.cell? ⟨b, 4, none⟩ = some a4 ∧ w.cell? ⟨b, 5, none⟩ = some a5 ∧ w.cell? ⟨b, 6, none⟩ = some a6 ∧ w.cell? ⟨b, 7, none⟩ = some a7 := by
  simp [World.cell?, h]

set_option linter.unusedVariables false in
set_option maxRecDepth 100000 in
theorem szRules_any (v : Value) (D : MRules) (left : Int) (w : World) (h : RdRules w v D) (hl0 : 0 ≤ left) (hl1 : left ≤ 1048576) :
    Calls Tryd.prog 51 #[v, .int .i64 left] w fun e w' => (∃ r : Int, e = .returned (.int .i64 r) ∧ -1 ≤ r ∧ r ≤ 1048576 ∧ (0 ≤ r → D.Few)) ∧ Below w.heap.size w w' := by
  obtain ⟨v4, v5, b4, b5, rfl, h4, h5, wf0, wf1, wf6, wf7⟩ := h
  obtain ⟨p4, c4, e4, hc4, -⟩ := id h4
  obtain ⟨p5, c5, e5, hc5, -⟩ := id h5
  have hm4 : D.wild.length ≤ 9223372036854775807 := by have h1 := hc4.1; have h2 := hc4.2.1; unfold maxLen at h2; omega
  have hm5 : D.skip.length ≤ 9223372036854775807 := by have h1 := hc5.1; have h2 := hc5.2.1; unfold maxLen at h2; omega
  clear hc4
  clear hc5
  have B0 := fun o => (Below.refl w.heap.size w).alloc (Nat.le_refl _) o
  go_enter Tryd.func51, Tryd.ntmps51
  subst e4
  subst e5
  have HC4 := Lib.hid (fun wx => szIntS_any p4 D.wild.length c4 (left) wx (by omega) (by omega) hm4)
  by_cases hx4 : (left) < D.wild.length
  · rw [if_pos hx4] at HC4
    go_wp2_with fail
    refine (HC4.out _).mono ?_
    rintro e _w ⟨rfl, rfl⟩
    go_wp2_with fail
    go_ret
    exact ⟨⟨-1, rfl, by omega, by omega, fun h => by omega⟩, B0 _⟩
  rw [if_neg hx4] at HC4
  obtain ⟨r4, hr4⟩ : ∃ r, r = (left) - (D.wild.length : Int) := ⟨_, rfl⟩
  rw [← hr4] at HC4
  have g4 : D.wild.length ≤ 1048576 := by omega
  have ra4 : 0 ≤ r4 := by omega
  have rb4 : r4 ≤ 1048576 := by omega
  clear hr4 hx4
  go_wp2_with fail
  refine (HC4.out _).mono ?_
  rintro e _w ⟨rfl, rfl⟩
  clear HC4
  have HC5 := Lib.hid (fun wx => szIntS_any p5 D.skip.length c5 (r4) wx (by omega) (by omega) hm5)
  by_cases hx5 : (r4) < D.skip.length
  · rw [if_pos hx5] at HC5
    go_wp2_with fail
    refine (HC5.out _).mono ?_
    rintro e _w ⟨rfl, rfl⟩
    go_wp2_with fail
    go_ret
    exact ⟨⟨-1, rfl, by omega, by omega, fun h => by omega⟩, B0 _⟩
  rw [if_neg hx5] at HC5
  obtain ⟨r5, hr5⟩ : ∃ r, r = (r4) - (D.skip.length : Int) := ⟨_, rfl⟩
  rw [← hr5] at HC5
  have g5 : D.skip.length ≤ 1048576 := by omega
  have ra5 : 0 ≤ r5 := by omega
  have rb5 : r5 ≤ 1048576 := by omega
  clear hr5 hx5
  go_wp2_with fail
  refine (HC5.out _).mono ?_
  rintro e _w ⟨rfl, rfl⟩
  clear HC5
  go_wp2_with fail
  go_ret
  exact ⟨⟨r5, rfl, by omega, by omega, fun _ => ⟨g4, g5⟩⟩, B0 _⟩

theorem SRules_three (w : World) (o1 o2 o3 : Obj) : (((w.alloc o1).alloc o2).alloc o3).heap[w.heap.size]? = some o1 ∧ (((w.alloc o1).alloc o2).alloc o3).heap[w.heap.size + 1]? = some o2 ∧ (((w.alloc o1).alloc o2).alloc o3).heap[w.heap.size + 2]? = some o3 := by
  refine ⟨?_, ?_, ?_⟩ <;> show (((w.heap.push o1).push o2).push o3)[_]? = _
  · rw [Array.getElem?_push, if_neg (by simp; omega), Array.getElem?_push, if_neg (by simp)]; simp
  · rw [Array.getElem?_push, if_neg (by simp), Array.getElem?_push, if_pos (by simp)]
  · rw [Array.getElem?_push, if_pos (by simp)]
theorem SRules_cell {w : World} {b : Nat} {c : Array Value} {t : TypeId} {fr : Nat × Nat} (h : w.heap[b]? = some (.cells c t fr)) (i : Nat) : w.cell? ⟨b, i, none⟩ = c[i]? := by
  simp [World.cell?, h]
theorem SRules_free {w : World} {b : Nat} {c : Array Value} {t : TypeId} (h : w.heap[b]? = some (.cells c t (0, 0))) (i : Nat) : w.frozen? ⟨b, i, none⟩ = false := by
  simp [World.frozen?, h]
theorem SRules_set {w : World} {b : Nat} {c : Array Value} {t : TypeId} {fr : Nat × Nat} (h : w.heap[b]? = some (.cells c t fr)) (i : Nat) (v : Value) : (w.setCell ⟨b, i, none⟩ v).heap[b]? = some (.cells (c.setIfInBounds i v) t fr) := by
  simp [World.setCell, Array.getElem?_modify, h]

set_option linter.unusedVariables false in
set_option maxRecDepth 100000 in
set_option maxHeartbeats 1000000 in
theorem toRules_any (v : Value) (D : MRules) (w : World) (h : RdRules w v D) (hf : D.Few) :
    Calls Tryd.prog 53 #[v] w fun e w' => ∃ v', e = .returned v' ∧ RdRules w' v' D ∧ Below w.heap.size w w' := by
  obtain ⟨v4, v5, b4, b5, rfl, h4, h5, wf0, wf1, wf6, wf7⟩ := h
  obtain ⟨f4, f5⟩ := hf
  have T := Lib.hid (SRules_three w (.cells #[.int .i64 D.players, .int .i64 D.each, .bool D.sameSuit, .bool D.sameRank, v4, v5, .int .i64 D.take, .int .i64 D.limit] 40) (.cells #[.int .i64 0, .int .i64 0, .bool false, .bool false, .slice none 0 0, .slice none 0 0, .int .i64 0, .int .i64 0] 45) (.cells #[.int .i64 D.players, .int .i64 D.each, .bool D.sameSuit, .bool D.sameRank, .slice none 0 0, .slice none 0 0, .int .i64 0, .int .i64 0] 45))
  have B : Below w.heap.size w (((w.alloc (.cells #[.int .i64 D.players, .int .i64 D.each, .bool D.sameSuit, .bool D.sameRank, v4, v5, .int .i64 D.take, .int .i64 D.limit] 40)).alloc (.cells #[.int .i64 0, .int .i64 0, .bool false, .bool false, .slice none 0 0, .slice none 0 0, .int .i64 0, .int .i64 0] 45)).alloc (.cells #[.int .i64 D.players, .int .i64 D.each, .bool D.sameSuit, .bool D.sameRank, .slice none 0 0, .slice none 0 0, .int .i64 0, .int .i64 0] 45)) := (((Below.refl _ _).alloc (Nat.le_refl _) _).alloc (by simp) _).alloc (by simp; omega) _
  obtain ⟨W0, hW0⟩ : ∃ W0, W0 = (((w.alloc (.cells #[.int .i64 D.players, .int .i64 D.each, .bool D.sameSuit, .bool D.sameRank, v4, v5, .int .i64 D.take, .int .i64 D.limit] 40)).alloc (.cells #[.int .i64 0, .int .i64 0, .bool false, .bool false, .slice none 0 0, .slice none 0 0, .int .i64 0, .int .i64 0] 45)).alloc (.cells #[.int .i64 D.players, .int .i64 D.each, .bool D.sameSuit, .bool D.sameRank, .slice none 0 0, .slice none 0 0, .int .i64 0, .int .i64 0] 45)) := ⟨_, rfl⟩
  obtain ⟨bl, hbl⟩ : ∃ b, b = w.heap.size + 1 + 1 := ⟨_, rfl⟩
  obtain ⟨br, hbr⟩ : ∃ b, b = w.heap.size + 1 := ⟨_, rfl⟩
  have hS0 : bl < W0.heap.size := by rw [hW0, hbl]; simp
  rw [← hW0] at B T
  have HW := Lib.hid hW0
  clear hW0
  obtain ⟨G1, G2, G3⟩ := T.out
  clear T
  have e3 : w.heap.size + 2 = bl := by omega
  rw [← hbr] at G2
  rw [e3] at G3
  have hd1 : w.heap.size < br := by omega
  have hd2 : br < bl := by omega
  have Hbl := Lib.hid hbl
  have Hbr := Lib.hid hbr
  clear hbl hbr e3
  go_enter Tryd.func53, Tryd.ntmps53
  go_wp2_with fail
  rw [← HW.out, ← Hbl.out, ← Hbr.out]
  refine (toIntS_any _ _ _ W0 (h4.below B) (by omega)).mono ?_
  rintro e w4 ⟨u4, rfl, x4, bb4, -⟩
  replace x4 := x4.rd
  obtain ⟨pu4, cu4, eu4, -⟩ := id x4
  subst eu4
  have l4 : bl < W0.heap.size := hS0
  replace B := B.trans (bb4.mono B.size)
  replace G1 := (bb4.block _ (by omega)).trans G1
  replace G2 := (bb4.block _ (by omega)).trans G2
  replace G3 := (bb4.block _ (by omega)).trans G3
  replace hS0 := Nat.lt_of_lt_of_le hS0 bb4.size
  clear bb4
  have c1_0 := SRules_cell G1 0
  have c3_0 := SRules_cell G3 0
  have z3_0 := SRules_free G3 0
  have c1_1 := SRules_cell G1 1
  have c3_1 := SRules_cell G3 1
  have z3_1 := SRules_free G3 1
  have c1_2 := SRules_cell G1 2
  have c3_2 := SRules_cell G3 2
  have z3_2 := SRules_free G3 2
  have c1_3 := SRules_cell G1 3
  have c3_3 := SRules_cell G3 3
  have z3_3 := SRules_free G3 3
  have c1_4 := SRules_cell G1 4
  have c3_4 := SRules_cell G3 4
  have z3_4 := SRules_free G3 4
  have c1_5 := SRules_cell G1 5
  have c3_5 := SRules_cell G3 5
  have z3_5 := SRules_free G3 5
  have c1_6 := SRules_cell G1 6
  have c3_6 := SRules_cell G3 6
  have z3_6 := SRules_free G3 6
  have c1_7 := SRules_cell G1 7
  have c3_7 := SRules_cell G3 7
  have z3_7 := SRules_free G3 7
  simp at c1_0 c3_0 c1_1 c3_1 c1_2 c3_2 c1_3 c3_3 c1_4 c3_4 c1_5 c3_5 c1_6 c3_6 c1_7 c3_7
  go_wp2_with fail
  obtain ⟨X5, hX5⟩ : ∃ X, X = (w4.setCell ⟨bl, 4, none⟩ (.slice pu4 D.wild.length cu4)) := ⟨_, rfl⟩
  have N3 := (SRules_set G3 4 (.slice pu4 D.wild.length cu4))
  rw [← hX5] at N3
  have K5 : ∀ i, i ≠ bl → X5.heap[i]? = w4.heap[i]? := fun i hi => by rw [hX5]; rw [Below.heap_setCell _ _ _ _ hi]
  have Z5 : X5.heap.size = w4.heap.size := by rw [hX5]; simp [World.setCell]
  have NB : Below w.heap.size w X5 := by rw [hX5]; exact (B.setCell (show w.heap.size ≤ bl by omega) (.slice pu4 D.wild.length cu4))
  replace G1 := (K5 _ (by omega)).trans G1
  replace G2 := (K5 _ (by omega)).trans G2
  replace hS0 : bl < X5.heap.size := by rw [Z5]; exact hS0
  replace x4 := x4.keep (fun _ => K5 _ (by omega))
  rw [← hX5]
  clear hX5 B G3 K5 Z5 c3_0 z3_0 c3_1 z3_1 c3_2 z3_2 c3_3 z3_3 c3_4 z3_4 c3_5 z3_5 c3_6 z3_6 c3_7 z3_7 c1_0 c1_1 c1_2 c1_3 c1_4 c1_5 c1_6 c1_7
  have G3 := N3
  have B := NB
  clear N3 NB
  simp only [List.setIfInBounds_toArray, List.set_cons_zero, List.set_cons_succ] at G3
  refine (toIntS_any _ _ _ X5 (h5.below B) (by omega)).mono ?_
  rintro e w5 ⟨u5, rfl, x5, bb5, -⟩
  replace x5 := x5.rd
  obtain ⟨pu5, cu5, eu5, -⟩ := id x5
  subst eu5
  have l5 : bl < X5.heap.size := hS0
  replace B := B.trans (bb5.mono B.size)
  replace G1 := (bb5.block _ (by omega)).trans G1
  replace G2 := (bb5.block _ (by omega)).trans G2
  replace G3 := (bb5.block _ (by omega)).trans G3
  replace hS0 := Nat.lt_of_lt_of_le hS0 bb5.size
  replace x4 := x4.below bb5
  clear bb5
  have c1_0 := SRules_cell G1 0
  have c3_0 := SRules_cell G3 0
  have z3_0 := SRules_free G3 0
  have c1_1 := SRules_cell G1 1
  have c3_1 := SRules_cell G3 1
  have z3_1 := SRules_free G3 1
  have c1_2 := SRules_cell G1 2
  have c3_2 := SRules_cell G3 2
  have z3_2 := SRules_free G3 2
  have c1_3 := SRules_cell G1 3
  have c3_3 := SRules_cell G3 3
  have z3_3 := SRules_free G3 3
  have c1_4 := SRules_cell G1 4
  have c3_4 := SRules_cell G3 4
  have z3_4 := SRules_free G3 4
  have c1_5 := SRules_cell G1 5
  have c3_5 := SRules_cell G3 5
  have z3_5 := SRules_free G3 5
  have c1_6 := SRules_cell G1 6
  have c3_6 := SRules_cell G3 6
  have z3_6 := SRules_free G3 6
  have c1_7 := SRules_cell G1 7
  have c3_7 := SRules_cell G3 7
  have z3_7 := SRules_free G3 7
  have c2_0 := SRules_cell G2 0
  have z2_0 := SRules_free G2 0
  have c2_1 := SRules_cell G2 1
  have z2_1 := SRules_free G2 1
  have c2_2 := SRules_cell G2 2
  have z2_2 := SRules_free G2 2
  have c2_3 := SRules_cell G2 3
  have z2_3 := SRules_free G2 3
  have c2_4 := SRules_cell G2 4
  have z2_4 := SRules_free G2 4
  have c2_5 := SRules_cell G2 5
  have z2_5 := SRules_free G2 5
  have c2_6 := SRules_cell G2 6
  have z2_6 := SRules_free G2 6
  have c2_7 := SRules_cell G2 7
  have z2_7 := SRules_free G2 7
  simp at c1_0 c3_0 c2_0 c1_1 c3_1 c2_1 c1_2 c3_2 c2_2 c1_3 c3_3 c2_3 c1_4 c3_4 c2_4 c1_5 c3_5 c2_5 c1_6 c3_6 c2_6 c1_7 c3_7 c2_7
  go_wp2_with fail
  obtain ⟨X, hX⟩ : ∃ X, X = (((((((((((w5.setCell ⟨bl, 5, none⟩ (.slice pu5 D.skip.length cu5)).setCell ⟨bl, 6, none⟩ (.int .i64 D.take)).setCell ⟨bl, 7, none⟩ (.int .i64 D.limit)).setCell ⟨br, 0, none⟩ (.int .i64 D.players)).setCell ⟨br, 1, none⟩ (.int .i64 D.each)).setCell ⟨br, 2, none⟩ (.bool D.sameSuit)).setCell ⟨br, 3, none⟩ (.bool D.sameRank)).setCell ⟨br, 4, none⟩ (.slice pu4 D.wild.length cu4)).setCell ⟨br, 5, none⟩ (.slice pu5 D.skip.length cu5)).setCell ⟨br, 6, none⟩ (.int .i64 D.take)).setCell ⟨br, 7, none⟩ (.int .i64 D.limit)) := ⟨_, rfl⟩
  have G2a : (((w5.setCell ⟨bl, 5, none⟩ (.slice pu5 D.skip.length cu5)).setCell ⟨bl, 6, none⟩ (.int .i64 D.take)).setCell ⟨bl, 7, none⟩ (.int .i64 D.limit)).heap[br]? = some (.cells #[.int .i64 0, .int .i64 0, .bool false, .bool false, .slice none 0 0, .slice none 0 0, .int .i64 0, .int .i64 0] 45 (0, 0)) := (by rw [Below.heap_setCell _ _ _ _ (show br ≠ bl by omega), Below.heap_setCell _ _ _ _ (show br ≠ bl by omega), Below.heap_setCell _ _ _ _ (show br ≠ bl by omega)]; exact G2)
  have N2 := (SRules_set (SRules_set (SRules_set (SRules_set (SRules_set (SRules_set (SRules_set (SRules_set G2a 0 (.int .i64 D.players)) 1 (.int .i64 D.each)) 2 (.bool D.sameSuit)) 3 (.bool D.sameRank)) 4 (.slice pu4 D.wild.length cu4)) 5 (.slice pu5 D.skip.length cu5)) 6 (.int .i64 D.take)) 7 (.int .i64 D.limit))
  rw [← hX] at N2
  have K : ∀ i, i ≠ bl → i ≠ br → X.heap[i]? = w5.heap[i]? := fun i hi hr => by rw [hX]; rw [Below.heap_setCell _ _ _ _ hr, Below.heap_setCell _ _ _ _ hr, Below.heap_setCell _ _ _ _ hr, Below.heap_setCell _ _ _ _ hr, Below.heap_setCell _ _ _ _ hr, Below.heap_setCell _ _ _ _ hr, Below.heap_setCell _ _ _ _ hr, Below.heap_setCell _ _ _ _ hr, Below.heap_setCell _ _ _ _ hi, Below.heap_setCell _ _ _ _ hi, Below.heap_setCell _ _ _ _ hi]
  have Z : X.heap.size = w5.heap.size := by rw [hX]; simp [World.setCell]
  have NB : Below w.heap.size w X := by rw [hX]; exact (((((((((((B.setCell (show w.heap.size ≤ bl by omega) (.slice pu5 D.skip.length cu5)).setCell (show w.heap.size ≤ bl by omega) (.int .i64 D.take)).setCell (show w.heap.size ≤ bl by omega) (.int .i64 D.limit)).setCell (show w.heap.size ≤ br by omega) (.int .i64 D.players)).setCell (show w.heap.size ≤ br by omega) (.int .i64 D.each)).setCell (show w.heap.size ≤ br by omega) (.bool D.sameSuit)).setCell (show w.heap.size ≤ br by omega) (.bool D.sameRank)).setCell (show w.heap.size ≤ br by omega) (.slice pu4 D.wild.length cu4)).setCell (show w.heap.size ≤ br by omega) (.slice pu5 D.skip.length cu5)).setCell (show w.heap.size ≤ br by omega) (.int .i64 D.take)).setCell (show w.heap.size ≤ br by omega) (.int .i64 D.limit))
  rw [← hX]
  simp only [List.setIfInBounds_toArray, List.set_cons_zero, List.set_cons_succ] at N2
  replace x4 := x4.keep (fun _ => K _ (by omega) (by omega))
  replace x5 := x5.keep (fun _ => K _ (by omega) (by omega))
  (try simp only [Exit.inBlock, Exit.then]); refine bodyPost_ret (results_cell_row rfl _ _ br _ _ _ _ rfl N2 Tryd.underlying45 rfl (by kernel_rfl)) rfl ?_
  exact ⟨_, rfl, ⟨_, _, _, _, rfl, x4, x5, wf0, wf1, wf6, wf7⟩, NB⟩

set_option linter.unusedVariables false in
set_option maxRecDepth 100000 in
set_option maxHeartbeats 1000000 in
theorem eqRules_t (va vb : Value) (D : MRules) (w : World) (ha : RdRules w va D) (hb : RdRules w vb D) (hf : D.Few) :
    Calls Tryd.prog 57 #[va, vb] w fun e w' => e = .returned (.bool true) ∧ Below w.heap.size w w' := by
  obtain ⟨v4, v5, b4, b5, rfl, h4, h5, wf0, wf1, wf6, wf7⟩ := ha
  obtain ⟨y4, y5, d4, d5, rfl, k4, k5, -, -, -, -⟩ := hb
  obtain ⟨f4, f5⟩ := hf
  have B : Below w.heap.size w ((w.alloc (.cells #[.int .i64 D.players, .int .i64 D.each, .bool D.sameSuit, .bool D.sameRank, v4, v5, .int .i64 D.take, .int .i64 D.limit] 45)).alloc (.cells #[.int .i64 D.players, .int .i64 D.each, .bool D.sameSuit, .bool D.sameRank, y4, y5, .int .i64 D.take, .int .i64 D.limit] 45)) := ((Below.refl _ _).alloc (Nat.le_refl _) _).alloc (by simp) _
  obtain ⟨W0, hW0⟩ : ∃ W0, W0 = ((w.alloc (.cells #[.int .i64 D.players, .int .i64 D.each, .bool D.sameSuit, .bool D.sameRank, v4, v5, .int .i64 D.take, .int .i64 D.limit] 45)).alloc (.cells #[.int .i64 D.players, .int .i64 D.each, .bool D.sameSuit, .bool D.sameRank, y4, y5, .int .i64 D.take, .int .i64 D.limit] 45)) := ⟨_, rfl⟩
  have G := SRules_three w (.cells #[.int .i64 D.players, .int .i64 D.each, .bool D.sameSuit, .bool D.sameRank, v4, v5, .int .i64 D.take, .int .i64 D.limit] 45) (.cells #[.int .i64 D.players, .int .i64 D.each, .bool D.sameSuit, .bool D.sameRank, y4, y5, .int .i64 D.take, .int .i64 D.limit] 45) (.cells #[.int .i64 D.players, .int .i64 D.each, .bool D.sameSuit, .bool D.sameRank, y4, y5, .int .i64 D.take, .int .i64 D.limit] 45)
  have G1 : W0.heap[w.heap.size]? = some (.cells #[.int .i64 D.players, .int .i64 D.each, .bool D.sameSuit, .bool D.sameRank, v4, v5, .int .i64 D.take, .int .i64 D.limit] 45 (0, 0)) := by
    rw [hW0]; show ((w.heap.push _).push _)[_]? = _
    rw [Array.getElem?_push, if_neg (by simp), Array.getElem?_push, if_pos rfl]
  have G2 : W0.heap[w.heap.size + 1]? = some (.cells #[.int .i64 D.players, .int .i64 D.each, .bool D.sameSuit, .bool D.sameRank, y4, y5, .int .i64 D.take, .int .i64 D.limit] 45 (0, 0)) := by
    rw [hW0]; show ((w.heap.push _).push _)[_]? = _
    rw [Array.getElem?_push, if_pos (by simp)]
  have hS0 : w.heap.size + 2 ≤ W0.heap.size := by rw [hW0]; simp
  rw [← hW0] at B
  have HW := Lib.hid hW0
  clear hW0 G
  go_enter Tryd.func57, Tryd.ntmps57
  go_wp2_with fail
  rw [← HW.out]
  refine (eqIntS_t _ _ _ _ _ W0 (h4.below B) (k4.below B) (by omega)).mono ?_
  rintro e w4 ⟨rfl, bb4⟩
  replace B := B.trans (bb4.mono B.size)
  replace G1 := (bb4.block _ (by omega)).trans G1
  replace G2 := (bb4.block _ (by omega)).trans G2
  replace hS0 := Nat.le_trans hS0 bb4.size
  clear bb4
  have c1_0 := SRules_cell G1 0
  have c2_0 := SRules_cell G2 0
  have c1_1 := SRules_cell G1 1
  have c2_1 := SRules_cell G2 1
  have c1_2 := SRules_cell G1 2
  have c2_2 := SRules_cell G2 2
  have c1_3 := SRules_cell G1 3
  have c2_3 := SRules_cell G2 3
  have c1_4 := SRules_cell G1 4
  have c2_4 := SRules_cell G2 4
  have c1_5 := SRules_cell G1 5
  have c2_5 := SRules_cell G2 5
  have c1_6 := SRules_cell G1 6
  have c2_6 := SRules_cell G2 6
  have c1_7 := SRules_cell G1 7
  have c2_7 := SRules_cell G2 7
  simp at c1_0 c2_0 c1_1 c2_1 c1_2 c2_2 c1_3 c2_3 c1_4 c2_4 c1_5 c2_5 c1_6 c2_6 c1_7 c2_7
  go_wp2_with fail
  refine (eqIntS_t _ _ _ _ _ w4 (h5.below B) (k5.below B) (by omega)).mono ?_
  rintro e w5 ⟨rfl, bb5⟩
  replace B := B.trans (bb5.mono B.size)
  replace G1 := (bb5.block _ (by omega)).trans G1
  replace G2 := (bb5.block _ (by omega)).trans G2
  replace hS0 := Nat.le_trans hS0 bb5.size
  clear c1_0 c2_0 c1_1 c2_1 c1_2 c2_2 c1_3 c2_3 c1_4 c2_4 c1_5 c2_5 c1_6 c2_6 c1_7 c2_7
  clear bb5
  have c1_0 := SRules_cell G1 0
  have c2_0 := SRules_cell G2 0
  have c1_1 := SRules_cell G1 1
  have c2_1 := SRules_cell G2 1
  have c1_2 := SRules_cell G1 2
  have c2_2 := SRules_cell G2 2
  have c1_3 := SRules_cell G1 3
  have c2_3 := SRules_cell G2 3
  have c1_4 := SRules_cell G1 4
  have c2_4 := SRules_cell G2 4
  have c1_5 := SRules_cell G1 5
  have c2_5 := SRules_cell G2 5
  have c1_6 := SRules_cell G1 6
  have c2_6 := SRules_cell G2 6
  have c1_7 := SRules_cell G1 7
  have c2_7 := SRules_cell G2 7
  simp at c1_0 c2_0 c1_1 c2_1 c1_2 c2_2 c1_3 c2_3 c1_4 c2_4 c1_5 c2_5 c1_6 c2_6 c1_7 c2_7
  go_wp2_with fail
  go_ret
  exact ⟨rfl, B⟩

end Go.Proofs.YtmfammgdcdlceaaDoor
