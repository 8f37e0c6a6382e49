/-
  The struct Rules: what can be read of it, what may be written and in which blocks; the laws' helpers over it.
-/
import Derived.Test.YtoeobpdgfhgpiaaFr
import Derived.Test.YtoeobpdgfhgpiaaSetR
import Derived.Test.YtoeobpdgfhgpiaaSRules
import Derived.Deep.Cut
namespace Go.Proofs.Ytoeobpdgfhgpiaa
open Go.RowKit
set_option linter.unusedVariables false
set_option linter.unusedSimpArgs false

/-- .. and its lists may be written, each in blocks of its own out of S. -/
def WrRules (S : Nat → Prop) (w : World) (v : Value) (D : MRules) : Prop :=
  ∃ (p4 p5 : Option Addr) (c4 c5 : Nat) (S4 S5 : Nat → Prop), v = .agg #[.int .i64 D.players, .int .i64 D.each, .bool D.sameSuit, .bool D.sameRank, .slice p4 D.wild.length c4, .slice p5 D.skip.length c5, .int .i64 D.take, .int .i64 D.limit] ∧ WrIn .i64 S4 w (.slice p4 D.wild.length c4) D.wild ∧ WrIn .i64 S5 w (.slice p5 D.skip.length c5) D.skip ∧ (∀ b, S4 b → S b) ∧ (∀ b, S5 b → S b) ∧ (∀ b, S4 b → ¬ S5 b) ∧ (Lit.int .i64 D.players).wf = true ∧ (Lit.int .i64 D.each).wf = true ∧ (Lit.int .i64 D.take).wf = true ∧ (Lit.int .i64 D.limit).wf = true
theorem WrRules.rd {S : Nat → Prop} {w : World} {v : Value} {D : MRules} (h : WrRules S w v D) : RdRules w v D := by
  obtain ⟨p4, p5, c4, c5, S4, S5, e, h4, h5, s4, s5, d0_1, wf0, wf1, wf2, wf3⟩ := h
  obtain ⟨b4, r4⟩ := h4.rd
  obtain ⟨b5, r5⟩ := h5.rd
  exact ⟨_, _, b4, b5, e, r4, r5, wf0, wf1, wf2, wf3⟩
theorem WrRules.touch {S U : Nat → Prop} {w w' : World} {v : Value} {D : MRules} (h : WrRules S w v D) (t : Touch U w w') (hd : ∀ b, S b → ¬ U b) : WrRules S w' v D := by
  obtain ⟨p4, p5, c4, c5, S4, S5, e, h4, h5, s4, s5, d0_1, wf0, wf1, wf2, wf3⟩ := h
  exact ⟨p4, p5, c4, c5, S4, S5, e, h4.touch t (fun b hb => hd b (s4 b hb)), h5.touch t (fun b hb => hd b (s5 b hb)), s4, s5, d0_1, wf0, wf1, wf2, wf3⟩
theorem WrRules.below {S : Nat → Prop} {w w' : World} {v : Value} {D : MRules} (h : WrRules S w v D) (b : Below w.heap.size w w') : WrRules S w' v D := h.touch (Below.touch (S := fun _ => False) b) (fun _ _ hx => hx)
theorem WrRules.mono {S U : Nat → Prop} {w : World} {v : Value} {D : MRules} (h : WrRules S w v D) (hs : ∀ b, S b → U b) : WrRules U w v D := by
  obtain ⟨p4, p5, c4, c5, S4, S5, e, h4, h5, s4, s5, d0_1, wf0, wf1, wf2, wf3⟩ := h
  exact ⟨p4, p5, c4, c5, S4, S5, e, h4, h5, fun b hb => hs b (s4 b hb), fun b hb => hs b (s5 b hb), d0_1, wf0, wf1, wf2, wf3⟩
theorem WrRules.shape {S : Nat → Prop} {w : World} {v : Value} {D : MRules} (h : WrRules S w v D) : ∃ (p4 p5 : Option Addr) (c4 c5 : Nat), v = .agg #[.int .i64 D.players, .int .i64 D.each, .bool D.sameSuit, .bool D.sameRank, .slice p4 D.wild.length c4, .slice p5 D.skip.length c5, .int .i64 D.take, .int .i64 D.limit] := by
  obtain ⟨p4, p5, c4, c5, S4, S5, e, h4, h5, s4, s5, d0_1, wf0, wf1, wf2, wf3⟩ := h
  exact ⟨p4, p5, c4, c5, e⟩

def MRules.total (D : MRules) : Nat := D.wild.length + D.skip.length
def MRules.marked (D : MRules) (k : Int) : MRules := { D with wild := marksI (k) D.wild.length, skip := marksI (k + (D.wild.length : Nat)) D.skip.length }
theorem MRules.total_le {D : MRules} (hf : D.Few) : D.total ≤ 2097152 := by
  obtain ⟨f4, f5⟩ := hf
  unfold MRules.total
  omega
set_option maxRecDepth 100000 in
set_option maxHeartbeats 1000000 in
theorem markRules_any {S : Nat → Prop} (v : Value) (D : MRules) (k : Int) (w : World) (h : WrRules S w v D) (hf : D.Few) (k0 : 0 ≤ k) (k1 : k ≤ 1099400000000) (hS : ∀ b, S b → b < w.heap.size) :
    Calls Try.prog 9 #[v, .int .i64 k] w fun e w' => e = .returned (.int .i64 (k + (D.total : Nat))) ∧ WrRules S w' v (D.marked k) ∧ Touch S w w' := by
  obtain ⟨p4, p5, c4, c5, S4, S5, rfl, h4, h5, s4, s5, d0_1, wf0, wf1, wf2, wf3⟩ := h
  obtain ⟨f4, f5⟩ := hf
  unfold MRules.total
  obtain ⟨n4, hn4⟩ : ∃ n, n = D.wild.length := ⟨_, rfl⟩
  have Hn4 := Lib.hid hn4
  obtain ⟨n5, hn5⟩ : ∃ n, n = D.skip.length := ⟨_, rfl⟩
  have Hn5 := Lib.hid hn5
  have nb4 : n4 ≤ 1048576 := by omega
  have nb5 : n5 ≤ 1048576 := by omega
  clear hn4 hn5
  obtain ⟨W0, hW0⟩ : ∃ W, W = w.alloc (.cells #[.int .i64 D.players, .int .i64 D.each, .bool D.sameSuit, .bool D.sameRank, .slice p4 D.wild.length c4, .slice p5 D.skip.length c5, .int .i64 D.take, .int .i64 D.limit] 24) := ⟨_, rfl⟩
  have G1 : W0.heap[w.heap.size]? = some (.cells #[.int .i64 D.players, .int .i64 D.each, .bool D.sameSuit, .bool D.sameRank, .slice p4 D.wild.length c4, .slice p5 D.skip.length c5, .int .i64 D.take, .int .i64 D.limit] 24 (0, 0)) := by rw [hW0]; exact heap_alloc_new _ _
  have B : Below w.heap.size w W0 := by rw [hW0]; exact (Below.refl _ _).alloc (Nat.le_refl _) _
  have l1 : w.heap.size < W0.heap.size := by rw [hW0]; simp
  have HW := Lib.hid hW0
  clear hW0
  replace h4 := h4.touch (Below.touch (S := fun _ => False) B) (fun _ _ hx => hx)
  have z4 : ∀ b, S4 b → b < w.heap.size := fun b hb => hS b (s4 b hb)
  replace h5 := h5.touch (Below.touch (S := fun _ => False) B) (fun _ _ hx => hx)
  have z5 : ∀ b, S5 b → b < w.heap.size := fun b hb => hS b (s5 b hb)
  have TT : Touch S w W0 := Below.touch B
  go_enter Try.func9, Try.ntmps9
  go_wp2_with fail
  rw [← HW.out]
  refine (markIn h4 (k := k) (by omega) (by omega) (by omega)).mono ?_
  rintro e w4 ⟨he, hw4, tt, -⟩
  rw [← Hn4.out] at he
  subst he
  replace G1 := touch_heap tt G1 (fun hb => absurd (z4 _ hb) (Nat.lt_irrefl _))
  replace l1 := Nat.lt_of_lt_of_le l1 tt.size
  replace TT := TT.trans (tt.mono s4)
  replace h5 := h5.touch tt (fun b h1 h2 => d0_1 b h2 h1)
  clear tt
  have k5 := box_cell G1 5
  simp at k5
  go_wp2_with fail
  refine (markIn h5 (k := k + (n4 : Int)) (by omega) (by omega) (by omega)).mono ?_
  rintro e w5 ⟨he, hw5, tt, -⟩
  rw [← Hn5.out] at he
  subst he
  replace G1 := touch_heap tt G1 (fun hb => absurd (z5 _ hb) (Nat.lt_irrefl _))
  replace l1 := Nat.lt_of_lt_of_le l1 tt.size
  replace TT := TT.trans (tt.mono s5)
  replace hw4 := hw4.touch tt d0_1
  clear tt
  clear k5
  go_wp2_with fail
  go_ret
  have hn4 := Hn4.out
  have hn5 := Hn5.out
  refine ⟨congrArg (fun z => Ending.returned (.int .i64 z)) (show k + (n4 : Int) + (n5 : Int) = k + ((D.wild.length + D.skip.length : Nat) : Int) by omega), ?_, TT⟩
  subst hn4
  subst hn5
  unfold MRules.marked
  refine ⟨p4, p5, c4, c5, S4, S5, ?_, ?_, ?_, s4, s5, d0_1, wf0, wf1, wf2, wf3⟩
  · simp [marksI_length, marksII_length]
  · have := hw4
    simpa [marksI_length, marksII_length] using this
  · have := hw5
    simpa [marksI_length, marksII_length] using this
set_option maxRecDepth 100000 in
set_option maxHeartbeats 1000000 in
theorem heldRules_any (v : Value) (D : MRules) (k : Int) (w : World) (h : RdRules w v (D.marked k)) (hf : D.Few) (k0 : 0 ≤ k) (k1 : k ≤ 1099400000000) :
    Calls Try.prog 10 #[v, .int .i64 k] w fun e w' => e = .returned (.int .i64 (k + (D.total : Nat))) ∧ Below w.heap.size w w' := by
  obtain ⟨v4, v5, b4, b5, rfl, h4, h5, wf0, wf1, wf2, wf3⟩ := h
  obtain ⟨p4, c4, e4, -⟩ := id h4
  subst e4
  obtain ⟨p5, c5, e5, -⟩ := id h5
  subst e5
  obtain ⟨f4, f5⟩ := hf
  unfold MRules.total
  unfold MRules.marked at *
  dsimp only at *
  skip
  skip
  simp only [marksI_length, marksII_length] at *
  obtain ⟨n4, hn4⟩ : ∃ n, n = D.wild.length := ⟨_, rfl⟩
  have Hn4 := Lib.hid hn4
  obtain ⟨n5, hn5⟩ : ∃ n, n = D.skip.length := ⟨_, rfl⟩
  have Hn5 := Lib.hid hn5
  have nb4 : n4 ≤ 1048576 := by omega
  have nb5 : n5 ≤ 1048576 := by omega
  clear hn4 hn5
  obtain ⟨W0, hW0⟩ : ∃ W, W = w.alloc (.cells #[.int .i64 D.players, .int .i64 D.each, .bool D.sameSuit, .bool D.sameRank, .slice p4 D.wild.length c4, .slice p5 D.skip.length c5, .int .i64 D.take, .int .i64 D.limit] 24) := ⟨_, rfl⟩
  have G1 : W0.heap[w.heap.size]? = some (.cells #[.int .i64 D.players, .int .i64 D.each, .bool D.sameSuit, .bool D.sameRank, .slice p4 D.wild.length c4, .slice p5 D.skip.length c5, .int .i64 D.take, .int .i64 D.limit] 24 (0, 0)) := by rw [hW0]; exact heap_alloc_new _ _
  have B : Below w.heap.size w W0 := by rw [hW0]; exact (Below.refl _ _).alloc (Nat.le_refl _) _
  have l1 : w.heap.size < W0.heap.size := by rw [hW0]; simp
  have HW := Lib.hid hW0
  clear hW0
  go_enter Try.func10, Try.ntmps10
  go_wp2_with fail
  rw [← HW.out]
  refine (heldIntS_any _ _ (k) D.wild.length _ (by have hx := h4.below B; exact hx) (by omega) (by omega) (by omega)).mono ?_
  rintro e _w ⟨he, rfl⟩
  rw [← Hn4.out] at he
  subst he
  have nn4 : decide (k + (n4 : Int) < 0) = false := by simp; omega
  have k5 := box_cell G1 5
  simp at k5
  go_wp2_with fail
  refine (heldIntS_any _ _ (k + (n4 : Int)) D.skip.length _ (by have hx := h5.below B; (try rw [← Hn4.out] at hx); exact hx) (by omega) (by omega) (by omega)).mono ?_
  rintro e _w ⟨he, rfl⟩
  rw [← Hn5.out] at he
  subst he
  have nn5 : decide (k + (n4 : Int) + (n5 : Int) < 0) = false := by simp; omega
  clear k5
  go_wp2_with fail
  go_ret
  have hn4 := Hn4.out
  have hn5 := Hn5.out
  exact ⟨congrArg (fun z => Ending.returned (.int .i64 z)) (show k + (n4 : Int) + (n5 : Int) = k + ((D.wild.length + D.skip.length : Nat) : Int) by omega), B⟩

end Go.Proofs.Ytoeobpdgfhgpiaa
