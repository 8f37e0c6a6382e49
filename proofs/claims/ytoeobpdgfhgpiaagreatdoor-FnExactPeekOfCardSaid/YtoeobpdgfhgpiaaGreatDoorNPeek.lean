/-
  The struct Peek: what can be read of it, what may be written and in which blocks; the laws' helpers over it.
-/
import Derived.Test.YtoeobpdgfhgpiaaGreatDoorFr
import Derived.Test.YtoeobpdgfhgpiaaGreatDoorSetR
import Derived.Test.YtoeobpdgfhgpiaaGreatDoorSPeek
import Derived.Deep.Cut
namespace Go.Proofs.YtoeobpdgfhgpiaaGreatDoor
open Go.RowKit
set_option linter.unusedVariables false
set_option linter.unusedSimpArgs false

/-- .. and its lists may be written, each in blocks of its own out of S. -/
def WrPeek (S : Nat → Prop) (w : World) (v : Value) (D : MPeek) : Prop :=
  ∃ (p1 p5 : Option Addr) (c1 c5 : Nat) (S1 S5 : Nat → Prop), v = .agg #[.int .i64 D.me, .slice p1 D.hand.length c1, .int .i64 D.top, .int .i64 D.heapSize, .int .i64 D.stockSize, .slice p5 D.sizes.length c5, .int .i64 D.turn, .int .i64 D.moves] ∧ WrIn .i64 S1 w (.slice p1 D.hand.length c1) D.hand ∧ WrIn .i64 S5 w (.slice p5 D.sizes.length c5) D.sizes ∧ (∀ b, S1 b → S b) ∧ (∀ b, S5 b → S b) ∧ (∀ b, S1 b → ¬ S5 b) ∧ (Lit.int .i64 D.me).wf = true ∧ (Lit.int .i64 D.top).wf = true ∧ (Lit.int .i64 D.heapSize).wf = true ∧ (Lit.int .i64 D.stockSize).wf = true ∧ (Lit.int .i64 D.turn).wf = true ∧ (Lit.int .i64 D.moves).wf = true
theorem WrPeek.rd {S : Nat → Prop} {w : World} {v : Value} {D : MPeek} (h : WrPeek S w v D) : RdPeek w v D := by
  obtain ⟨p1, p5, c1, c5, S1, S5, e, h1, h5, s1, s5, d0_1, wf0, wf1, wf2, wf3, wf4, wf5⟩ := h
  obtain ⟨b1, r1⟩ := h1.rd
  obtain ⟨b5, r5⟩ := h5.rd
  exact ⟨_, _, b1, b5, e, r1, r5, wf0, wf1, wf2, wf3, wf4, wf5⟩
theorem WrPeek.touch {S U : Nat → Prop} {w w' : World} {v : Value} {D : MPeek} (h : WrPeek S w v D) (t : Touch U w w') (hd : ∀ b, S b → ¬ U b) : WrPeek S w' v D := by
  obtain ⟨p1, p5, c1, c5, S1, S5, e, h1, h5, s1, s5, d0_1, wf0, wf1, wf2, wf3, wf4, wf5⟩ := h
  exact ⟨p1, p5, c1, c5, S1, S5, e, h1.touch t (fun b hb => hd b (s1 b hb)), h5.touch t (fun b hb => hd b (s5 b hb)), s1, s5, d0_1, wf0, wf1, wf2, wf3, wf4, wf5⟩
theorem WrPeek.below {S : Nat → Prop} {w w' : World} {v : Value} {D : MPeek} (h : WrPeek S w v D) (b : Below w.heap.size w w') : WrPeek S w' v D := h.touch (Below.touch (S := fun _ => False) b) (fun _ _ hx => hx)
theorem WrPeek.mono {S U : Nat → Prop} {w : World} {v : Value} {D : MPeek} (h : WrPeek S w v D) (hs : ∀ b, S b → U b) : WrPeek U w v D := by
  obtain ⟨p1, p5, c1, c5, S1, S5, e, h1, h5, s1, s5, d0_1, wf0, wf1, wf2, wf3, wf4, wf5⟩ := h
  exact ⟨p1, p5, c1, c5, S1, S5, e, h1, h5, fun b hb => hs b (s1 b hb), fun b hb => hs b (s5 b hb), d0_1, wf0, wf1, wf2, wf3, wf4, wf5⟩
theorem WrPeek.shape {S : Nat → Prop} {w : World} {v : Value} {D : MPeek} (h : WrPeek S w v D) : ∃ (p1 p5 : Option Addr) (c1 c5 : Nat), v = .agg #[.int .i64 D.me, .slice p1 D.hand.length c1, .int .i64 D.top, .int .i64 D.heapSize, .int .i64 D.stockSize, .slice p5 D.sizes.length c5, .int .i64 D.turn, .int .i64 D.moves] := by
  obtain ⟨p1, p5, c1, c5, S1, S5, e, h1, h5, s1, s5, d0_1, wf0, wf1, wf2, wf3, wf4, wf5⟩ := h
  exact ⟨p1, p5, c1, c5, e⟩

def MPeek.total (D : MPeek) : Nat := D.hand.length + D.sizes.length
def MPeek.marked (D : MPeek) (k : Int) : MPeek := { D with hand := marksI (k) D.hand.length, sizes := marksI (k + (D.hand.length : Nat)) D.sizes.length }
theorem MPeek.total_le {D : MPeek} (hf : D.Few) : D.total ≤ 2097152 := by
  obtain ⟨f1, f5⟩ := hf
  unfold MPeek.total
  omega
set_option maxRecDepth 100000 in
set_option maxHeartbeats 1000000 in
theorem markPeek_any {S : Nat → Prop} (v : Value) (D : MPeek) (k : Int) (w : World) (h : WrPeek S w v D) (hf : D.Few) (k0 : 0 ≤ k) (k1 : k ≤ 1099400000000) (hS : ∀ b, S b → b < w.heap.size) :
    Calls Tryz.prog 12 #[v, .int .i64 k] w fun e w' => e = .returned (.int .i64 (k + (D.total : Nat))) ∧ WrPeek S w' v (D.marked k) ∧ Touch S w w' := by
  obtain ⟨p1, p5, c1, c5, S1, S5, rfl, h1, h5, s1, s5, d0_1, wf0, wf1, wf2, wf3, wf4, wf5⟩ := h
  obtain ⟨f1, f5⟩ := hf
  unfold MPeek.total
  obtain ⟨n1, hn1⟩ : ∃ n, n = D.hand.length := ⟨_, rfl⟩
  have Hn1 := Lib.hid hn1
  obtain ⟨n5, hn5⟩ : ∃ n, n = D.sizes.length := ⟨_, rfl⟩
  have Hn5 := Lib.hid hn5
  have nb1 : n1 ≤ 1048576 := by omega
  have nb5 : n5 ≤ 1048576 := by omega
  clear hn1 hn5
  obtain ⟨W0, hW0⟩ : ∃ W, W = w.alloc (.cells #[.int .i64 D.me, .slice p1 D.hand.length c1, .int .i64 D.top, .int .i64 D.heapSize, .int .i64 D.stockSize, .slice p5 D.sizes.length c5, .int .i64 D.turn, .int .i64 D.moves] 30) := ⟨_, rfl⟩
  have G1 : W0.heap[w.heap.size]? = some (.cells #[.int .i64 D.me, .slice p1 D.hand.length c1, .int .i64 D.top, .int .i64 D.heapSize, .int .i64 D.stockSize, .slice p5 D.sizes.length c5, .int .i64 D.turn, .int .i64 D.moves] 30 (0, 0)) := by rw [hW0]; exact heap_alloc_new _ _
  have B : Below w.heap.size w W0 := by rw [hW0]; exact (Below.refl _ _).alloc (Nat.le_refl _) _
  have l1 : w.heap.size < W0.heap.size := by rw [hW0]; simp
  have HW := Lib.hid hW0
  clear hW0
  replace h1 := h1.touch (Below.touch (S := fun _ => False) B) (fun _ _ hx => hx)
  have z1 : ∀ b, S1 b → b < w.heap.size := fun b hb => hS b (s1 b hb)
  replace h5 := h5.touch (Below.touch (S := fun _ => False) B) (fun _ _ hx => hx)
  have z5 : ∀ b, S5 b → b < w.heap.size := fun b hb => hS b (s5 b hb)
  have TT : Touch S w W0 := Below.touch B
  go_enter Tryz.func12, Tryz.ntmps12
  go_wp2_with fail
  rw [← HW.out]
  refine (markIn h1 (k := k) (by omega) (by omega) (by omega)).mono ?_
  rintro e w1 ⟨he, hw1, tt, -⟩
  rw [← Hn1.out] at he
  subst he
  replace G1 := touch_heap tt G1 (fun hb => absurd (z1 _ hb) (Nat.lt_irrefl _))
  replace l1 := Nat.lt_of_lt_of_le l1 tt.size
  replace TT := TT.trans (tt.mono s1)
  replace h5 := h5.touch tt (fun b h1 h2 => d0_1 b h2 h1)
  clear tt
  have k5 := box_cell G1 5
  simp at k5
  go_wp2_with fail
  refine (markIn h5 (k := k + (n1 : Int)) (by omega) (by omega) (by omega)).mono ?_
  rintro e w5 ⟨he, hw5, tt, -⟩
  rw [← Hn5.out] at he
  subst he
  replace G1 := touch_heap tt G1 (fun hb => absurd (z5 _ hb) (Nat.lt_irrefl _))
  replace l1 := Nat.lt_of_lt_of_le l1 tt.size
  replace TT := TT.trans (tt.mono s5)
  replace hw1 := hw1.touch tt d0_1
  clear tt
  clear k5
  go_wp2_with fail
  go_ret
  have hn1 := Hn1.out
  have hn5 := Hn5.out
  refine ⟨congrArg (fun z => Ending.returned (.int .i64 z)) (show k + (n1 : Int) + (n5 : Int) = k + ((D.hand.length + D.sizes.length : Nat) : Int) by omega), ?_, TT⟩
  subst hn1
  subst hn5
  unfold MPeek.marked
  refine ⟨p1, p5, c1, c5, S1, S5, ?_, ?_, ?_, s1, s5, d0_1, wf0, wf1, wf2, wf3, wf4, wf5⟩
  · simp [marksI_length, marksII_length]
  · have := hw1
    simpa [marksI_length, marksII_length] using this
  · have := hw5
    simpa [marksI_length, marksII_length] using this
set_option maxRecDepth 100000 in
set_option maxHeartbeats 1000000 in
theorem heldPeek_any (v : Value) (D : MPeek) (k : Int) (w : World) (h : RdPeek w v (D.marked k)) (hf : D.Few) (k0 : 0 ≤ k) (k1 : k ≤ 1099400000000) :
    Calls Tryz.prog 13 #[v, .int .i64 k] w fun e w' => e = .returned (.int .i64 (k + (D.total : Nat))) ∧ Below w.heap.size w w' := by
  obtain ⟨v1, v5, b1, b5, rfl, h1, h5, wf0, wf1, wf2, wf3, wf4, wf5⟩ := h
  obtain ⟨p1, c1, e1, -⟩ := id h1
  subst e1
  obtain ⟨p5, c5, e5, -⟩ := id h5
  subst e5
  obtain ⟨f1, f5⟩ := hf
  unfold MPeek.total
  unfold MPeek.marked at *
  dsimp only at *
  skip
  skip
  simp only [marksI_length, marksII_length] at *
  obtain ⟨n1, hn1⟩ : ∃ n, n = D.hand.length := ⟨_, rfl⟩
  have Hn1 := Lib.hid hn1
  obtain ⟨n5, hn5⟩ : ∃ n, n = D.sizes.length := ⟨_, rfl⟩
  have Hn5 := Lib.hid hn5
  have nb1 : n1 ≤ 1048576 := by omega
  have nb5 : n5 ≤ 1048576 := by omega
  clear hn1 hn5
  obtain ⟨W0, hW0⟩ : ∃ W, W = w.alloc (.cells #[.int .i64 D.me, .slice p1 D.hand.length c1, .int .i64 D.top, .int .i64 D.heapSize, .int .i64 D.stockSize, .slice p5 D.sizes.length c5, .int .i64 D.turn, .int .i64 D.moves] 30) := ⟨_, rfl⟩
  have G1 : W0.heap[w.heap.size]? = some (.cells #[.int .i64 D.me, .slice p1 D.hand.length c1, .int .i64 D.top, .int .i64 D.heapSize, .int .i64 D.stockSize, .slice p5 D.sizes.length c5, .int .i64 D.turn, .int .i64 D.moves] 30 (0, 0)) := by rw [hW0]; exact heap_alloc_new _ _
  have B : Below w.heap.size w W0 := by rw [hW0]; exact (Below.refl _ _).alloc (Nat.le_refl _) _
  have l1 : w.heap.size < W0.heap.size := by rw [hW0]; simp
  have HW := Lib.hid hW0
  clear hW0
  go_enter Tryz.func13, Tryz.ntmps13
  go_wp2_with fail
  rw [← HW.out]
  refine (heldIntS_any _ _ (k) D.hand.length _ (by have hx := h1.below B; exact hx) (by omega) (by omega) (by omega)).mono ?_
  rintro e _w ⟨he, rfl⟩
  rw [← Hn1.out] at he
  subst he
  have nn1 : decide (k + (n1 : Int) < 0) = false := by simp; omega
  have k5 := box_cell G1 5
  simp at k5
  go_wp2_with fail
  refine (heldIntS_any _ _ (k + (n1 : Int)) D.sizes.length _ (by have hx := h5.below B; (try rw [← Hn1.out] at hx); exact hx) (by omega) (by omega) (by omega)).mono ?_
  rintro e _w ⟨he, rfl⟩
  rw [← Hn5.out] at he
  subst he
  have nn5 : decide (k + (n1 : Int) + (n5 : Int) < 0) = false := by simp; omega
  clear k5
  go_wp2_with fail
  go_ret
  have hn1 := Hn1.out
  have hn5 := Hn5.out
  exact ⟨congrArg (fun z => Ending.returned (.int .i64 z)) (show k + (n1 : Int) + (n5 : Int) = k + ((D.hand.length + D.sizes.length : Nat) : Int) by omega), B⟩

end Go.Proofs.YtoeobpdgfhgpiaaGreatDoor
