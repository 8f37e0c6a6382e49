/-
  EasyRules, both sides.
-/
import Derived.Test.YtoeobpdgfhgpiaaNRules
import Derived.Test.YtoeobpdgfhgpiaaFrX
namespace Go.Proofs.Ytoeobpdgfhgpiaa
open Go.RowKit
set_option linter.unusedVariables false

def easyM : MRules := ⟨3, 5, true, true, [206], [212], 1, 200⟩
theorem one_wr {w : World} {g : Nat} {y : Int} {t : TypeId} (h : w.heap[g]? = some (.cells #[.int .i64 y] t (0, 0))) (hy : (Lit.int .i64 y).wf = true) (S : Nat → Prop) (hs : S g) : WrIn .i64 S w (.slice (some ⟨g, 0, none⟩) 1 1) [y] :=
  ⟨g, ⟨some ⟨g, 0, none⟩, 1, rfl, ⟨Nat.le_refl _, by unfold maxLen; decide, fun e => by cases e⟩, fun n hn => by simp at hn; subst hn; exact hy, .inr ⟨0, rfl, fun j hj => by
    have : j = 0 := by simp at hj; exact hj
    subst this; simp [World.cell?, h], fun j hj => by simp [World.frozen?, h]⟩⟩, fun _ => hs⟩
set_option maxRecDepth 100000 in
theorem sEasyRules_any (w : World) :
    Calls Try.prog 6 #[] w fun e w' => ∃ v, e = .returned v ∧ WrRules (In w.heap.size w'.heap.size) w' v easyM ∧ Below w.heap.size w w' := by
  go_enter Try.func6, Try.ntmps6
  go_wp2_with fail
  have Q1 := (threeBoxes w (.cells #[.int .i64 3, .int .i64 5, .bool true, .bool true, .slice (some ⟨w.heap.size + 1, 0, none⟩) 1 1, .slice (some ⟨w.heap.size + 1 + 1, 0, none⟩) 1 1, .int .i64 1, .int .i64 200] 24) (.cells #[.int .i64 206] 3) (.cells #[.int .i64 212] 3))
  refine bodyPost_ret (results_cell_row rfl _ _ w.heap.size _ _ _ _ rfl Q1.1 Try.underlying24 rfl (by kernel_rfl)) rfl ?_
  refine ⟨_, rfl, ⟨_, _, 1, 1, (fun b => b = w.heap.size + 1), (fun b => b = w.heap.size + 1 + 1), rfl, one_wr Q1.2.1 (by decide) _ rfl, one_wr Q1.2.2 (by decide) _ rfl, ?_, ?_, ?_, by decide, by decide, by decide, by decide⟩, (((Below.refl _ _).alloc (Nat.le_refl _) _).alloc (by simp) _).alloc (by simp; omega) _⟩
  · intro b hb; subst hb; exact ⟨by omega, by simp⟩
  · intro b hb; subst hb; exact ⟨by omega, by simp⟩
  · intro b hb hb2; omega
set_option maxRecDepth 100000 in
theorem easyRules_any (w : World) :
    Calls Try.prog 7 #[] w fun e w' => ∃ v, e = .returned v ∧ WrRules (In w.heap.size w'.heap.size) w' v easyM ∧ Below w.heap.size w w' := by
  go_enter Try.func7, Try.ntmps7
  go_wp2_with fail
  have Q1 := (threeBoxes w (.cells #[.int .i64 3, .int .i64 5, .bool true, .bool true, .slice (some ⟨w.heap.size + 1, 0, none⟩) 1 1, .slice (some ⟨w.heap.size + 1 + 1, 0, none⟩) 1 1, .int .i64 1, .int .i64 200] 24) (.cells #[.int .i64 206] 3) (.cells #[.int .i64 212] 3))
  refine bodyPost_ret (results_cell_row rfl _ _ w.heap.size _ _ _ _ rfl Q1.1 Try.underlying24 rfl (by kernel_rfl)) rfl ?_
  refine ⟨_, rfl, ⟨_, _, 1, 1, (fun b => b = w.heap.size + 1), (fun b => b = w.heap.size + 1 + 1), rfl, one_wr Q1.2.1 (by decide) _ rfl, one_wr Q1.2.2 (by decide) _ rfl, ?_, ?_, ?_, by decide, by decide, by decide, by decide⟩, (((Below.refl _ _).alloc (Nat.le_refl _) _).alloc (by simp) _).alloc (by simp; omega) _⟩
  · intro b hb; subst hb; exact ⟨by omega, by simp⟩
  · intro b hb; subst hb; exact ⟨by omega, by simp⟩
  · intro b hb hb2; omega
end Go.Proofs.Ytoeobpdgfhgpiaa
