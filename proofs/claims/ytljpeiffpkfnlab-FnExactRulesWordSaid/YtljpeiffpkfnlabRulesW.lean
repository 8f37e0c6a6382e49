/-
  RulesWord, both sides.
-/
import Derived.Test.YtljpeiffpkfnlabSRules
namespace Go.Proofs.Ytljpeiffpkfnlab
open Go.RowKit

def rulesWord (D : MRules) : ByteArray :=
  match D.sameSuit, D.sameRank with
  | true, true => ⟨#[98, 111, 116, 104]⟩
  | true, false => ⟨#[115, 117, 105, 116]⟩
  | false, true => ⟨#[114, 97, 110, 107]⟩
  | false, false => ⟨#[]⟩

set_option linter.unusedVariables false in
set_option maxRecDepth 100000 in
theorem sRulesWord_any (v : Value) (D : MRules) (w : World) (h : RdRules w v D) (hf : D.Few) :
    Calls Try.prog 14 #[v] w fun e w' => e = .returned (.string (rulesWord D)) ∧ Below w.heap.size w w' := by
  obtain ⟨pl, ea, ss, sr, wi, sk, ta, li⟩ := D
  obtain ⟨v4, v5, b4, b5, rfl, h4, h5, -, -, -, -⟩ := h
  obtain ⟨p4, c4, e4, -⟩ := id h4
  obtain ⟨p5, c5, e5, -⟩ := id h5
  subst e4 e5
  have B0 := fun o => (Below.refl w.heap.size w).alloc (Nat.le_refl _) o
  dsimp only
  clear h4 h5 hf
  cases ss <;> cases sr
  all_goals
    go_enter Try.func14, Try.ntmps14
    go_wp2_with fail
    go_ret
    exact ⟨rfl, B0 _⟩
set_option linter.unusedVariables false in
set_option maxRecDepth 100000 in
theorem rulesWord_any (v : Value) (D : MRules) (w : World) (h : RdRules w v D) (hf : D.Few) :
    Calls Try.prog 15 #[v] w fun e w' => e = .returned (.string (rulesWord D)) ∧ Below w.heap.size w w' := by
  obtain ⟨pl, ea, ss, sr, wi, sk, ta, li⟩ := D
  obtain ⟨v4, v5, b4, b5, rfl, h4, h5, -, -, -, -⟩ := h
  obtain ⟨p4, c4, e4, -⟩ := id h4
  obtain ⟨p5, c5, e5, -⟩ := id h5
  subst e4 e5
  have B0 := fun o => (Below.refl w.heap.size w).alloc (Nat.le_refl _) o
  dsimp only
  clear h4 h5 hf
  cases ss <;> cases sr
  all_goals
    go_enter Try.func15, Try.ntmps15
    go_wp2_with fail
    go_ret
    exact ⟨rfl, B0 _⟩
end Go.Proofs.Ytljpeiffpkfnlab
