/-
  Games: what the numbers of a game must be. No program in this text.
-/
import Derived.Test.YtmfammgdcdlceaaDoorNGame
import Derived.Test.YtmfammgdcdlceaaDoorModel05
import Derived.Test.YtmfammgdcdlceaaDoorApart
import Derived.Test.YtmfammgdcdlceaaDoorReady
namespace Go.Proofs.YtmfammgdcdlceaaDoor
open Go.RowKit
set_option linter.unusedVariables false
set_option linter.unusedSimpArgs false

theorem isHand_nodup (zs : List Int) : isHand zs = decide (zs.Nodup ∧ ∀ z ∈ zs, isCard z = true) := by
  unfold isHand
  by_cases h : ∀ j (h : j < zs.length), isCard zs[j] = true ∧ zs[j] ∉ zs.take j
  · rw [decide_eq_true h, eq_comm, decide_eq_true_eq]
    refine ⟨?_, fun z hz => ?_⟩
    · rw [List.nodup_iff_pairwise_ne, List.pairwise_iff_getElem]
      intro i j hi hj hij e
      refine (h j hj).2 ?_
      rw [← e]
      exact List.mem_take_iff_getElem.2 ⟨i, by omega, rfl⟩
    · obtain ⟨j, hj, rfl⟩ := List.getElem_of_mem hz
      exact (h j hj).1
  · rw [decide_eq_false h, eq_comm, decide_eq_false_iff_not]
    rintro ⟨hn, hc⟩
    refine h fun j hj => ⟨hc _ (List.getElem_mem hj), fun hm => ?_⟩
    obtain ⟨i, hi, e⟩ := List.mem_take_iff_getElem.1 hm
    rw [List.nodup_iff_pairwise_ne, List.pairwise_iff_getElem] at hn
    exact hn i j (by omega) hj (by omega) e
theorem isHand_perm {a b : List Int} (h : a.Perm b) : isHand a = isHand b := by
  rw [isHand_nodup, isHand_nodup]
  have h1 := h.nodup_iff
  have h2 : (∀ z ∈ a, isCard z = true) ↔ ∀ z ∈ b, isCard z = true := ⟨fun k z hz => k z (h.mem_iff.2 hz), fun k z hz => k z (h.mem_iff.1 hz)⟩
  by_cases e : b.Nodup ∧ ∀ z ∈ b, isCard z = true
  · rw [decide_eq_true e, decide_eq_true ⟨h1.2 e.1, h2.2 e.2⟩]
  · rw [decide_eq_false e, decide_eq_false (fun k => e ⟨h1.1 k.1, h2.1 k.2⟩)]
/-- Each card once. -/
def wholeB (zs : List Int) : Bool := ((zs.length : Int) == 52) && isHand zs
theorem wholeB_perm {a b : List Int} (h : a.Perm b) : wholeB a = wholeB b := by unfold wholeB; rw [h.length_eq, isHand_perm h]
/-- The cards of a game as the program gathers them, and as the model does. -/
def allG (D : MGame) : List Int := D.hands.flatten ++ (D.stock ++ D.heap)
def allS (D : MGame) : List Int := (D.stock ++ D.heap) ++ D.hands.flatten
theorem all_perm (D : MGame) : wholeB (allS D) = wholeB (allG D) := wholeB_perm List.perm_append_comm
def numsG (D : MGame) : Bool := ((D.hands.length : Int) == D.rules.players) && (!((D.heap.length : Int) == 0) && (inB D.turn 0 (D.rules.players - 1) && (inB D.moves 0 D.rules.limit && inB D.passes 0 D.moves)))
def gameB (D : MGame) : Bool := rulesB D.rules && (((D.hands.length : Int) == D.rules.players) && (!((D.heap.length : Int) == 0) && (inB D.turn 0 (D.rules.players - 1) && (inB D.moves 0 D.rules.limit && (inB D.passes 0 D.moves && wholeB (allG D))))))
/-- The first player without cards. -/
def firstOut (zss : List (List Int)) : Int := match (List.range zss.length).find? (fun j => (zss.getD j []).isEmpty) with
  | some j => (j : Int)
  | none => -1
theorem first_hit {zss : List (List Int)} {k : Nat} (hk : k < zss.length) (h : zss[k] = []) (hno : ∀ j (hj : j < zss.length), j < k → zss[j] ≠ []) : firstOut zss = (k : Int) := by
  have e : (List.range zss.length).find? (fun j => (zss.getD j []).isEmpty) = some k := by
    rw [List.find?_range_eq_some]
    refine ⟨by simpa [List.getD, hk] using h, by simpa using hk, fun j hj => ?_⟩
    have hj2 : j < zss.length := by omega
    simpa [List.getD, hj2] using hno j hj2 hj
  unfold firstOut; rw [e]
theorem first_miss {zss : List (List Int)} (hno : ∀ j (hj : j < zss.length), zss[j] ≠ []) : firstOut zss = -1 := by
  have e : (List.range zss.length).find? (fun j => (zss.getD j []).isEmpty) = none := by
    rw [List.find?_range_eq_none]
    intro j hj
    simpa [List.getD, hj] using hno j hj
  unfold firstOut; rw [e]
theorem first_ge (zss : List (List Int)) : -1 ≤ firstOut zss ∧ firstOut zss < 9223372036854775807 ∨ 9223372036854775807 ≤ zss.length := by
  by_cases h : 9223372036854775807 ≤ zss.length
  · exact .inr h
  · refine .inl ?_
    unfold firstOut
    split
    · rename_i j hj
      have := List.find?_range_eq_some.1 hj
      have : j < zss.length := by simpa using this.2.1
      omega
    · omega
def overB (D : MGame) : Bool := decide (0 ≤ firstOut D.hands) || ((D.moves == D.rules.limit) || decide (D.rules.players ≤ D.passes))
def winnerG (D : MGame) : Int := if gameB D then firstOut D.hands else -1
def endedB (D : MGame) : Bool := gameB D && overB D
def movesLeft (D : MGame) : Int := if gameB D && !overB D then D.rules.limit - D.moves else 0
def drawnB (D : MGame) : Bool := endedB D && (winnerG D == -1)

end Go.Proofs.YtmfammgdcdlceaaDoor
