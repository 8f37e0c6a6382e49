/-
  PlayCard, what it says: who plays, what the trick's end does; pure.
-/
import Derived.Test.YtbojhbhniollaaaDoorIsDeal
import Derived.Test.YtbojhbhniollaaaDoorTurn
import Derived.Test.YtbojhbhniollaaaDoorWinner
import Derived.Test.YtbojhbhniollaaaDoorPoints
import Derived.Test.YtbojhbhniollaaaDoorMay
import Derived.Test.YtbojhbhniollaaaDoorWithout
import Derived.Test.YtbojhbhniollaaaDoorSetOf
import Derived.Test.YtbojhbhniollaaaDoorApart
namespace Go.Proofs.YtbojhbhniollaaaDoor
open Go.RowKit
set_option linter.unusedVariables false
set_option linter.unusedSimpArgs false

def whoP (D : MDeal) : Nat := (turnOf D).toNat
def playOK (D : MDeal) (c : Int) : Bool := isDeal D && (decide (0 ≤ turnOf D) && mayPlay (D.hands.getD (whoP D) []) D.trick c)
def laidP (D : MDeal) (c : Int) : MDeal := { D with hands := D.hands.set (whoP D) (without (D.hands.getD (whoP D) []) c), trick := D.trick ++ [c] }
def winP (E : MDeal) : Nat := ((E.leader + winnerOf E.trick E.trump) % (E.hands.length : Int)).toNat
def endP (E : MDeal) : MDeal := { E with won := E.won.set (winP E) (IntKind.i64.wrap (E.won.getD (winP E) 0 + 1)), points := E.points.set (winP E) (IntKind.i64.wrap (E.points.getD (winP E) 0 + pts E.trick)), leader := (winP E : Int), trick := [] }
def playD (D : MDeal) (c : Int) : MDeal := if playOK D c then (if (laidP D c).trick.length = D.hands.length then endP (laidP D c) else laidP D c) else D
theorem playD_no {D : MDeal} {c : Int} (h : playOK D c = false) : playD D c = D := by unfold playD; rw [h]; rfl
theorem playD_on {D : MDeal} {c : Int} (h : playOK D c = true) (h2 : (laidP D c).trick.length ≠ D.hands.length) : playD D c = laidP D c := by unfold playD; rw [if_pos h, if_neg h2]
theorem playD_end {D : MDeal} {c : Int} (h : playOK D c = true) (h2 : (laidP D c).trick.length = D.hands.length) : playD D c = endP (laidP D c) := by unfold playD; rw [if_pos h, if_pos h2]
theorem turnOf_range {D : MDeal} (h : 0 ≤ turnOf D) : whoP D < D.hands.length ∧ turnOf D = (whoP D : Int) := by
  have e : turnOf D = (whoP D : Int) := by unfold whoP; omega
  refine ⟨?_, e⟩
  unfold turnOf at e h
  by_cases hq : sumLen D.hands = 0 ∨ ¬ (0 ≤ D.leader ∧ D.leader ≤ (D.hands.length : Int) - 1)
  · rw [if_pos hq] at h; omega
  · rw [if_neg hq] at e
    have hn : 0 < (D.hands.length : Int) := by
      have := fun h => hq (.inr h)
      have h2 : (0 ≤ D.leader ∧ D.leader ≤ (D.hands.length : Int) - 1) := Decidable.byContradiction this
      omega
    have := Int.emod_lt_of_pos (D.leader + D.trick.length) hn
    omega
theorem playOK_parts {D : MDeal} {c : Int} (h : playOK D c = true) : isDeal D = true ∧ 0 ≤ turnOf D ∧ mayPlay (D.hands.getD (whoP D) []) D.trick c = true := by
  unfold playOK at h
  simpa using h
theorem isDeal_shape {D : MDeal} (h : isDeal D = true) : shape1 D ∧ shape2 D ∧ apart (D.hands ++ [D.trick]) = true := by
  unfold isDeal at h
  simp only [Bool.and_eq_true, decide_eq_true_eq] at h
  exact ⟨h.1.1.1, h.1.1.2, h.1.2⟩
theorem trick_hand {D : MDeal} {c : Int} (h : playOK D c = true) : isHand (D.trick ++ [c]) = true := by
  obtain ⟨h1, h2, h3⟩ := playOK_parts h
  obtain ⟨-, -, h4⟩ := isDeal_shape h1
  obtain ⟨h5, -⟩ := turnOf_range h2
  unfold mayPlay at h3
  simp only [Bool.and_eq_true] at h3
  have hc : c ∈ D.hands.getD (whoP D) [] := by have := h3.2.1; unfold hasI at this; simpa using this
  have hcm : c ∈ D.hands.flatten := by
    refine List.mem_flatten.2 ⟨D.hands.getD (whoP D) [], ?_, hc⟩
    simp [List.getD, h5]
  unfold apart at h4
  rw [List.flatten_append, isHand_iff] at h4
  simp only [List.flatten_cons, List.flatten_nil, List.append_nil] at h4
  obtain ⟨h6, h7⟩ := h4
  rw [List.nodup_append] at h7
  rw [isHand_iff]
  refine ⟨fun x hx => ?_, ?_⟩
  · rcases List.mem_append.1 hx with hx | hx
    · exact h6 x (List.mem_append_right _ hx)
    · obtain rfl : x = c := by simpa using hx
      exact h6 x (List.mem_append_left _ hcm)
  · rw [List.nodup_append]
    refine ⟨h7.2.1, by simp, fun a ha b hb e => ?_⟩
    obtain rfl : b = c := by simpa using hb
    exact h7.2.2 b hcm a ha e.symm
theorem winP_facts {D : MDeal} {c : Int} (h : playOK D c = true) (h2 : (laidP D c).trick.length = D.hands.length) :
    ∃ m : Nat, winnerOf (D.trick ++ [c]) D.trump = (m : Int) ∧ m < D.hands.length ∧ winP (laidP D c) < D.hands.length ∧ ((D.leader + (m : Int)) % (D.hands.length : Int) = (winP (laidP D c) : Int)) ∧ 0 ≤ D.leader ∧ D.leader < (D.hands.length : Int) ∧ D.hands.length ≤ 4 ∧ D.won.length = D.hands.length ∧ D.points.length = D.hands.length := by
  obtain ⟨h1, -, -⟩ := playOK_parts h
  obtain ⟨⟨⟨s1, s2⟩, s3, s4⟩, ⟨⟨s5, s6⟩, -⟩, -⟩ := isDeal_shape h1
  have hh := trick_hand h
  have hl : (D.trick ++ [c]).length = D.hands.length := h2
  have hw := winner_2 D.trump hh (by simp)
  have hm := winsAt_le (D.trick ++ [c]) D.trump (D.trick ++ [c]).length
  have hn : 0 < (D.hands.length : Int) := by omega
  have e0 : (winP (laidP D c) : Int) = (D.leader + winnerOf (D.trick ++ [c]) D.trump) % (D.hands.length : Int) := by
    unfold winP
    have e1 : ((laidP D c).hands.length : Int) = (D.hands.length : Int) := by show ((D.hands.set _ _).length : Int) = _; rw [List.length_set]
    rw [e1]
    show ((((D.leader + winnerOf (D.trick ++ [c]) D.trump) % (D.hands.length : Int)).toNat : Nat) : Int) = _
    have := Int.emod_nonneg (D.leader + winnerOf (D.trick ++ [c]) D.trump) (show (D.hands.length : Int) ≠ 0 by omega)
    omega
  refine ⟨winsAt (D.trick ++ [c]) D.trump (D.trick ++ [c]).length, hw, by omega, ?_, by rw [e0, hw], s5, by omega, by omega, s3, s4⟩
  have := Int.emod_lt_of_pos (D.leader + winnerOf (D.trick ++ [c]) D.trump) hn
  omega
theorem sumLen_set_le (zss : List (List Int)) (j : Nat) (r : List Int) (h : r.length ≤ (zss.getD j []).length) : sumLen (zss.set j r) ≤ sumLen zss := by
  induction zss generalizing j with
  | nil => simp
  | cons a s ih =>
    cases j with
    | zero => simp [sumLen] at h ⊢; omega
    | succ j => have := ih j (by simpa using h); simp [sumLen] at this ⊢; omega
theorem laidP_few {D : MDeal} (c : Int) (h : playOK D c = true) (hf : D.Few) : (laidP D c).Few := by
  obtain ⟨f0, f1, f3, f4, f5⟩ := hf
  obtain ⟨h1, -, -⟩ := playOK_parts h
  obtain ⟨⟨⟨s1, s2⟩, s3, s4⟩, ⟨-, -, -, s7⟩, -⟩ := isDeal_shape h1
  refine ⟨?_, ?_, ?_, f4, f5⟩
  · show (D.hands.set _ _).length ≤ _; rw [List.length_set]; exact f0
  · exact Nat.le_trans (sumLen_set_le _ _ _ (without_le _ _)) f1
  · show (D.trick ++ [c]).length ≤ _; simp; omega
theorem playD_few {D : MDeal} (c : Int) (hf : D.Few) : (playD D c).Few := by
  unfold playD
  by_cases h : playOK D c = true
  · obtain ⟨f0, f1, f3, f4, f5⟩ := laidP_few c h hf
    rw [if_pos h]
    split
    · refine ⟨f0, f1, Nat.zero_le _, ?_, ?_⟩
      · show (List.set _ _ _).length ≤ _; rw [List.length_set]; exact f4
      · show (List.set _ _ _).length ≤ _; rw [List.length_set]; exact f5
    · exact ⟨f0, f1, f3, f4, f5⟩
  · rw [if_neg h]; exact hf
end Go.Proofs.YtbojhbhniollaaaDoor
