/-
  The hands of five: by going through all 6188 vectors of numbers (3 to 4 minutes).
-/
import Derived.Test.YtcafbnddbddijaaFive0
namespace Go.Proofs.Ytcafbnddbddijaa
set_option linter.unusedVariables false
set_option linter.unusedSimpArgs false

theorem five_split {k : Nat} {f : List Nat → Bool} (h0 : fiveAll k 5 (fun v => f (0 :: v)) = true) (h1 : ([0, 1, 2, 3, 4].all fun a => fiveAll k (4 - a) fun v => f ((a + 1) :: v)) = true) : fiveAll (k + 1) 5 f = true := by
  rw [List.all_eq_true] at h1
  rw [fiveAll, List.all_eq_true]
  intro a ha
  match a, List.mem_range.1 ha with
  | 0, _ => exact h0
  | a + 1, ha => exact (by have := h1 a (by simp only [List.mem_cons, List.not_mem_nil, or_false]; omega); rwa [show 4 + 1 - (a + 1) = 4 - a by omega])
set_option maxRecDepth 100000 in
theorem fiveK0 : ([0, 1, 2, 3, 4].all fun a => fiveAll 12 (4 - a) fun v => fiveCheck ((a + 1) :: v)) = true := by decide +kernel
set_option maxRecDepth 100000 in
theorem fiveK1 : ([0, 1, 2, 3, 4].all fun a => fiveAll 11 (4 - a) fun v => fiveCheck (0 :: (a + 1) :: v)) = true := by decide +kernel
set_option maxRecDepth 100000 in
theorem fiveK2 : ([0, 1, 2, 3, 4].all fun a => fiveAll 10 (4 - a) fun v => fiveCheck (0 :: 0 :: (a + 1) :: v)) = true := by decide +kernel
set_option maxRecDepth 100000 in
theorem fiveK3 : ([0, 1, 2, 3, 4].all fun a => fiveAll 9 (4 - a) fun v => fiveCheck (0 :: 0 :: 0 :: (a + 1) :: v)) = true := by decide +kernel
set_option maxRecDepth 100000 in
theorem fiveK4 : ([0, 1, 2, 3, 4].all fun a => fiveAll 8 (4 - a) fun v => fiveCheck (0 :: 0 :: 0 :: 0 :: (a + 1) :: v)) = true := by decide +kernel
set_option maxRecDepth 100000 in
theorem fiveK5 : ([0, 1, 2, 3, 4].all fun a => fiveAll 7 (4 - a) fun v => fiveCheck (0 :: 0 :: 0 :: 0 :: 0 :: (a + 1) :: v)) = true := by decide +kernel
set_option maxRecDepth 100000 in
theorem fiveK6 : fiveAll 7 5 (fun v => fiveCheck (0 :: 0 :: 0 :: 0 :: 0 :: 0 :: v)) = true := by decide +kernel
theorem fiveCheck_all : fiveAll 13 5 fiveCheck = true :=
  five_split (five_split (five_split (five_split (five_split (five_split (fiveK6) fiveK5) fiveK4) fiveK3) fiveK2) fiveK1) fiveK0
theorem five_ok {n : List Nat} {b : Bool} (hl : n.length = 13) (hs : n.sum = 5) (h4 : ∀ x ∈ n, x ≤ 4) (hb : b = true → ∀ x ∈ n, x ≤ 1) : fiveOk n b = true := by
  have h := fiveAll_sound 13 5 _ fiveCheck_all n hl hs
  unfold fiveCheck at h
  by_cases h1 : n.all (fun x => Nat.ble x 1) = true
  · rw [if_pos h1, Bool.and_eq_true] at h
    cases b
    · exact h.2
    · exact h.1
  · rw [if_neg h1, if_pos (by rw [List.all_eq_true]; intro x hx; exact Nat.ble_eq_true_of_le (h4 x hx))] at h
    cases b
    · exact h
    · exact absurd (by rw [List.all_eq_true]; intro x hx; exact Nat.ble_eq_true_of_le (hb rfl x hx)) h1

theorem hand_ok {zs : List Int} (h : isHand zs = true) (h5 : zs.length = 5) : fiveOk (cntV zs) (oneSuit zs) = true := by
  refine five_ok (cntV_len zs) (by rw [cntV_sum zs (hand_card h), h5]) ?_ ?_
  · intro x hx
    obtain ⟨r, -, rfl⟩ := List.mem_map.1 hx
    exact cntR_le4 h r
  · intro hs x hx
    obtain ⟨r, -, rfl⟩ := List.mem_map.1 hx
    exact cntR_le1 h hs r

end Go.Proofs.Ytcafbnddbddijaa
