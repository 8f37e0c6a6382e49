/-
  Bidding, without the program: which calls can be made, and what they leave.
-/
import Derived.Test.YtfajdbfpacmclaaDoorCallsEnd
import Derived.Test.YtfajdbfpacmclaaDoorHighBid
namespace Go.Proofs.YtfajdbfpacmclaaDoor
open Go.RowKit

theorem getD_take (zs : List Int) (k j : Nat) (h : j < k) : (zs.take k).getD j 0 = zs.getD j 0 := by
  simp [List.getD, h]
theorem pz_take (zs : List Int) : ∀ k m, k ≤ m → pz (zs.take m) k = pz zs k
  | 0, _, _ => rfl
  | k + 1, m, h => by rw [pz, pz, getD_take zs m k (by omega), pz_take zs k m (by omega)]
/-- The greatest of 0 and the first k. -/
def hik (zs : List Int) (k : Nat) : Int := hiI 0 (zs.take k)
theorem maxI_eq (a b : Int) : maxI a b = if b ≤ a then a else b := by unfold maxI; split <;> split <;> omega
theorem hik_zero (zs : List Int) : hik zs 0 = 0 := rfl
theorem hik_succ (zs : List Int) (k : Nat) (h : k < zs.length) : hik zs (k + 1) = if zs.getD k 0 ≤ hik zs k then hik zs k else zs.getD k 0 := by
  unfold hik
  rw [hi_take 0 zs k h, maxI_eq]
  have e : zs.getD k 0 = zs[k] := by simp [List.getD, h]
  rw [e]
theorem hik_pos (zs : List Int) : ∀ k, k ≤ zs.length → 0 ≤ hik zs k
  | 0, _ => by rw [hik_zero]; omega
  | k + 1, h => by
    have := hik_pos zs k (by omega)
    rw [hik_succ zs k (by omega)]; split <;> omega
theorem hik_ge (zs : List Int) : ∀ k, k ≤ zs.length → ∀ j, j < k → zs.getD j 0 ≤ hik zs k
  | 0, _, _, h => by omega
  | k + 1, h, j, hj => by
    rw [hik_succ zs k (by omega)]
    by_cases e : j = k
    · subst e; split <;> omega
    · have := hik_ge zs k (by omega) j (by omega)
      split <;> omega
/-- Have the first k calls come to the end? -/
def endk (p : Int) (zs : List Int) (k : Nat) : Bool := endB p k (pz zs k)
theorem callsEnd_take {p : Int} {zs : List Int} {k : Nat} (hk : k ≤ zs.length) (hp : 1 ≤ p) : callsEnd p (zs.take k) = endk p zs k := by
  unfold callsEnd endk
  have e : (zs.take k).length = k := by rw [List.length_take]; omega
  rw [e, pz_take zs k k (Nat.le_refl _)]
  simp [hp]
theorem callsEnd_all {p : Int} {zs : List Int} (hp : 1 ≤ p) : callsEnd p zs = endk p zs zs.length := by
  have := callsEnd_take (zs := zs) (k := zs.length) (Nat.le_refl _) hp
  rwa [List.take_length] at this
/-- Can the call at k be made? -/
def okB (p : Int) (zs : List Int) (k : Nat) : Bool := decide (0 ≤ zs.getD k 0 ∧ zs.getD k 0 ≤ 35) && (!(decide (0 < zs.getD k 0 ∧ zs.getD k 0 ≤ hik zs k)) && !(endk p zs k))
def okAll (p : Int) (zs : List Int) : Bool := decide (∀ k, k < zs.length → okB p zs k = true)
def isCallsB (p : Int) (zs : List Int) : Bool := decide (2 ≤ p ∧ p ≤ 4) && okAll p zs
theorem okAll_t {p : Int} {zs : List Int} (h : ∀ k, k < zs.length → okB p zs k = true) : okAll p zs = true := by unfold okAll; simpa using h
theorem okAll_f {p : Int} {zs : List Int} {k : Nat} (hk : k < zs.length) (h : okB p zs k = false) : okAll p zs = false := by
  unfold okAll
  simp only [decide_eq_false_iff_not]
  intro ha
  have := ha k hk
  rw [h] at this; cases this
/-- Who has bid last. -/
def decl (p : Int) (zs : List Int) : Nat → Int
  | 0 => -1
  | k + 1 => if zs.getD k 0 = 0 then decl p zs k else (k : Int) % p
theorem ok_parts {p : Int} {zs : List Int} {k : Nat} (h : okB p zs k = true) : (0 ≤ zs.getD k 0 ∧ zs.getD k 0 ≤ 35) ∧ (zs.getD k 0 = 0 ∨ hik zs k < zs.getD k 0) ∧ endk p zs k = false := by
  unfold okB at h
  simp only [Bool.and_eq_true, decide_eq_true_eq, Bool.not_eq_true', decide_eq_false_iff_not] at h
  obtain ⟨h1, h2, h3⟩ := h
  exact ⟨h1, by omega, h3⟩
theorem ok_make {p : Int} {zs : List Int} {k : Nat} (h1 : 0 ≤ zs.getD k 0 ∧ zs.getD k 0 ≤ 35) (h2 : zs.getD k 0 = 0 ∨ hik zs k < zs.getD k 0) (h3 : endk p zs k = false) : okB p zs k = true := by
  unfold okB
  rw [h3]
  simp only [Bool.and_eq_true, decide_eq_true_eq, Bool.not_eq_true', decide_eq_false_iff_not]
  exact ⟨h1, by omega, trivial⟩
theorem ok_no {p : Int} {zs : List Int} {k : Nat} (h : ¬ (0 ≤ zs.getD k 0 ∧ zs.getD k 0 ≤ 35) ∨ (0 < zs.getD k 0 ∧ zs.getD k 0 ≤ hik zs k) ∨ endk p zs k = true) : okB p zs k = false := by
  cases e : okB p zs k with
  | false => rfl
  | true =>
    exfalso
    obtain ⟨h1, h2, h3⟩ := ok_parts e
    rcases h with h | h | h
    · exact h h1
    · omega
    · rw [h3] at h; cases h
theorem hik_le {p : Int} {zs : List Int} : ∀ k, k ≤ zs.length → (∀ j, j < k → okB p zs j = true) → hik zs k ≤ 35
  | 0, _, _ => by rw [hik_zero]; omega
  | k + 1, h, ha => by
    have h1 := hik_le k (by omega) (fun j hj => ha j (by omega))
    have h2 := (ok_parts (ha k (by omega))).1
    rw [hik_succ zs k (by omega)]; split <;> omega
/-- The one who has bid last has made the greatest bid, and nobody before. -/
theorem decl_is {p : Int} {zs : List Int} : ∀ k, k ≤ zs.length → (∀ j, j < k → okB p zs j = true) →
    (hik zs k = 0 ∧ decl p zs k = -1) ∨ ∃ i, i < k ∧ decl p zs k = (i : Int) % p ∧ zs.getD i 0 = hik zs k ∧ 0 < hik zs k ∧ ∀ j, j < i → zs.getD j 0 ≠ hik zs k
  | 0, _, _ => .inl ⟨rfl, rfl⟩
  | k + 1, h, ha => by
    have ih := decl_is k (by omega) (fun j hj => ha j (by omega))
    obtain ⟨h1, h2, -⟩ := ok_parts (ha k (by omega))
    have hp := hik_pos zs k (by omega)
    rw [hik_succ zs k (by omega), decl]
    by_cases e : zs.getD k 0 = 0
    · rw [if_pos e, if_pos (by omega)]
      rcases ih with ih | ⟨i, i1, i2, i3, i4, i5⟩
      · exact .inl ih
      · exact .inr ⟨i, by omega, i2, i3, i4, i5⟩
    · have h3 : hik zs k < zs.getD k 0 := by omega
      rw [if_neg e, if_neg (by omega)]
      exact .inr ⟨k, by omega, rfl, rfl, by omega, fun j hj => by have := hik_ge zs k (by omega) j hj; omega⟩
end Go.Proofs.YtfajdbfpacmclaaDoor
