/-
  Sheets, the pure part: the sums of the columns, valid sheets, totals, who is ahead, how often somebody won.
-/
import Derived.Test.YtmfammgdcdlceaaDoorIsRound
namespace Go.Proofs.YtmfammgdcdlceaaDoor
open Go.RowKit
set_option linter.unusedSimpArgs false
set_option linter.unusedVariables false

def colSum (rs : List (List Int)) (i : Nat) : Int := (rs.map (fun z => z.getD i 0)).sum
theorem colSum_nil (i : Nat) : colSum [] i = 0 := rfl
theorem colSum_snoc (rs : List (List Int)) (z : List Int) (i : Nat) : colSum (rs ++ [z]) i = colSum rs i + z.getD i 0 := by
  simp [colSum, List.sum_append]
theorem colSum_take (rs : List (List Int)) (k i : Nat) (h : k < rs.length) : colSum (rs.take (k + 1)) i = colSum (rs.take k) i + rs[k].getD i 0 := by
  rw [List.take_succ_eq_append_getElem h, colSum_snoc]
theorem isRound_all {p : Int} {z : List Int} (h : isRound p z = true) : (2 ≤ p ∧ p ≤ 6) ∧ (z.length : Int) = p ∧ (∀ x ∈ z, -1000 ≤ x ∧ x ≤ 1000) ∧ z.sum = 0 := by
  unfold isRound at h
  simp only [Bool.and_eq_true, decide_eq_true_eq, List.all_eq_true] at h
  obtain ⟨⟨⟨h1, h2⟩, h3⟩, h4⟩ := h
  exact ⟨h1, h2, fun x hx => by have := h3 x hx; unfold inP at this; simpa using this, h4⟩
theorem getD_bd {z : List Int} (h : ∀ x ∈ z, -1000 ≤ x ∧ x ≤ 1000) (i : Nat) : -1000 ≤ z.getD i 0 ∧ z.getD i 0 ≤ 1000 := by
  by_cases hi : i < z.length
  · have e : z.getD i 0 = z[i] := by simp [List.getD, hi]
    rw [e]; exact h _ (List.getElem_mem hi)
  · have e : z.getD i 0 = 0 := by simp [List.getD, show z.length ≤ i by omega]
    rw [e]; omega
theorem colSum_bd (p : Int) (i : Nat) : ∀ (rs : List (List Int)), rs.all (isRound p) = true → -(1000 * (rs.length : Int)) ≤ colSum rs i ∧ colSum rs i ≤ 1000 * (rs.length : Int) := by
  intro rs
  induction rs with
  | nil => intro _; simp [colSum]
  | cons z rs ih =>
    intro h
    simp only [List.all_cons, Bool.and_eq_true] at h
    have h1 := ih h.2
    have h2 := getD_bd (isRound_all h.1).2.2.1 i
    have e : colSum (z :: rs) i = z.getD i 0 + colSum rs i := by simp [colSum]
    rw [e]; simp only [List.length_cons]; omega
def isSheet (p : Int) (rs : List (List Int)) : Bool := decide (2 ≤ p ∧ p ≤ 6) && decide (rs.length ≤ 50) && rs.all (isRound p)
theorem sheet_ok {p : Int} {rs : List (List Int)} (h : isSheet p rs = true) : (2 ≤ p ∧ p ≤ 6) ∧ rs.length ≤ 50 ∧ rs.all (isRound p) = true := by
  unfold isSheet at h
  simp only [Bool.and_eq_true, decide_eq_true_eq] at h
  exact ⟨h.1.1, h.1.2, h.2⟩
theorem sheet_p {p : Int} {rs : List (List Int)} (h : ¬ (2 ≤ p ∧ p ≤ 6)) : isSheet p rs = false := by
  unfold isSheet; rw [decide_eq_false h]; rfl
theorem sheet_n {p : Int} {rs : List (List Int)} (h : ¬ (rs.length ≤ 50)) : isSheet p rs = false := by
  unfold isSheet; rw [decide_eq_false h]; simp
theorem sheet_bad {p : Int} {rs : List (List Int)} (k : Nat) (h : k < rs.length) (hb : isRound p rs[k] = false) : isSheet p rs = false := by
  have e : rs.all (isRound p) = false := by
    rw [List.all_eq_false]
    exact ⟨rs[k], List.getElem_mem _, by simp [hb]⟩
  unfold isSheet; rw [e]; simp
theorem sheet_yes {p : Int} {rs : List (List Int)} (hp : 2 ≤ p ∧ p ≤ 6) (hn : rs.length ≤ 50) (ha : ∀ j (hj : j < rs.length), isRound p rs[j] = true) : isSheet p rs = true := by
  have e : rs.all (isRound p) = true := by
    rw [List.all_eq_true]
    intro x hx
    obtain ⟨j, hj, rfl⟩ := List.getElem_of_mem hx
    exact ha j hj
  unfold isSheet; rw [decide_eq_true hp, decide_eq_true hn, e]; rfl
theorem all_at {p : Int} {rs : List (List Int)} (h : rs.all (isRound p) = true) (j : Nat) (hj : j < rs.length) : isRound p rs[j] = true := by
  rw [List.all_eq_true] at h; exact h _ (List.getElem_mem hj)
theorem all_take {p : Int} {rs : List (List Int)} (k : Nat) (ha : ∀ j (hj : j < rs.length), j < k → isRound p rs[j] = true) : (rs.take k).all (isRound p) = true := by
  rw [List.all_eq_true]
  intro x hx
  obtain ⟨j, hj, rfl⟩ := List.mem_take_iff_getElem.1 hx
  exact ha j (by omega) (by omega)
def whoIn (p who : Int) : Bool := decide (0 ≤ who ∧ who ≤ p - 1)
def totalOf (p : Int) (rs : List (List Int)) (who : Int) : Int := if isSheet p rs && whoIn p who then colSum rs who.toNat else 0
/-- Who is ahead among the first k. -/
def aheadN (f : Nat → Int) : Nat → Nat
  | 0 => 0
  | k + 1 => if f k > f (aheadN f k) then k else aheadN f k
theorem aheadN_lt (f : Nat → Int) : ∀ k, 0 < k → aheadN f k < k
  | 0, h => by omega
  | 1, _ => by simp [aheadN]
  | k + 2, _ => by
    have := aheadN_lt f (k + 1) (by omega)
    unfold aheadN
    split <;> omega
theorem aheadN_one (f : Nat → Int) : aheadN f 1 = 0 := by simp [aheadN]
def aheadIn (p : Int) (rs : List (List Int)) : Int := if isSheet p rs then (aheadN (colSum rs) p.toNat : Nat) else -1
def won (who : Nat) (z : List Int) : Bool := decide (z.getD who 0 > 0)
def winsOf (p : Int) (rs : List (List Int)) (who : Int) : Nat := if isSheet p rs && whoIn p who then (rs.filter (won who.toNat)).length else 0
end Go.Proofs.YtmfammgdcdlceaaDoor
