/-
  Numbers of choices: the plain numbers, and their bounds.
-/
import Derived.Test.YtljpeiffpkfnlaaMarksI
namespace Go.Proofs.Ytljpeiffpkfnlaa
open Go.RowKit

def binom : Nat → Nat → Nat
  | _, 0 => 1
  | 0, _ + 1 => 0
  | n + 1, k + 1 => binom n k + binom n (k + 1)
theorem binom_0 (n : Nat) : binom n 0 = 1 := by cases n <;> rfl
theorem binom_step (n k : Nat) : binom (n + 1) (k + 1) = binom n k + binom n (k + 1) := rfl
theorem binom_le (n k : Nat) : binom n k ≤ 2 ^ n := by
  induction n generalizing k with
  | zero => cases k with
    | zero => simp [binom]
    | succ k => simp [binom]
  | succ n ih => cases k with
    | zero => rw [binom_0]; exact Nat.one_le_two_pow
    | succ k => have h1 := ih k; have h2 := ih (k + 1); rw [binom_step, Nat.pow_succ]; omega
theorem binom_big (n k : Nat) (h : n < k) : binom n k = 0 := by
  induction n generalizing k with
  | zero => cases k with
    | zero => omega
    | succ k => rfl
  | succ n ih => cases k with
    | zero => omega
    | succ k => rw [binom_step, ih k (by omega), ih (k + 1) (by omega)]
theorem binom_self (n : Nat) : binom n n = 1 := by
  induction n with
  | zero => rfl
  | succ n ih => rw [binom_step, ih, binom_big n (n + 1) (by omega)]
theorem binom_mono1 (n k : Nat) : binom n k ≤ binom (n + 1) k := by
  cases k with
  | zero => rw [binom_0, binom_0]; exact Nat.le_refl _
  | succ k => rw [binom_step]; omega
theorem binom_monoAdd (a n k : Nat) : binom n k ≤ binom (a + n) k := by
  induction a with
  | zero => simp
  | succ a ih => have := binom_mono1 (a + n) k; rw [show a + 1 + n = a + n + 1 from by omega]; omega
theorem binom_mul (a b i j : Nat) : binom a i * binom b j ≤ binom (a + b) (i + j) := by
  induction a generalizing i with
  | zero => cases i with
    | zero => simp [binom]
    | succ i => simp [binom]
  | succ a ih => cases i with
    | zero => rw [binom_0]; simp; exact binom_monoAdd (a + 1) b j
    | succ i =>
      rw [binom_step, Nat.add_mul, show a + 1 + b = (a + b) + 1 from by omega, show i + 1 + j = (i + j) + 1 from by omega, binom_step]
      have h1 := ih i
      have h2 := ih (i + 1)
      rw [show i + 1 + j = i + j + 1 from by omega] at h2
      omega
def nextR (l : List Nat) : List Nat := List.zipWith (· + ·) (0 :: l) (l ++ [0])
def rowR : Nat → List Nat
  | 0 => [1]
  | n + 1 => nextR (rowR n)
theorem rowR_is (n : Nat) : (rowR n).length = n + 1 ∧ ∀ k, (rowR n).getD k 0 = binom n k := by
  induction n with
  | zero => exact ⟨rfl, fun k => by cases k with
    | zero => rfl
    | succ k => simp [rowR, binom]⟩
  | succ n ih =>
    obtain ⟨hl, hk⟩ := ih
    have hl2 : (rowR (n + 1)).length = n + 1 + 1 := by simp [rowR, nextR, hl]
    refine ⟨hl2, fun k => ?_⟩
    by_cases h : k < n + 2
    · have e : (rowR (n + 1)).getD k 0 = (0 :: rowR n).getD k 0 + (rowR n ++ [0]).getD k 0 := by
        have hk1 : k < (0 :: rowR n).length := by simp [hl]; omega
        have hk2 : k < (rowR n ++ [0]).length := by simp [hl]; omega
        have hk3 : k < (List.zipWith (· + ·) (0 :: rowR n) (rowR n ++ [0])).length := by rw [List.length_zipWith]; omega
        simp only [List.getD, rowR, nextR, List.getElem?_eq_getElem hk1, List.getElem?_eq_getElem hk2, List.getElem?_eq_getElem hk3, List.getElem_zipWith, Option.getD_some]
      have e2 : (rowR n ++ [0]).getD k 0 = binom n k := by
        rw [← hk k]
        simp only [List.getD]
        by_cases h2 : k < n + 1
        · rw [List.getElem?_append_left (by omega)]
        · rw [List.getElem?_append_right (by omega), hl, show k - (n + 1) = 0 from by omega, List.getElem?_eq_none (by omega : (rowR n).length ≤ k)]; rfl
      rw [e, e2]
      cases k with
      | zero => simp [binom_0]
      | succ k => rw [binom_step]; simp only [List.getD_cons_succ]; rw [hk k]
    · rw [binom_big _ _ (by omega)]; simp [List.getD, List.getElem?_eq_none (by omega : (rowR (n + 1)).length ≤ k)]
theorem binom_52 : ∀ k : Fin 11, binom 52 k.val ≤ 15820024220 := fun k => by
  rw [← (rowR_is 52).2]
  exact (by decide +kernel : ∀ k : Fin 11, (rowR 52).getD k.val 0 ≤ 15820024220) k
theorem binom_few (n k : Nat) (hn : n ≤ 52) (hk : k ≤ 10) : binom n k ≤ 15820024220 := by
  have h1 := binom_monoAdd (52 - n) n k
  rw [show 52 - n + n = 52 from by omega] at h1
  exact Nat.le_trans h1 (binom_52 ⟨k, by omega⟩)

def chooseI (n k : Int) : Int := if 0 ≤ n ∧ n ≤ 52 ∧ 0 ≤ k ∧ k ≤ n then (binom n.toNat k.toNat : Int) else 0
theorem choose_in (n k : Nat) (hn : n ≤ 52) (hk : k ≤ n) : chooseI n k = (binom n k : Int) := by
  unfold chooseI; rw [if_pos ⟨by omega, by omega, by omega, by omega⟩]; rfl
theorem choose_out {n k : Int} (h : ¬ (0 ≤ n ∧ n ≤ 52 ∧ 0 ≤ k ∧ k ≤ n)) : chooseI n k = 0 := by unfold chooseI; rw [if_neg h]
theorem choose_bd (n k : Int) : 0 ≤ chooseI n k ∧ chooseI n k ≤ 4503599627370496 := by
  unfold chooseI
  split
  · next h =>
    have h1 := binom_le n.toNat k.toNat
    have h2 : 2 ^ n.toNat ≤ 2 ^ 52 := Nat.pow_le_pow_right (by omega) (by omega)
    have h3 : (2 : Nat) ^ 52 = 4503599627370496 := by decide
    omega
  · omega

def isDrawB (u g d t : Int) : Bool := decide ((0 ≤ u ∧ u ≤ 52) ∧ (0 ≤ g ∧ g ≤ u) ∧ (0 ≤ d ∧ d ≤ 10) ∧ (0 ≤ t ∧ t ≤ d))
theorem draw_t {u g d t : Int} (h : isDrawB u g d t = true) : (0 ≤ u ∧ u ≤ 52) ∧ (0 ≤ g ∧ g ≤ u) ∧ (0 ≤ d ∧ d ≤ 10) ∧ (0 ≤ t ∧ t ≤ d) := by unfold isDrawB at h; simpa using h
theorem draw_f {u g d t : Int} (h : isDrawB u g d t = false) : ¬ ((0 ≤ u ∧ u ≤ 52) ∧ (0 ≤ g ∧ g ≤ u) ∧ (0 ≤ d ∧ d ≤ 10) ∧ (0 ≤ t ∧ t ≤ d)) := by unfold isDrawB at h; exact of_decide_eq_false h
theorem draw_mk {u g d t : Int} (h : (0 ≤ u ∧ u ≤ 52) ∧ (0 ≤ g ∧ g ≤ u) ∧ (0 ≤ d ∧ d ≤ 10) ∧ (0 ≤ t ∧ t ≤ d)) : isDrawB u g d t = true := by unfold isDrawB; exact decide_eq_true h
theorem draw_no {u g d t : Int} (h : ¬ ((0 ≤ u ∧ u ≤ 52) ∧ (0 ≤ g ∧ g ≤ u) ∧ (0 ≤ d ∧ d ≤ 10) ∧ (0 ≤ t ∧ t ≤ d))) : isDrawB u g d t = false := by unfold isDrawB; exact decide_eq_false h
def waysW (u g d t : Int) : Int := if isDrawB u g d t then chooseI g t * chooseI (u - g) (d - t) else 0
theorem ways_in {u g d t : Int} (h : isDrawB u g d t = true) : waysW u g d t = chooseI g t * chooseI (u - g) (d - t) := by unfold waysW; rw [h]; rfl
theorem ways_out {u g d t : Int} (h : isDrawB u g d t = false) : waysW u g d t = 0 := by unfold waysW; rw [h]; rfl
theorem ways_bd (u g d t : Int) : 0 ≤ waysW u g d t ∧ waysW u g d t ≤ 15820024220 := by
  cases h : isDrawB u g d t with
  | false => rw [ways_out h]; omega
  | true =>
    rw [ways_in h]
    obtain ⟨⟨u0, u1⟩, ⟨g0, g1⟩, ⟨d0, d1⟩, ⟨t0, t1⟩⟩ := draw_t h
    obtain ⟨un, rfl⟩ : ∃ n : Nat, u = n := ⟨u.toNat, by omega⟩
    obtain ⟨gn, rfl⟩ : ∃ n : Nat, g = n := ⟨g.toNat, by omega⟩
    obtain ⟨dn, rfl⟩ : ∃ n : Nat, d = n := ⟨d.toNat, by omega⟩
    obtain ⟨tn, rfl⟩ : ∃ n : Nat, t = n := ⟨t.toNat, by omega⟩
    rw [show (un : Int) - (gn : Int) = ((un - gn : Nat) : Int) from by omega, show (dn : Int) - (tn : Int) = ((dn - tn : Nat) : Int) from by omega]
    by_cases h1 : tn ≤ gn
    · by_cases h2 : dn - tn ≤ un - gn
      · rw [choose_in _ _ (by omega) h1, choose_in _ _ (by omega) h2]
        have hm := binom_mul gn (un - gn) tn (dn - tn)
        have hf := binom_few (gn + (un - gn)) (tn + (dn - tn)) (by omega) (by omega)
        have hz : ((binom gn tn : Int)) * (binom (un - gn) (dn - tn) : Int) = ((binom gn tn * binom (un - gn) (dn - tn) : Nat) : Int) := by simp
        rw [hz]; omega
      · rw [choose_out (n := ((un - gn : Nat) : Int)) (by omega)]; omega
    · rw [choose_out (n := (gn : Int)) (by omega)]; omega
/-- The sum of the ways with t, t+1 .. t+m-1 good ones. -/
def sumW (u g d t : Int) : Nat → Int
  | 0 => 0
  | m + 1 => sumW u g d t m + waysW u g d (t + m)
theorem sumW_bd (u g d t : Int) (m : Nat) : 0 ≤ sumW u g d t m ∧ sumW u g d t m ≤ 15820024220 * m := by
  induction m with
  | zero => simp [sumW]
  | succ m ih => have := ways_bd u g d (t + m); simp only [sumW]; omega
def waysA (u g d t : Int) : Int := if isDrawB u g d t then sumW u g d t (d + 1 - t).toNat else 0
theorem waysA_out {u g d t : Int} (h : isDrawB u g d t = false) : waysA u g d t = 0 := by unfold waysA; rw [h]; rfl
theorem waysA_in {u g d t : Int} (h : isDrawB u g d t = true) : waysA u g d t = sumW u g d t (d + 1 - t).toNat := by unfold waysA; rw [h]; rfl
theorem waysA_bd (u g d t : Int) : 0 ≤ waysA u g d t ∧ waysA u g d t ≤ 174020266420 := by
  cases h : isDrawB u g d t with
  | false => rw [waysA_out h]; omega
  | true =>
    rw [waysA_in h]
    have hd := draw_t h
    have hs := sumW_bd u g d t (d + 1 - t).toNat
    omega
def perT (u g d t : Int) : Int := if chooseI u d = 0 then 0 else 1000 * waysA u g d t / chooseI u d
end Go.Proofs.Ytljpeiffpkfnlaa
