/-
  setOf by contract: a hand as a set of bits; hands that are apart.
-/
import Derived.Test.YtmfammgdcdlceaaDoorBits
namespace Go.Proofs.YtmfammgdcdlceaaDoor
open Go.RowKit
set_option linter.unusedVariables false
set_option linter.unusedSimpArgs false

def setN (zs : List Int) : Nat := zs.foldl (fun s c => s ||| bitN c) 0
theorem setN_snoc (zs : List Int) (c : Int) : setN (zs ++ [c]) = setN zs ||| bitN c := by simp [setN]
theorem setN_lt (zs : List Int) : setN zs < 2 ^ 52 := by
  suffices h : ∀ (l : List Int) (m : Nat), m < 2 ^ 52 → l.foldl (fun s c => s ||| bitN c) m < 2 ^ 52 from h zs 0 (by decide)
  intro l
  induction l with
  | nil => exact fun m h => h
  | cons x l ih => exact fun m h => ih _ (Nat.or_lt_two_pow h (bitN_lt x))
theorem bitN_bit (c : Int) (j : Nat) : (bitN c).testBit j = decide (isCard c = true ∧ c = (j : Int)) := by
  cases h : isCard c with
  | true =>
    have hc := isCard_t h
    rw [bitN_in h, Nat.testBit_two_pow]
    by_cases e : c = (j : Int)
    · simp [e]
    · have : c.toNat ≠ j := by omega
      simp [e, this]
  | false => rw [bitN_out h, Nat.zero_testBit]; simp
theorem foldl_bit (l : List Int) (m j : Nat) : (l.foldl (fun s c => s ||| bitN c) m).testBit j = (m.testBit j || decide (isCard (j : Int) = true ∧ (j : Int) ∈ l)) := by
  induction l generalizing m with
  | nil => simp
  | cons x l ih =>
    rw [List.foldl_cons, ih, Nat.testBit_or, bitN_bit]
    by_cases e : x = (j : Int)
    · subst e
      cases h : isCard (j : Int) <;> simp
    · have e2 : ¬ (j : Int) = x := fun h => e h.symm
      simp [e, e2]
theorem setN_bit (zs : List Int) (j : Nat) : (setN zs).testBit j = decide (isCard (j : Int) = true ∧ (j : Int) ∈ zs) := by
  unfold setN; rw [foldl_bit]; simp
theorem setN_app (A B : List Int) : setN (A ++ B) = setN A ||| setN B := by
  refine Nat.eq_of_testBit_eq fun j => ?_
  rw [Nat.testBit_or, setN_bit, setN_bit, setN_bit]
  cases h : isCard (j : Int) <;> simp
theorem isHand_iff (zs : List Int) : isHand zs = true ↔ (∀ x ∈ zs, isCard x = true) ∧ zs.Nodup := by
  unfold isHand
  simp only [decide_eq_true_eq]
  constructor
  · intro h
    refine ⟨fun x hx => ?_, ?_⟩
    · obtain ⟨j, hj, rfl⟩ := List.getElem_of_mem hx
      exact (h j hj).1
    · rw [List.nodup_iff_pairwise_ne, List.pairwise_iff_getElem]
      intro i j hi hj hij e
      refine (h j hj).2 ?_
      rw [← e]
      exact List.mem_take_iff_getElem.2 ⟨i, by omega, rfl⟩
  · rintro ⟨h1, h2⟩ j hj
    refine ⟨h1 _ (List.getElem_mem hj), fun hm => ?_⟩
    obtain ⟨i, hi, e⟩ := List.mem_take_iff_getElem.1 hm
    rw [List.nodup_iff_pairwise_ne, List.pairwise_iff_getElem] at h2
    exact h2 i j (by omega) hj (by omega) e
theorem isHand_app {A B : List Int} (hA : isHand A = true) : isHand (A ++ B) = (isHand B && decide (setN A &&& setN B = 0)) := by
  obtain ⟨a1, a2⟩ := (isHand_iff A).1 hA
  have key : (setN A &&& setN B = 0 ∧ isHand B = true) ↔ isHand (A ++ B) = true := by
    rw [isHand_iff, isHand_iff, List.nodup_append]
    constructor
    · rintro ⟨h, b1, b2⟩
      refine ⟨fun x hx => (List.mem_append.1 hx).elim (a1 x) (b1 x), a2, b2, fun x hx y hy e => ?_⟩
      subst e
      have hc := isCard_t (a1 x hx)
      have h3 : (setN A &&& setN B).testBit x.toNat = true := by
        have e2 : ((x.toNat : Nat) : Int) = x := by omega
        rw [Nat.testBit_and, setN_bit, setN_bit, e2]; simp [a1 x hx, hx, hy]
      rw [h, Nat.zero_testBit] at h3
      cases h3
    · rintro ⟨h1, -, h3, h4⟩
      refine ⟨?_, fun x hx => h1 x (List.mem_append_right _ hx), h3⟩
      refine Nat.eq_of_testBit_eq fun j => ?_
      rw [Nat.testBit_and, setN_bit, setN_bit, Nat.zero_testBit]
      by_cases hj : (j : Int) ∈ A
      · by_cases hj2 : (j : Int) ∈ B
        · exact absurd rfl (h4 _ hj _ hj2)
        · simp [hj2]
      · simp [hj]
  cases h : isHand (A ++ B) with
  | true =>
    obtain ⟨h1, h2⟩ := key.2 h
    rw [h1, h2]; rfl
  | false =>
    cases h2 : isHand B with
    | false => rfl
    | true =>
      have : ¬ setN A &&& setN B = 0 := fun e => by
        have := key.1 ⟨e, h2⟩
        rw [h] at this; cases this
      simp [this]
theorem isHand_pre {A B : List Int} (hA : isHand A = false) : isHand (A ++ B) = false := by
  cases h : isHand (A ++ B) with
  | false => rfl
  | true =>
    exfalso
    obtain ⟨h1, h2⟩ := (isHand_iff _).1 h
    have : isHand A = true := (isHand_iff A).2 ⟨fun x hx => h1 x (List.mem_append_left _ hx), (List.nodup_append.1 h2).1⟩
    rw [hA] at this; cases this

end Go.Proofs.YtmfammgdcdlceaaDoor
