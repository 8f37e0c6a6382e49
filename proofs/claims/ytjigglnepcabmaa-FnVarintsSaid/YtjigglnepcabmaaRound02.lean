/-
  What is written is read again: numbers, byte strings, lists of numbers.
-/
import Derived.Test.YtjigglnepcabmaaDec02
import Derived.Test.YtjigglnepcabmaaImpl02
namespace Go.Proofs.Ytjigglnepcabmaa
open Go.RowKit

theorem getD_mid (A t : List Int) (x : Int) (i : Nat) (h : i = A.length) : (A ++ x :: t).getD i 0 = x := by
  subst h; simp [List.getD]
theorem rd_uvar (r : List Int) (s : Nat) : ∀ (j k n : Nat) (m : Int) (A : List Int), s + k = A.length → n < 128 ^ (j + 1) → (k = 0 ∨ 0 < n) → m + (n : Int) * 128 ^ k ≤ 1000000000000 →
    rdGo (A ++ (uvar n ++ r)) s (j + 1) k m = some (m + (n : Int) * 128 ^ k, (A.length : Int) + (uvar n).length) := by
  intro j
  induction j with
  | zero =>
    intro k n m A hA hn hk hm
    have hn' : n ≤ 127 := by simp at hn; omega
    rw [uvar_small n hn', rdGo]
    have e : ((n : Int) % 128) = n := by omega
    rw [if_neg (by simp; omega), List.cons_append, getD_mid _ _ _ _ hA, if_pos (by omega), e, if_neg (by omega)]
    simp; omega
  | succ j ih =>
    intro k n m A hA hn hk hm
    by_cases h : n ≤ 127
    · rw [uvar_small n h, rdGo]
      have e : ((n : Int) % 128) = n := by omega
      rw [if_neg (by simp; omega), List.cons_append, getD_mid _ _ _ _ hA, if_pos (by omega), e, if_neg (by omega)]
      simp; omega
    · rw [uvar_big n h, rdGo]
      have e : (((n % 128 + 128 : Nat) : Int) % 128) = ((n % 128 : Nat) : Int) := by omega
      rw [if_neg (by simp; omega), List.cons_append, getD_mid _ _ _ _ hA, if_neg (by omega), e]
      have e2 : A ++ ((n % 128 + 128 : Nat) : Int) :: (uvar (n / 128) ++ r) = (A ++ [((n % 128 + 128 : Nat) : Int)]) ++ (uvar (n / 128) ++ r) := by simp
      have e3 : m + ((n % 128 : Nat) : Int) * 128 ^ k + ((n / 128 : Nat) : Int) * 128 ^ (k + 1) = m + (n : Int) * 128 ^ k := by
        have e4 : (n : Int) = ((n % 128 : Nat) : Int) + ((n / 128 : Nat) : Int) * 128 := by omega
        rw [Int.pow_succ, Int.mul_comm (128 ^ k) 128, ← Int.mul_assoc, Int.add_assoc, ← Int.add_mul, ← e4]
      have hq : n / 128 < 128 ^ (j + 1) := by
        rw [Nat.div_lt_iff_lt_mul (by decide), ← Nat.pow_succ]; exact hn
      rw [e2, ih (k + 1) (n / 128) _ _ (by simp; omega) hq (.inr (by omega)) (by rw [e3]; exact hm), e3]
      simp; omega
theorem rdU_uvar (A r : List Int) (n : Nat) (hn : n ≤ 1000000000000) : rdU (A ++ (uvar n ++ r)) A.length = some ((n : Int), (A.length : Int) + (uvar n).length) := by
  unfold rdU
  rw [if_neg (by omega)]
  have := rd_uvar r A.length 5 0 n 0 A rfl (by omega) (.inl rfl) (by simp; omega)
  simpa using this
theorem putB_eq (zs ys : List Int) (h : ys.length ≤ 1000000000000) : putB zs ys = zs ++ (uvar ys.length ++ ys) := by
  unfold putB putU
  rw [if_pos (by omega)]
  simp
theorem rdBy_putB (zs ys : List Int) (h : ys.length ≤ 1000000000000) : rdBy (putB zs ys) zs.length ys.length = some (ys, ((putB zs ys).length : Int)) := by
  rw [putB_eq zs ys h]
  have h1 := rdU_uvar zs ys ys.length h
  rw [rdBy_some h1 (by simp; omega)]
  have e : ((zs.length : Int) + (uvar ys.length).length).toNat = (zs ++ uvar ys.length).length := by simp; omega
  rw [e, ← List.append_assoc, List.drop_left]
  simp; omega
theorem rdBy_short (zs ys : List Int) (h : ys.length ≤ 1000000000000) : rdBy (putB zs ys) zs.length ((ys.length : Int) - 1) = none := by
  rw [putB_eq zs ys h]
  exact rdBy_far (rdU_uvar zs ys ys.length h) (.inl (by omega))
def Nums (l : List Int) : Prop := ∀ x ∈ l, 0 ≤ x ∧ x ≤ 1000000000000
theorem encI_snoc (l : List Int) (x : Int) : encI (l ++ [x]) = putU (encI l) x := by simp [encI]
def encL : List Int → List Int
  | [] => []
  | x :: l => uvar x.toNat ++ encL l
theorem foldl_putU (l : List Int) (hl : Nums l) : ∀ acc, l.foldl putU acc = acc ++ encL l := by
  induction l with
  | nil => intro acc; simp [encL]
  | cons x l ih =>
    intro acc
    have hx := hl x (List.mem_cons_self ..)
    rw [List.foldl_cons, ih (fun y hy => hl y (List.mem_cons_of_mem _ hy)), encL]
    unfold putU
    rw [if_pos hx, List.append_assoc]
theorem encI_eq (l : List Int) (hl : Nums l) : encI l = encL l := by
  unfold encI; rw [foldl_putU l hl]; simp
theorem rdAll_enc : ∀ (l : List Int), Nums l → ∀ (A acc : List Int), rdAll (A ++ encL l) l.length A.length acc = some (acc ++ l, ((A ++ encL l).length : Int))
  | [], _, A, acc => by simp [rdAll, encL]
  | x :: l, hl, A, acc => by
    have hx := hl x (List.mem_cons_self ..)
    have h1 := rdU_uvar A (encL l) x.toNat (by omega)
    have e : ((x.toNat : Nat) : Int) = x := by omega
    rw [e] at h1
    have ih := rdAll_enc l (fun y hy => hl y (List.mem_cons_of_mem _ hy)) (A ++ uvar x.toNat) (acc ++ [x])
    rw [encL, List.length_cons, rdAll_some h1]
    rw [List.append_assoc] at ih
    rw [List.length_append, Int.natCast_add] at ih
    rw [ih]
    simp
theorem rdU_end (A : List Int) : rdU A A.length = none := by
  unfold rdU
  rw [if_neg (by omega)]
  simp [rdGo]
theorem rdAll_more : ∀ (l : List Int), Nums l → ∀ (A acc : List Int), rdAll (A ++ encL l) (l.length + 1) A.length acc = none
  | [], _, A, acc => by
    have := rdU_end A
    simp only [encL, List.append_nil, List.length_nil]
    exact rdAll_none this
  | x :: l, hl, A, acc => by
    have hx := hl x (List.mem_cons_self ..)
    have h1 := rdU_uvar A (encL l) x.toNat (by omega)
    have e : ((x.toNat : Nat) : Int) = x := by omega
    rw [e] at h1
    have ih := rdAll_more l (fun y hy => hl y (List.mem_cons_of_mem _ hy)) (A ++ uvar x.toNat) (acc ++ [x])
    rw [encL, List.length_cons, rdAll_some h1]
    rw [List.append_assoc] at ih
    rw [List.length_append, Int.natCast_add] at ih
    exact ih
theorem decI_enc (l : List Int) (hl : Nums l) (h : l.length ≤ 99) : decI (encI l) 0 l.length = some (l, ((encI l).length : Int)) := by
  have h1 := rdAll_enc l hl [] []
  rw [encI_eq l hl]
  unfold decI rdList
  rw [if_pos (by omega), if_pos (by omega)]
  simpa using h1
theorem decI_more (l : List Int) (hl : Nums l) (h : l.length ≤ 99) : decI (encI l) 0 ((l.length : Int) + 1) = none := by
  have h1 := rdAll_more l hl [] []
  rw [encI_eq l hl]
  unfold decI rdList
  rw [if_pos (by omega), if_pos (by omega)]
  have e : ((l.length : Int) + 1).toNat = l.length + 1 := by omega
  rw [e]
  simpa using h1
end Go.Proofs.Ytjigglnepcabmaa
