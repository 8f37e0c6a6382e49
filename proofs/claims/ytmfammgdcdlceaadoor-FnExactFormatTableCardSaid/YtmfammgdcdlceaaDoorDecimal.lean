/-
  Decimal texts as lists of bytes: value, canonical form. No program in this text.
-/
import Derived.Lib.ItoaNum
namespace Go.Proofs.YtmfammgdcdlceaaDoor
set_option linter.unusedVariables false
set_option linter.unusedSimpArgs false

def val (l : List UInt8) : Nat := l.foldl (fun n c => n * 10 + (c.toNat - 48)) 0
def isD (c : UInt8) : Prop := 48 ≤ c.toNat ∧ c.toNat ≤ 57
def allD (l : List UInt8) : Prop := ∀ c ∈ l, isD c
/-- The decimal forms of the integers from 0 to the greatest value. -/
def okD (l : List UInt8) : Prop := l ≠ [] ∧ ¬ (1 < l.length ∧ l.head? = some 48) ∧ allD l ∧ val l ≤ 1000000000000

theorem val_snoc (l : List UInt8) (c : UInt8) : val (l ++ [c]) = val l * 10 + (c.toNat - 48) := by
  unfold val; rw [List.foldl_append]; rfl
theorem val_nil : val [] = 0 := rfl
theorem val_mono (l r : List UInt8) : val l ≤ val (l ++ r) := by
  induction r generalizing l with
  | nil => simp
  | cons c r ih =>
    have h := ih (l ++ [c])
    rw [List.append_assoc, List.singleton_append] at h
    refine Nat.le_trans ?_ h
    rw [val_snoc]; omega

/-- Induction from the right. -/
theorem snoc_ind {P : List UInt8 → Prop} (h0 : P []) (h1 : ∀ l c, P l → P (l ++ [c])) : ∀ l, P l := by
  intro l
  have : ∀ r : List UInt8, P r.reverse := by
    intro r
    induction r with
    | nil => exact h0
    | cons c r ih => rw [List.reverse_cons]; exact h1 _ _ ih
  have h := this l.reverse
  rwa [List.reverse_reverse] at h

theorem val_lt (l : List UInt8) (h : allD l) : val l < 10 ^ l.length := by
  revert h
  refine snoc_ind (P := fun l => allD l → val l < 10 ^ l.length) ?_ ?_ l
  · intro _; simp [val]
  · intro l c ih h
    have h1 := ih (fun x hx => h x (by simp [hx]))
    have h2 : isD c := h c (by simp)
    unfold isD at h2
    rw [val_snoc, List.length_append, List.length_singleton, Nat.pow_succ]
    omega

theorem head_snoc {l : List UInt8} (hl : l ≠ []) (c : UInt8) : (l ++ [c]).head? = l.head? := by
  cases l with
  | nil => exact absurd rfl hl
  | cons a l => rfl

theorem val_pos (l : List UInt8) (h : allD l) (hne : l ≠ []) (hh : l.head? ≠ some 48) : 1 ≤ val l := by
  match l, hne with
  | c :: l, _ =>
    have h1 : isD c := h c (by simp)
    unfold isD at h1
    have h2 : c ≠ 48 := fun e => hh (by rw [e]; rfl)
    have h3 : c.toNat ≠ 48 := fun e => h2 (by apply UInt8.toNat_inj.1; rw [e]; rfl)
    have h4 := val_mono [c] l
    rw [List.singleton_append] at h4
    have h5 : val [c] = c.toNat - 48 := by simp [val]
    omega

theorem ofNat_digit (c : UInt8) (h : isD c) : UInt8.ofNat (48 + (c.toNat - 48)) = c := by
  unfold isD at h
  rw [show 48 + (c.toNat - 48) = c.toNat by omega]
  exact UInt8.ofNat_toNat

theorem canon (l : List UInt8) (h : allD l) (hne : l ≠ []) (hh : ¬ (1 < l.length ∧ l.head? = some 48)) : Lib.decDigits (val l) = l := by
  revert h hne hh
  refine snoc_ind (P := fun l => allD l → l ≠ [] → ¬ (1 < l.length ∧ l.head? = some 48) → Lib.decDigits (val l) = l) ?_ ?_ l
  · intro _ h; exact absurd rfl h
  · intro l c ih h _ hh
    have hl : allD l := fun x hx => h x (by simp [hx])
    have hc : isD c := h c (by simp)
    have hc' := hc
    unfold isD at hc'
    by_cases e : l = []
    · subst e
      rw [List.nil_append]
      have : val [c] = c.toNat - 48 := by simp [val]
      rw [this, Lib.decDigits, dif_pos (by omega), ofNat_digit c hc]
    · have hlen : 1 < (l ++ [c]).length := by
        cases l with
        | nil => exact absurd rfl e
        | cons a l => simp
      have hhd : l.head? ≠ some 48 := fun e2 => hh ⟨hlen, by rw [head_snoc e]; exact e2⟩
      have hp := val_pos l hl e hhd
      rw [val_snoc, Lib.decDigits, dif_neg (by omega), show (val l * 10 + (c.toNat - 48)) / 10 = val l by omega, ih hl e (fun x => hhd x.2),
        show (val l * 10 + (c.toNat - 48)) % 10 = c.toNat - 48 by omega, ofNat_digit c hc]

theorem dec_len : ∀ (k m : Nat), m < 10 ^ (k + 1) → (Lib.decDigits m).length ≤ k + 1
  | 0, m, h => by rw [Lib.decDigits_one (by simpa using h)]; simp
  | k + 1, m, h => by
    by_cases h10 : m < 10
    · rw [Lib.decDigits_one h10]; simp
    · rw [Lib.decDigits, dif_neg h10]
      have := dec_len k (m / 10) (by rw [Nat.pow_succ] at h; omega)
      simp; omega

theorem okD_len {l : List UInt8} (h : okD l) : l.length ≤ 13 := by
  obtain ⟨h1, h2, h3, h4⟩ := h
  rw [← canon l h3 h1 h2]
  exact dec_len 12 _ (by omega)

theorem dec_head : ∀ (m : Nat), 1 ≤ m → (Lib.decDigits m).head? ≠ some 48 := by
  intro m
  induction m using Nat.strongRecOn with
  | _ m ih =>
    intro h1
    by_cases h : m < 10
    · rw [Lib.decDigits_one h]
      intro e
      have e2 : UInt8.ofNat (48 + m) = 48 := Option.some.inj e
      have := congrArg UInt8.toNat e2
      simp at this; omega
    · rw [Lib.decDigits, dif_neg h]
      have h2 := ih (m / 10) (by omega) (by omega)
      rw [head_snoc]
      · exact h2
      · intro e
        have := Lib.decDigits_length (m / 10)
        rw [e] at this
        have := Lib.nDigits_pos (m / 10)
        simp at *; omega

/-- A text of digits is the numeral of its value just if it has no zero ahead. -/
theorem dec_iff {l : List UInt8} (h : allD l) (hne : l ≠ []) : Lib.decDigits (val l) = l ↔ ¬ (1 < l.length ∧ l.head? = some 48) := by
  constructor
  · rintro e ⟨h1, h2⟩
    by_cases hv : val l = 0
    · rw [hv, Lib.decDigits_one (by omega)] at e
      rw [← e] at h1; simp at h1
    · have := dec_head (val l) (by omega)
      rw [e] at this
      exact this h2
  · exact canon l h hne

theorem itoa_nat (m : Nat) : Lib.itoa (m : Int) = Lib.decDigits m := by
  unfold Lib.itoa; rw [if_neg (by omega)]; simp


theorem dec_allD (u : Nat) : allD (Lib.decDigits u) := by
  induction u using Nat.strongRecOn with
  | _ u ih =>
    by_cases h : u < 10
    · rw [Lib.decDigits_one h]
      intro c hc
      rw [List.mem_singleton.1 hc]
      have : (UInt8.ofNat (48 + u)).toNat = 48 + u := by simp; omega
      unfold isD; omega
    · rw [Lib.decDigits, dif_neg h]
      intro c hc
      rcases List.mem_append.1 hc with hc | hc
      · exact ih (u / 10) (by omega) c hc
      · rw [List.mem_singleton.1 hc]
        have : (UInt8.ofNat (48 + u % 10)).toNat = 48 + u % 10 := by simp; omega
        unfold isD; omega
theorem dec_val (u : Nat) : val (Lib.decDigits u) = u := by
  induction u using Nat.strongRecOn with
  | _ u ih =>
    by_cases h : u < 10
    · rw [Lib.decDigits_one h]
      have : (UInt8.ofNat (48 + u)).toNat = 48 + u := by simp; omega
      simp only [val, List.foldl_cons, List.foldl_nil, this]; omega
    · rw [Lib.decDigits, dif_neg h, val_snoc, ih (u / 10) (by omega)]
      have : (UInt8.ofNat (48 + u % 10)).toNat = 48 + u % 10 := by simp; omega
      rw [this]; omega
theorem dec_ne (u : Nat) : Lib.decDigits u ≠ [] := by
  intro e
  have h1 := Lib.decDigits_length u
  rw [e] at h1
  have := Lib.nDigits_pos u
  simp at h1; omega
/-- The numeral of an int is a decimal form in range just if the int is in range. -/
theorem okD_itoa (m : Int) (h0 : 0 ≤ m) (h1 : m ≤ 1000000000000) : okD (Lib.itoa m) ∧ (val (Lib.itoa m) : Int) = m := by
  obtain ⟨u, rfl⟩ := Int.eq_ofNat_of_zero_le h0
  rw [itoa_nat, dec_val]
  refine ⟨⟨dec_ne u, ?_, dec_allD u, by rw [dec_val]; omega⟩, rfl⟩
  exact (dec_iff (dec_allD u) (dec_ne u)).1 (by rw [dec_val])
theorem not_okD_itoa (m : Int) (h : ¬ (0 ≤ m ∧ m ≤ 1000000000000)) : ¬ okD (Lib.itoa m) := by
  intro ho
  by_cases h0 : m < 0
  · have e : Lib.itoa m = 45 :: Lib.decDigits m.natAbs := by unfold Lib.itoa; rw [if_pos h0]
    have := ho.2.2.1 45 (by rw [e]; simp)
    unfold isD at this
    simp at this
  · obtain ⟨u, rfl⟩ := Int.eq_ofNat_of_zero_le (show 0 ≤ m by omega)
    have := ho.2.2.2
    rw [itoa_nat, dec_val] at this
    omega

end Go.Proofs.YtmfammgdcdlceaaDoor
