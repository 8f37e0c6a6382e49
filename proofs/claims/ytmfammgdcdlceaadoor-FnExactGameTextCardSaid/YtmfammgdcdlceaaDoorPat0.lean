/-
  Patterns: what the signs of a pattern come to, as functions of a card. No program in this text.
-/
import Derived.Test.YtmfammgdcdlceaaDoorSl
namespace Go.Proofs.YtmfammgdcdlceaaDoor
set_option linter.unusedVariables false
set_option linter.unusedSimpArgs false

def leafF (s : Int) : Option (Int → Bool) :=
  if 100 ≤ s ∧ s ≤ 103 then some fun c => decide (c / 13 = s - 100)
  else if 200 ≤ s ∧ s ≤ 212 then some fun c => decide (c % 13 = s - 200)
  else if 300 ≤ s ∧ s ≤ 312 then some fun c => decide (s - 300 ≤ c % 13)
  else if s = 400 then some fun c => decide (c / 13 = 1) || decide (c / 13 = 2)
  else none
def getF (st : List (Int → Bool)) (i : Nat) : Int → Bool := st.getD i fun _ => false
def notF (f : Int → Bool) : Int → Bool := fun c => !f c
def andF (f g : Int → Bool) : Int → Bool := fun c => f c && g c
def orF (f g : Int → Bool) : Int → Bool := fun c => f c || g c
def stepP (st : List (Int → Bool)) (s : Int) : Option (List (Int → Bool)) :=
  match leafF s with
  | some f => some (st ++ [f])
  | none =>
    if s = -1 ∧ 1 ≤ st.length then some (st.take (st.length - 1) ++ [notF (getF st (st.length - 1))])
    else if s = -2 ∧ 2 ≤ st.length then some (st.take (st.length - 2) ++ [andF (getF st (st.length - 2)) (getF st (st.length - 1))])
    else if s = -3 ∧ 2 ≤ st.length then some (st.take (st.length - 2) ++ [orF (getF st (st.length - 2)) (getF st (st.length - 1))])
    else none
def workP (st : List (Int → Bool)) : List Int → Option (List (Int → Bool))
  | [] => some st
  | s :: p => match stepP st s with
    | none => none
    | some st' => workP st' p
theorem workP_append (p q : List Int) : ∀ st, workP st (p ++ q) = (workP st p).bind fun st' => workP st' q := by
  induction p with
  | nil => intro st; rfl
  | cons s p ih =>
    intro st
    simp only [List.cons_append, workP]
    cases stepP st s with
    | none => rfl
    | some st' => exact ih st'
def isPat (p : List Int) : Bool := match workP [] p with
  | some [_] => decide (p.length ≤ 20)
  | _ => false
def patF (p : List Int) : Int → Bool := match workP [] p with
  | some [f] => f
  | _ => fun _ => false
theorem work_next (p : List Int) (k : Nat) (h : k < p.length) (st : List (Int → Bool)) (hs : workP [] (p.take k) = some st) : workP [] (p.take (k + 1)) = stepP st p[k] := by
  rw [List.take_succ_eq_append_getElem h, workP_append, hs]
  show workP st [p[k]] = _
  simp only [workP]
  cases stepP st p[k] <;> rfl
theorem work_none (p : List Int) (k : Nat) (h : workP [] (p.take k) = none) : workP [] p = none := by
  rw [← List.take_append_drop k p, workP_append, h]; rfl
theorem pat_none (p : List Int) (h : workP [] p = none) : isPat p = false := by unfold isPat; rw [h]
theorem pat_bad (p : List Int) (k : Nat) (h : k < p.length) (st : List (Int → Bool)) (hs : workP [] (p.take k) = some st) (hn : stepP st p[k] = none) : isPat p = false :=
  pat_none p (work_none p (k + 1) (by rw [work_next p k h st hs, hn]))
theorem pat_end (p : List Int) (st : List (Int → Bool)) (hs : workP [] p = some st) : isPat p = (decide (st.length = 1) && decide (p.length ≤ 20)) := by
  unfold isPat
  rw [hs]
  match st with
  | [] => rfl
  | [f] => rfl
  | f :: g :: l => simp
theorem pat_some (p : List Int) (h : isPat p = true) : ∃ f, workP [] p = some [f] ∧ patF p = f ∧ p.length ≤ 20 := by
  unfold isPat at h
  unfold patF
  split at h
  · rename_i f e; exact ⟨f, e, rfl, by simpa using h⟩
  · cases h
/-- What a sign does: by its kind. -/
def leaf (s : Int) : Bool := (leafF s).isSome
theorem leaf_iff (s : Int) : leaf s = decide ((100 ≤ s ∧ s ≤ 103) ∨ (200 ≤ s ∧ s ≤ 212) ∨ (300 ≤ s ∧ s ≤ 312) ∨ s = 400) := by
  unfold leaf leafF
  by_cases h1 : 100 ≤ s ∧ s ≤ 103
  · simp [h1]
  by_cases h2 : 200 ≤ s ∧ s ≤ 212
  · simp [h1, h2]
  by_cases h3 : 300 ≤ s ∧ s ≤ 312
  · simp [h1, h2, h3]
  by_cases h4 : s = 400
  · simp [h1, h2, h3, h4]
  · simp [h1, h2, h3, h4]
theorem step_leaf (st : List (Int → Bool)) (s : Int) (f : Int → Bool) (h : leafF s = some f) : stepP st s = some (st ++ [f]) := by unfold stepP; rw [h]
theorem leaf_none (s : Int) (h : leaf s = false) : leafF s = none := by
  unfold leaf at h
  cases e : leafF s with
  | none => rfl
  | some f => rw [e] at h; cases h
theorem leaf_some (s : Int) (h : leaf s = true) : ∃ f, leafF s = some f := by
  unfold leaf at h
  cases e : leafF s with
  | none => rw [e] at h; cases h
  | some f => exact ⟨f, rfl⟩
theorem leafF_neg (s : Int) (h : s < 0) : leafF s = none := by
  unfold leafF
  rw [if_neg (by omega), if_neg (by omega), if_neg (by omega), if_neg (by omega)]
theorem step_not (st : List (Int → Bool)) (h : 1 ≤ st.length) : stepP st (-1) = some (st.take (st.length - 1) ++ [notF (getF st (st.length - 1))]) := by
  unfold stepP; rw [leafF_neg _ (by omega)]; dsimp only; rw [if_pos ⟨rfl, h⟩]
theorem step_and (st : List (Int → Bool)) (h : 2 ≤ st.length) : stepP st (-2) = some (st.take (st.length - 2) ++ [andF (getF st (st.length - 2)) (getF st (st.length - 1))]) := by
  unfold stepP; rw [leafF_neg _ (by omega)]; dsimp only; rw [if_neg (by omega), if_pos ⟨rfl, h⟩]
theorem step_or (st : List (Int → Bool)) (h : 2 ≤ st.length) : stepP st (-3) = some (st.take (st.length - 2) ++ [orF (getF st (st.length - 2)) (getF st (st.length - 1))]) := by
  unfold stepP; rw [leafF_neg _ (by omega)]; dsimp only; rw [if_neg (by omega), if_neg (by omega), if_pos ⟨rfl, h⟩]
theorem step_bad (st : List (Int → Bool)) (s : Int) (hl : leaf s = false) (h1 : ¬ (s = -1 ∧ 1 ≤ st.length)) (h2 : ¬ (s = -2 ∧ 2 ≤ st.length)) (h3 : ¬ (s = -3 ∧ 2 ≤ st.length)) : stepP st s = none := by
  unfold stepP; rw [leaf_none _ hl]; dsimp only; rw [if_neg h1, if_neg h2, if_neg h3]
theorem step_len (st st' : List (Int → Bool)) (s : Int) (h : stepP st s = some st') : st'.length ≤ st.length + 1 := by
  unfold stepP at h
  split at h
  · cases h; simp
  · split at h
    · cases h; simp <;> omega
    · split at h
      · cases h; simp <;> omega
      · split at h
        · cases h; simp <;> omega
        · cases h

end Go.Proofs.YtmfammgdcdlceaaDoor
