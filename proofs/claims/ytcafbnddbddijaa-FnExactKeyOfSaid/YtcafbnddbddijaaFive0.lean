/-
  The hands of five: pure (numbers of each rank; what the program packs and what the model lists are the same, by going through all 6188 vectors).
-/
import Derived.Test.YtcafbnddbddijaaCard
import Derived.Test.YtcafbnddbddijaaModel05
namespace Go.Proofs.Ytcafbnddbddijaa
set_option linter.unusedVariables false
set_option linter.unusedSimpArgs false

def fiveCanon (n : List Nat) : List Nat := [4, 3, 2, 1].flatMap fun k => [12,11,10,9,8,7,6,5,4,3,2,1,0].filter fun r => Nat.beq (n.getD r 0) k
def fiveStraightAt (n : List Nat) (t : Nat) : Bool := [0,1,2,3,4].all fun i => Nat.beq (n.getD (if t < i then 12 else t - i) 0) 1
def fiveStraightFrom (n : List Nat) : List Nat → Option Nat
  | [] => none
  | t :: ts => if fiveStraightAt n t then some t else fiveStraightFrom n ts
def fiveStraight (n : List Nat) : Option Nat := fiveStraightFrom n [12,11,10,9,8,7,6,5,4,3]
def fiveHas (n : List Nat) (k : Nat) : Nat := n.foldl (fun s x => if Nat.beq x k then s + 1 else s) 0
def fiveKindM (n : List Nat) (b : Bool) : Nat :=
  if (fiveStraight n).isSome && b then 8 else if Nat.beq (fiveHas n 4) 1 then 7 else if Nat.beq (fiveHas n 3) 1 && Nat.beq (fiveHas n 2) 1 then 6
  else if b then 5 else if (fiveStraight n).isSome then 4 else if Nat.beq (fiveHas n 3) 1 then 3 else if Nat.beq (fiveHas n 2) 2 then 2 else if Nat.beq (fiveHas n 2) 1 then 1 else 0
def fiveKeyM (n : List Nat) (b : Bool) : List Nat :=
  match fiveKindM n b with
  | 4 => [4, (fiveStraight n).getD 0]
  | 8 => [8, (fiveStraight n).getD 0]
  | k => k :: fiveCanon n
def fivePack (k : Nat) (R : List Nat) : Nat := [0,1,2,3,4].foldl (fun key p => key * 16 + (if p < R.length then R.getD p 0 + 1 else 0)) k
def fiveTop (R : List Nat) : Nat × Bool :=
  if Nat.beq (R.getD 0 0) (R.getD 4 0 + 4) then (R.getD 0 0, true) else (R.getD 1 0, Nat.beq (R.getD 0 0) 12 && Nat.beq (R.getD 1 0) 3)
def fiveApart (R : List Nat) (b : Bool) : Nat :=
  if (fiveTop R).2 && b then fivePack 8 [(fiveTop R).1] else if b then fivePack 5 R else if (fiveTop R).2 then fivePack 4 [(fiveTop R).1] else fivePack 0 R
def fiveP (R : List Nat) (most : Nat) (b : Bool) : Nat :=
  if Nat.beq R.length 2 && Nat.beq most 4 then fivePack 7 R else if Nat.beq R.length 2 then fivePack 6 R else if Nat.beq R.length 3 && Nat.beq most 3 then fivePack 3 R
  else if Nat.beq R.length 3 then fivePack 2 R else if Nat.beq R.length 4 then fivePack 1 R else fiveApart R b
def fiveUnpack (K : Nat) : List Nat := (K / 1048576) :: ([65536, 4096, 256, 16, 1].filterMap fun s => if Nat.beq (K / s % 16) 0 then none else some (K / s % 16 - 1))
def fiveEqL : List Nat → List Nat → Bool
  | [], [] => true
  | a :: xs, b :: ys => Nat.beq a b && fiveEqL xs ys
  | _, _ => false
theorem fiveEqL_eq : ∀ {l r : List Nat}, fiveEqL l r = true → l = r
  | [], [], _ => rfl
  | [], _ :: _, h => by simp [fiveEqL] at h
  | _ :: _, [], h => by simp [fiveEqL] at h
  | a :: xs, b :: ys, h => by
    simp only [fiveEqL, Bool.and_eq_true] at h
    rw [Nat.eq_of_beq_eq_true h.1, fiveEqL_eq h.2]
def fiveOk (n : List Nat) (b : Bool) : Bool :=
  let R := fiveCanon n
  let K := fiveP R (n.getD (R.getD 0 0) 0) b
  fiveEqL (fiveUnpack K) (fiveKeyM n b)
def fiveAll : Nat → Nat → (List Nat → Bool) → Bool
  | 0, 0, f => f []
  | 0, _ + 1, _ => true
  | k + 1, 0, f => fiveAll k 0 fun v => f (0 :: v)
  | k + 1, s + 1, f => (List.range (s + 2)).all fun a => fiveAll k (s + 1 - a) fun v => f (a :: v)
theorem fiveAll_sound : ∀ (k s : Nat) (f : List Nat → Bool), fiveAll k s f = true → ∀ v : List Nat, v.length = k → v.sum = s → f v = true
  | 0, 0, f, h, v, hl, hs => by obtain rfl := List.length_eq_zero_iff.1 hl; exact h
  | 0, s + 1, f, h, v, hl, hs => by obtain rfl := List.length_eq_zero_iff.1 hl; simp at hs
  | k + 1, 0, f, h, v, hl, hs => by
    match v, hl, hs with
    | a :: v, hl, hs =>
      have ha : a = 0 := by simp at hs; omega
      subst ha
      exact fiveAll_sound k 0 _ h v (by simpa using hl) (by simpa using hs)
  | k + 1, s + 1, f, h, v, hl, hs => by
    match v, hl, hs with
    | a :: v, hl, hs =>
      have hs' : a + v.sum = s + 1 := by simpa using hs
      rw [fiveAll, List.all_eq_true] at h
      exact fiveAll_sound k (s + 1 - a) _ (h a (List.mem_range.2 (by omega))) v (by simpa using hl) (by omega)
def fiveCheck (v : List Nat) : Bool := if v.all (fun x => Nat.ble x 1) then fiveOk v true && fiveOk v false else if v.all (fun x => Nat.ble x 4) then fiveOk v false else true
/-- How many cards of a rank. -/
def cntR (zs : List Int) (r : Nat) : Nat := (zs.filter fun x => decide (rankOf x = (r : Int))).length
def cntV (zs : List Int) : List Nat := (List.range 13).map (cntR zs)
theorem cntV_len (zs : List Int) : (cntV zs).length = 13 := by simp [cntV]
theorem cntV_at (zs : List Int) {r : Nat} (h : r < 13) : (cntV zs).getD r 0 = cntR zs r := by
  simp [cntV, h]
theorem cntR_cons (x : Int) (zs : List Int) (r : Nat) : cntR (x :: zs) r = (if rankOf x = (r : Int) then 1 else 0) + cntR zs r := by
  unfold cntR
  rw [List.filter_cons]
  by_cases e : rankOf x = (r : Int)
  · rw [if_pos (by simpa using e), if_pos e, List.length_cons]; omega
  · rw [if_neg (by simpa using e), if_neg e]; omega
theorem cntR_take (zs : List Int) (k : Nat) (h : k < zs.length) (r : Nat) : cntR (zs.take (k + 1)) r = cntR (zs.take k) r + if rankOf zs[k] = (r : Int) then 1 else 0 := by
  unfold cntR
  rw [List.take_succ_eq_append_getElem h, List.filter_append, List.length_append]
  congr 1
  by_cases e : rankOf zs[k] = (r : Int) <;> simp [e]
theorem cntR_le (zs : List Int) (r : Nat) : cntR zs r ≤ zs.length := List.length_filter_le _ _
theorem sum_add (f g : Nat → Nat) : ∀ l : List Nat, (l.map fun r => f r + g r).sum = (l.map f).sum + (l.map g).sum
  | [] => rfl
  | a :: l => by have := sum_add f g l; simp only [List.map_cons, List.sum_cons, this]; omega
theorem one_of_13 : ∀ k : Fin 13, ((List.range 13).map fun (r : Nat) => if ((k.val : Int)) = (r : Int) then 1 else 0).sum = 1 := by decide
theorem cntV_sum : ∀ zs : List Int, (∀ x ∈ zs, isCard x = true) → (cntV zs).sum = zs.length
  | [], _ => by decide
  | x :: zs, h => by
    have hx := h x (by simp)
    have hr := isCard_t hx
    have ih := cntV_sum zs fun y hy => h y (by simp [hy])
    have e : cntR (x :: zs) = fun (r : Nat) => (if rankOf x = (r : Int) then 1 else 0) + cntR zs r := funext (cntR_cons x zs)
    unfold cntV at ih ⊢
    rw [e, sum_add, ih]
    have h1 := one_of_13 ⟨(rankOf x).toNat, by rw [rank_in hx]; omega⟩
    have h2 : (((rankOf x).toNat : Nat) : Int) = rankOf x := by rw [rank_in hx]; omega
    simp only [h2] at h1
    rw [h1, List.length_cons]; omega
theorem hand_card {zs : List Int} (h : isHand zs = true) : ∀ x ∈ zs, isCard x = true := by
  intro x hx
  obtain ⟨j, hj, rfl⟩ := List.getElem_of_mem hx
  unfold isHand at h
  exact ((of_decide_eq_true h) j hj).1
theorem hand_nodup {zs : List Int} (h : isHand zs = true) : zs.Nodup := by
  unfold isHand at h
  have h := of_decide_eq_true h
  rw [List.Nodup, List.pairwise_iff_getElem]
  intro i j hi hj hij e
  exact (h j hj).2 (by rw [← e]; exact List.mem_take_iff_getElem.2 ⟨i, by omega, rfl⟩)
theorem cntR_le4 {zs : List Int} (h : isHand zs = true) (r : Nat) : cntR zs r ≤ 4 := by
  have hn : (zs.filter fun x => decide (rankOf x = (r : Int))).Nodup := (hand_nodup h).filter _
  have := hn.length_le_of_subset (l₂ := [(r : Int), r + 13, r + 26, r + 39]) (by
    intro x hx
    rw [List.mem_filter] at hx
    have hc := hand_card h x hx.1
    have := isCard_t hc
    have e : rankOf x = (r : Int) := by simpa using hx.2
    rw [rank_in hc] at e
    simp only [List.mem_cons, List.not_mem_nil, or_false]
    omega)
  exact this
def oneSuit (zs : List Int) : Bool := decide (∀ j (h : j < zs.length), suitOf zs[j] = suitOf (zs.getD 0 0))
theorem cntR_le1 {zs : List Int} (h : isHand zs = true) (hs : oneSuit zs = true) (r : Nat) : cntR zs r ≤ 1 := by
  have hn : (zs.filter fun x => decide (rankOf x = (r : Int))).Nodup := (hand_nodup h).filter _
  have hs := of_decide_eq_true hs
  have := hn.length_le_of_subset (l₂ := [suitOf (zs.getD 0 0) * 13 + r]) (by
    intro x hx
    rw [List.mem_filter] at hx
    have hc := hand_card h x hx.1
    have := isCard_t hc
    have e : rankOf x = (r : Int) := by simpa using hx.2
    obtain ⟨j, hj, ej⟩ := List.getElem_of_mem hx.1
    have e2 := hs j hj
    rw [ej] at e2
    rw [rank_in hc] at e
    rw [← e2, suit_in hc]
    simp only [List.mem_cons, List.not_mem_nil, or_false]
    omega)
  exact this
/-- The program's order of the ranks. -/
def keyR (n : Nat → Nat) (r : Nat) : Nat := 13 * n r + r
theorem canon_sorted (n : List Nat) : (fiveCanon n).Pairwise fun x y => keyR (fun r => n.getD r 0) y ≤ keyR (fun r => n.getD r 0) x := by
  unfold fiveCanon
  rw [List.pairwise_flatMap]
  constructor
  · intro k _
    have h0 : ([12,11,10,9,8,7,6,5,4,3,2,1,0] : List Nat).Pairwise fun x y => y ≤ x := by decide
    have h1 := h0.filter fun r => Nat.beq (n.getD r 0) k
    refine h1.imp_of_mem ?_
    intro a b ha hb hab
    have e1 := Nat.eq_of_beq_eq_true (List.mem_filter.1 ha).2
    have e2 := Nat.eq_of_beq_eq_true (List.mem_filter.1 hb).2
    simp only [keyR, e1, e2]; omega
  · have h0 : ([4, 3, 2, 1] : List Nat).Pairwise fun x y => y < x := by decide
    refine h0.imp ?_
    intro k1 k2 hk x hx y hy
    have e1 := Nat.eq_of_beq_eq_true (List.mem_filter.1 hx).2
    have e2 := Nat.eq_of_beq_eq_true (List.mem_filter.1 hy).2
    have m1 : x ≤ 12 := by have := (List.mem_filter.1 hx).1; simp only [List.mem_cons, List.not_mem_nil, or_false] at this; omega
    have m2 : y ≤ 12 := by have := (List.mem_filter.1 hy).1; simp only [List.mem_cons, List.not_mem_nil, or_false] at this; omega
    simp only [keyR, e1, e2]; omega
theorem mem_canon (n : List Nat) (r : Nat) : r ∈ fiveCanon n ↔ r < 13 ∧ 1 ≤ n.getD r 0 ∧ n.getD r 0 ≤ 4 := by
  unfold fiveCanon
  rw [List.mem_flatMap]
  constructor
  · rintro ⟨k, hk, hr⟩
    have e1 := Nat.eq_of_beq_eq_true (List.mem_filter.1 hr).2
    have m1 := (List.mem_filter.1 hr).1
    simp only [List.mem_cons, List.not_mem_nil, or_false] at m1 hk
    omega
  · rintro ⟨h1, h2, h3⟩
    refine ⟨n.getD r 0, ?_, List.mem_filter.2 ⟨?_, ?_⟩⟩
    · simp only [List.mem_cons, List.not_mem_nil, or_false]; omega
    · simp only [List.mem_cons, List.not_mem_nil, or_false]; omega
    · exact Nat.beq_refl _
theorem keyR_inj {n : Nat → Nat} {x y : Nat} (hx : x < 13) (hy : y < 13) (h : keyR n x = keyR n y) : x = y := by unfold keyR at h; omega
theorem canon_nodup (n : List Nat) : (fiveCanon n).Nodup := by
  unfold fiveCanon
  rw [List.Nodup, List.pairwise_flatMap]
  constructor
  · intro k _
    exact (show ([12,11,10,9,8,7,6,5,4,3,2,1,0] : List Nat).Nodup by decide).filter _
  · have h0 : ([4, 3, 2, 1] : List Nat).Pairwise fun x y => y < x := by decide
    refine h0.imp ?_
    intro k1 k2 hk x hx y hy e
    have e1 := Nat.eq_of_beq_eq_true (List.mem_filter.1 hx).2
    have e2 := Nat.eq_of_beq_eq_true (List.mem_filter.1 hy).2
    rw [e] at e1; omega
theorem canon_unique {n : List Nat} {L : List Nat} (hn : L.Nodup) (hm : ∀ r, r ∈ L ↔ r < 13 ∧ 1 ≤ n.getD r 0 ∧ n.getD r 0 ≤ 4)
    (hs : L.Pairwise fun x y => keyR (fun r => n.getD r 0) y ≤ keyR (fun r => n.getD r 0) x) : L = fiveCanon n := by
  have hp : L.Perm (fiveCanon n) := (List.perm_ext_iff_of_nodup hn (canon_nodup n)).2 fun r => by rw [hm r, mem_canon]
  exact List.Perm.eq_of_pairwise (fun a b ha hb h1 h2 => keyR_inj ((hm a).1 ha).1 ((mem_canon n b).1 hb).1 (Nat.le_antisymm h2 h1)) hs (canon_sorted n) hp
end Go.Proofs.Ytcafbnddbddijaa
