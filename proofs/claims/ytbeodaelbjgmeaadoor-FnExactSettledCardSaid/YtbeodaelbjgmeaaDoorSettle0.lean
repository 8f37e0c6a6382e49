/-
  Settled: its meaning, and what the two sides lean on. No program in this text.
-/
import Derived.Test.YtbeodaelbjgmeaaDoorGame0
import Derived.Test.YtbeodaelbjgmeaaDoorLeftP
namespace Go.Proofs.YtbeodaelbjgmeaaDoor
open Go.RowKit
set_option linter.unusedVariables false
set_option linter.unusedSimpArgs false

def pk (l : List Int) (p k j : Nat) : Int := if j = p then (l.take k).sum else if j < k then -(l.getD j 0) else 0
/-- What each gets after the first k have given to p. -/
def stl (l : List Int) (p k : Nat) : List Int := (List.range l.length).map (pk l p k)
theorem stl_len (l : List Int) (p k : Nat) : (stl l p k).length = l.length := by simp [stl]
theorem stl_get (l : List Int) (p k j : Nat) (h : j < (stl l p k).length) : (stl l p k)[j] = pk l p k j := by simp [stl]
theorem sum_takeS (l : List Int) (k : Nat) (h : k < l.length) : (l.take (k + 1)).sum = (l.take k).sum + l[k] := by
  rw [List.take_succ_eq_append_getElem h, List.sum_append]; simp
theorem stl_0 (l : List Int) (p : Nat) : stl l p 0 = List.replicate l.length 0 := by
  apply List.ext_getElem
  · simp [stl]
  · intro j h1 h2
    rw [stl_get]; simp [pk]
/-- One more gives. -/
theorem stl_ne (l : List Int) (p k : Nat) (hk : k < l.length) (hne : k ≠ p) (hp : p < l.length) : ((stl l p k).set k (pk l p k k - l[k])).set p (pk l p k p + l[k]) = stl l p (k + 1) := by
  apply List.ext_getElem
  · simp [stl]
  · intro j h1 h2
    have hj : j < l.length := by simpa [stl] using h2
    rw [stl_get]
    by_cases e : j = p
    · subst e
      rw [List.getElem_set_self]
      simp only [pk, if_true]
      rw [sum_takeS l k hk]
    · rw [List.getElem_set_ne (fun h => e h.symm)]
      by_cases e2 : j = k
      · subst e2
        rw [List.getElem_set_self]
        simp [pk, e, List.getD, hk]
      · rw [List.getElem_set_ne (fun h => e2 h.symm), stl_get]
        have : (j < k + 1) = (j < k) := by apply propext; omega
        simp only [pk, if_neg e, this]
theorem stl_eq (l : List Int) (p : Nat) (hp : p < l.length) (h0 : l[p] = 0) : ((stl l p p).set p (pk l p p p - 0)).set p (pk l p p p - 0 + 0) = stl l p (p + 1) := by
  apply List.ext_getElem
  · simp [stl]
  · intro j h1 h2
    have hj : j < l.length := by simpa [stl] using h2
    rw [stl_get]
    by_cases e : j = p
    · subst e
      rw [List.getElem_set_self]
      simp only [pk, if_true]
      rw [sum_takeS l j hp, h0]; omega
    · rw [List.getElem_set_ne (fun h => e h.symm), List.getElem_set_ne (fun h => e h.symm), stl_get]
      have : (j < p + 1) = (j < p) := by apply propext; omega
      simp only [pk, if_neg e, this]
def settledG (D : MGame) : List Int := if gameB D = true then (if firstOut D.hands < 0 then List.replicate (leftPts D.hands).length 0 else stl (leftPts D.hands) (firstOut D.hands).toNat (leftPts D.hands).length) else []
theorem first_is {zss : List (List Int)} {p : Nat} (h : firstOut zss = (p : Int)) : ∃ hp : p < zss.length, zss[p] = [] := by
  unfold firstOut at h
  split at h
  · rename_i j hj
    have h1 := List.find?_range_eq_some.1 hj
    have h2 : j < zss.length := by simpa using h1.2.1
    have e : j = p := by omega
    subst e
    exact ⟨h2, by have := h1.1; simpa [List.getD, h2] using this⟩
  · omega
theorem first_out_ge (zss : List (List Int)) : -1 ≤ firstOut zss := by
  unfold firstOut
  split <;> omega
theorem leftPts_sum (zss : List (List Int)) : 0 ≤ (leftPts zss).sum ∧ (leftPts zss).sum ≤ 10 * sumLen zss := by
  unfold leftPts sumLen
  induction zss with
  | nil => simp
  | cons z zss ih =>
    have := pts_le z
    simp only [List.map_cons, List.sum_cons]
    omega
theorem leftPts_sumK (zss : List (List Int)) (k : Nat) : 0 ≤ ((leftPts zss).take k).sum ∧ ((leftPts zss).take k).sum ≤ 10 * sumLen zss := by
  have e : (leftPts zss).take k = leftPts (zss.take k) := by unfold leftPts; rw [List.map_take]
  have h1 := leftPts_sum (zss.take k)
  have h2 := sumLen_take_le zss k
  rw [e]; omega
theorem leftPts_get (zss : List (List Int)) (k : Nat) (hk : k < (leftPts zss).length) : 0 ≤ (leftPts zss)[k] ∧ (leftPts zss)[k] ≤ 10 * sumLen zss := by
  have hz : k < zss.length := by simpa [leftPts] using hk
  have e : (leftPts zss)[k] = ptsOf zss[k] := by simp [leftPts]
  have h1 := pts_le zss[k]
  have h2 := len_le_sum zss hz
  rw [e]; omega
theorem leftPts_zero (zss : List (List Int)) (k : Nat) (hk : k < (leftPts zss).length) (hz : k < zss.length) (h : zss[k] = []) : (leftPts zss)[k] = 0 := by
  have e : (leftPts zss)[k] = ptsOf zss[k] := by simp [leftPts]
  rw [e, h]; rfl
theorem pk_le (zss : List (List Int)) (p k j : Nat) : -(10 * (sumLen zss : Int)) ≤ pk (leftPts zss) p k j ∧ pk (leftPts zss) p k j ≤ 10 * sumLen zss := by
  unfold pk
  have h1 := leftPts_sumK zss k
  split
  · omega
  · split
    · by_cases h : j < (leftPts zss).length
      · have := leftPts_get zss j h
        have e : (leftPts zss).getD j 0 = (leftPts zss)[j] := by simp [List.getD, h]
        rw [e]; omega
      · have e : (leftPts zss).getD j 0 = 0 := by simp [List.getD]; rw [List.getElem?_eq_none (by omega)]; rfl
        rw [e]; omega
    · omega
theorem stl_wf {zss : List (List Int)} (h : sumLen zss ≤ 1048576) (p k : Nat) : ∀ n ∈ stl (leftPts zss) p k, (Lit.int .i64 n).wf = true := by
  intro n hn
  simp only [stl, List.mem_map] at hn
  obtain ⟨j, -, rfl⟩ := hn
  have := pk_le zss p k j
  exact WalkArith.wf_i64 (by omega)
end Go.Proofs.YtbeodaelbjgmeaaDoor
