/-
  IsRound, both sides.
-/
import Derived.Test.YtmfammgdcdlceaaDoorIn
namespace Go.Proofs.YtmfammgdcdlceaaDoor
open Go.RowKit
set_option linter.unusedVariables false
set_option linter.unusedSimpArgs false

def inP (n : Int) : Bool := decide (-1000 ≤ n ∧ n ≤ 1000)
def isRound (p : Int) (zs : List Int) : Bool := decide (2 ≤ p ∧ p ≤ 6) && decide ((zs.length : Int) = p) && zs.all inP && decide (zs.sum = 0)
theorem sum_take (zs : List Int) (k : Nat) (h : k < zs.length) : (zs.take (k + 1)).sum = (zs.take k).sum + zs[k] := by
  rw [List.take_succ_eq_append_getElem h, List.sum_append]; simp
theorem round_bad {p : Int} {zs : List Int} (k : Nat) (h : k < zs.length) (hb : ¬ (-1000 ≤ zs[k] ∧ zs[k] ≤ 1000)) : isRound p zs = false := by
  have e : zs.all inP = false := by
    rw [List.all_eq_false]
    exact ⟨zs[k], List.getElem_mem _, by unfold inP; simpa using hb⟩
  unfold isRound; rw [e]; simp
theorem round_p {p : Int} {zs : List Int} (h : ¬ (2 ≤ p ∧ p ≤ 6)) : isRound p zs = false := by
  unfold isRound; rw [decide_eq_false h]; rfl
theorem round_n {p : Int} {zs : List Int} (h : ¬ (zs.length : Int) = p) : isRound p zs = false := by
  unfold isRound; rw [decide_eq_false h]; simp
theorem round_ok {p : Int} {zs : List Int} (hp : 2 ≤ p ∧ p ≤ 6) (hn : (zs.length : Int) = p) (ha : ∀ j (hj : j < zs.length), -1000 ≤ zs[j] ∧ zs[j] ≤ 1000) : isRound p zs = decide (zs.sum = 0) := by
  have e : zs.all inP = true := by
    rw [List.all_eq_true]
    intro x hx
    obtain ⟨j, hj, rfl⟩ := List.getElem_of_mem hx
    unfold inP; simpa using ha j hj
  unfold isRound; rw [decide_eq_true hp, decide_eq_true hn, e]; rfl

set_option maxRecDepth 100000 in
set_option maxHeartbeats 1000000 in
theorem isRound_any (p : Int) (v : Value) (zs : List Int) (b : Nat) (w : World) (h : RdAt .i64 w v zs b) (hl : zs.length ≤ 1099511627776) :
    Calls Tryd.prog 82 #[.int .i64 p, v] w fun e w' => e = .returned (.bool (isRound p zs)) ∧ w = w' := by
  obtain ⟨a, cap, rfl, -, -, hcell⟩ := h
  obtain ⟨r, hr⟩ : ∃ r, r = isRound p zs := ⟨_, rfl⟩
  by_cases hp : 2 ≤ p ∧ p ≤ 6
  · have HI := Lib.hid (fun wx => inR_any p 2 6 wx true (by simpa using hp))
    obtain ⟨n, hn⟩ : ∃ n, n = zs.length := ⟨_, rfl⟩
    have Hn := Lib.hid hn
    by_cases hnp : (n : Int) = p
    · have Hr : Hid (r = isRound p zs) := Lib.hid hr
      have Hp := Lib.hid hp
      have Hnp := Lib.hid hnp
      rw [← hr]
      rw [← hn] at hl ⊢
      have hq : ((n : Int) != p) = false := by simpa using hnp
      clear hr hn hp hnp
      go_enter Tryd.func82, Tryd.ntmps82
      go_wp2_with fail
      refine (HI.out _).mono ?_
      rintro e _w ⟨rfl, rfl⟩
      go_wp2_with fail
      go_loop [5, 7, 19] (fun l _ i => ∃ (k : Nat) (x : Int), k ≤ n ∧ i = .int .i64 k ∧ l = .int .i64 x ∧ -(1000 * (k : Int)) ≤ x ∧ x ≤ 1000 * (k : Int) ∧ Hid (x = (zs.take k).sum) ∧ Hid (∀ j (hj : j < zs.length), j < k → -1000 ≤ zs[j] ∧ zs[j] ≤ 1000)) (fun _ _ i => n - (intOf i).toNat)
      case atStart => exact ⟨0, 0, Nat.zero_le _, rfl, rfl, by omega, by omega, Lib.hid rfl, Lib.hid (fun j _ h => by omega)⟩
      case round =>
        obtain ⟨k, x, hk, rfl, rfl, hx0, hx1, hx, hall⟩ := hrel
        by_cases hlt : k < n
        · have hz : k < zs.length := by rw [← Hn.out]; exact hlt
          rcases hcell with h0 | ⟨off, rfl, hc⟩
          · subst h0; simp at hz
          obtain ⟨y, hy⟩ : ∃ y, Hid (y = zs[k]) := ⟨_, Lib.hid rfl⟩
          have h1 : w.cell? ⟨b, off + k, none⟩ = some (.int .i64 y) := by rw [hc k hz, hy.out]
          clear hc
          by_cases hyr : -1000 ≤ y ∧ y ≤ 1000
          · have HJ := Lib.hid (fun wx => inR_any y (-1000) 1000 wx true (by simpa using hyr))
            have hs2 : Hid (x + y = (zs.take (k + 1)).sum) := Lib.hid (by rw [sum_take zs k hz, ← hx.out, ← hy.out])
            have hall2 : Hid (∀ j (hj : j < zs.length), j < k + 1 → -1000 ≤ zs[j] ∧ zs[j] ≤ 1000) := Lib.hid (fun j hj hjk => by
              by_cases e : j = k
              · subst e; rw [← hy.out]; exact hyr
              · exact hall.out j hj (by omega))
            obtain ⟨hy0, hy1⟩ := hyr
            go_wp2_with fail
            refine (HJ.out _).mono ?_
            rintro e _w ⟨rfl, rfl⟩
            go_wp2_with fail
            go_round
            case rel => exact ⟨k + 1, x + y, by omega, by go_num, by go_num, by omega, by omega, hs2, hall2⟩
            case measure => simp [intOf]; omega
          · have HJ := Lib.hid (fun wx => inR_any y (-1000) 1000 wx false (by simp only [decide_eq_false hyr]))
            have Hf : Hid (r = false) := Lib.hid (by rw [Hr.out]; exact round_bad k hz (by rw [← hy.out]; exact hyr))
            clear hyr
            go_wp2_with fail
            refine (HJ.out _).mono ?_
            rintro e _w ⟨rfl, rfl⟩
            go_wp2_with fail
            go_ret
            exact ⟨by rw [Hf.out]; rfl, rfl⟩
        · obtain rfl : k = n := by omega
          have Hf : Hid (r = decide (x = 0)) := Lib.hid (by
            rw [Hr.out, round_ok Hp.out (by rw [← Hn.out]; exact Hnp.out) (fun j hj => hall.out j hj (by rw [Hn.out]; exact hj)), hx.out, List.take_of_length_le (by rw [Hn.out]; exact Nat.le_refl _)])
          go_wp2_with fail
          go_ret
          exact ⟨by rw [Hf.out]; rfl, rfl⟩
    · have hf : r = false := by rw [hr]; exact round_n (by rw [← hn]; exact hnp)
      rw [← hr]
      subst hf
      rw [← hn] at hl ⊢
      have hq : ((n : Int) != p) = true := by simpa using hnp
      clear hr hn hp hnp
      go_enter Tryd.func82, Tryd.ntmps82
      go_wp2_with fail
      refine (HI.out _).mono ?_
      rintro e _w ⟨rfl, rfl⟩
      go_wp2_with fail
      go_ret
      exact ⟨rfl, rfl⟩
  · have HI := Lib.hid (fun wx => inR_any p 2 6 wx false (by simp only [decide_eq_false hp]))
    have hf : r = false := by rw [hr]; exact round_p hp
    rw [← hr]
    subst hf
    clear hr hp
    go_enter Tryd.func82, Tryd.ntmps82
    go_wp2_with fail
    refine (HI.out _).mono ?_
    rintro e _w ⟨rfl, rfl⟩
    go_wp2_with fail
    go_ret
    exact ⟨rfl, rfl⟩
set_option maxRecDepth 100000 in
set_option maxHeartbeats 1000000 in
theorem sIsRound_any (p : Int) (v : Value) (zs : List Int) (b : Nat) (w : World) (h : RdAt .i64 w v zs b) (hl : zs.length ≤ 1099511627776) :
    Calls Tryd.prog 61 #[.int .i64 p, v] w fun e w' => e = .returned (.bool (isRound p zs)) ∧ w = w' := by
  obtain ⟨a, cap, rfl, -, -, hcell⟩ := h
  obtain ⟨r, hr⟩ : ∃ r, r = isRound p zs := ⟨_, rfl⟩
  obtain ⟨n, hn⟩ : ∃ n, n = zs.length := ⟨_, rfl⟩
  have Hn := Lib.hid hn
  have Hr : Hid (r = isRound p zs) := Lib.hid hr
  rw [← hr]
  rw [← hn] at hl ⊢
  clear hr hn
  go_enter Tryd.func61, Tryd.ntmps61
  go_wp2_with fail
  go_loop [5, 6] (fun l i => ∃ (k : Nat) (x : Int), k ≤ n ∧ i = .int .i64 k ∧ l = .int .i64 x ∧ -(1000 * (k : Int)) ≤ x ∧ x ≤ 1000 * (k : Int) ∧ Hid (x = (zs.take k).sum) ∧ Hid (∀ j (hj : j < zs.length), j < k → -1000 ≤ zs[j] ∧ zs[j] ≤ 1000)) (fun _ i => n - (intOf i).toNat)
  case atStart => exact ⟨0, 0, Nat.zero_le _, rfl, rfl, by omega, by omega, Lib.hid rfl, Lib.hid (fun j _ h => by omega)⟩
  case round =>
    obtain ⟨k, x, hk, rfl, rfl, hx0, hx1, hx, hall⟩ := hrel
    by_cases hlt : k < n
    · have hz : k < zs.length := by rw [← Hn.out]; exact hlt
      rcases hcell with h0 | ⟨off, rfl, hc⟩
      · subst h0; simp at hz
      obtain ⟨y, hy⟩ : ∃ y, Hid (y = zs[k]) := ⟨_, Lib.hid rfl⟩
      have h1 : w.cell? ⟨b, off + k, none⟩ = some (.int .i64 y) := by rw [hc k hz, hy.out]
      clear hc
      by_cases hyr : -1000 ≤ y ∧ y ≤ 1000
      · have HJ := Lib.hid (fun wx => inM_any y (-1000) 1000 wx true (by simpa using hyr))
        have hs2 : Hid (x + y = (zs.take (k + 1)).sum) := Lib.hid (by rw [sum_take zs k hz, ← hx.out, ← hy.out])
        have hall2 : Hid (∀ j (hj : j < zs.length), j < k + 1 → -1000 ≤ zs[j] ∧ zs[j] ≤ 1000) := Lib.hid (fun j hj hjk => by
          by_cases e : j = k
          · subst e; rw [← hy.out]; exact hyr
          · exact hall.out j hj (by omega))
        obtain ⟨hy0, hy1⟩ := hyr
        go_wp2_with fail
        refine (HJ.out _).mono ?_
        rintro e _w ⟨rfl, rfl⟩
        go_wp2_with fail
        go_round
        case rel => exact ⟨k + 1, x + y, by omega, by go_num, by go_num, by omega, by omega, hs2, hall2⟩
        case measure => simp [intOf]; omega
      · have HJ := Lib.hid (fun wx => inM_any y (-1000) 1000 wx false (by simp only [decide_eq_false hyr]))
        have Hf : Hid (r = false) := Lib.hid (by rw [Hr.out]; exact round_bad k hz (by rw [← hy.out]; exact hyr))
        clear hyr
        go_wp2_with fail
        refine (HJ.out _).mono ?_
        rintro e _w ⟨rfl, rfl⟩
        go_wp2_with fail
        go_ret
        exact ⟨by rw [Hf.out]; rfl, rfl⟩
    · obtain rfl : k = n := by omega
      by_cases hp : 2 ≤ p ∧ p ≤ 6
      · have HI := Lib.hid (fun wx => inM_any p 2 6 wx true (by simpa using hp))
        by_cases hnp : (k : Int) = p
        · have hq : ((k : Int) == p) = true := by simpa using hnp
          have Hf : Hid (r = decide (x = 0)) := Lib.hid (by
            rw [Hr.out, round_ok hp (by rw [← Hn.out]; exact hnp) (fun j hj => hall.out j hj (by rw [Hn.out]; exact hj)), hx.out, List.take_of_length_le (by rw [Hn.out]; exact Nat.le_refl _)])
          clear hp hnp
          go_wp2_with fail
          refine (HI.out _).mono ?_
          rintro e _w ⟨rfl, rfl⟩
          go_wp2_with fail
          go_ret
          exact ⟨by rw [Hf.out]; rfl, rfl⟩
        · have hq : ((k : Int) == p) = false := by simpa using hnp
          have Hf : Hid (r = false) := Lib.hid (by rw [Hr.out]; exact round_n (by rw [← Hn.out]; exact hnp))
          clear hp hnp
          go_wp2_with fail
          refine (HI.out _).mono ?_
          rintro e _w ⟨rfl, rfl⟩
          go_wp2_with fail
          go_ret
          exact ⟨by rw [Hf.out]; rfl, rfl⟩
      · have HI := Lib.hid (fun wx => inM_any p 2 6 wx false (by simp only [decide_eq_false hp]))
        have Hf : Hid (r = false) := Lib.hid (by rw [Hr.out]; exact round_p hp)
        clear hp
        go_wp2_with fail
        refine (HI.out _).mono ?_
        rintro e _w ⟨rfl, rfl⟩
        go_wp2_with fail
        go_ret
        exact ⟨by rw [Hf.out]; rfl, rfl⟩
end Go.Proofs.YtmfammgdcdlceaaDoor
