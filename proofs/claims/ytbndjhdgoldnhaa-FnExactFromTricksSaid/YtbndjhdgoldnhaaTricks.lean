/-
  FromTricks, both sides.
-/
import Derived.Test.YtbndjhdgoldnhaaIn
namespace Go.Proofs.Ytbndjhdgoldnhaa
open Go.RowKit

def inW (n : Int) : Bool := decide (0 ≤ n ∧ n ≤ 200)
def trickRow (m s : Int) (zs : List Int) : List Int := zs.map fun x => m * x - s
def fromTricks (zs : List Int) : List Int := if 2 ≤ zs.length ∧ zs.length ≤ 6 ∧ zs.all inW = true then trickRow zs.length zs.sum zs else []
theorem trick_bad {zs : List Int} (k : Nat) (h : k < zs.length) (hb : ¬ (0 ≤ zs[k] ∧ zs[k] ≤ 200)) : fromTricks zs = [] := by
  have e : zs.all inW = false := by
    rw [List.all_eq_false]
    exact ⟨zs[k], List.getElem_mem _, by unfold inW; simpa using hb⟩
  unfold fromTricks; rw [e]; simp
theorem trick_n {zs : List Int} (h : ¬ (2 ≤ zs.length ∧ zs.length ≤ 6)) : fromTricks zs = [] := by
  unfold fromTricks; rw [if_neg (fun q => h ⟨q.1, q.2.1⟩)]
theorem all_inW {zs : List Int} (ha : ∀ j (hj : j < zs.length), 0 ≤ zs[j] ∧ zs[j] ≤ 200) : zs.all inW = true := by
  rw [List.all_eq_true]
  intro x hx
  obtain ⟨j, hj, rfl⟩ := List.getElem_of_mem hx
  unfold inW; simpa using ha j hj
theorem trick_ok {zs : List Int} (h : 2 ≤ zs.length ∧ zs.length ≤ 6) (ha : ∀ j (hj : j < zs.length), 0 ≤ zs[j] ∧ zs[j] ≤ 200) : fromTricks zs = trickRow zs.length zs.sum zs := by
  unfold fromTricks; rw [if_pos ⟨h.1, h.2, all_inW ha⟩]
theorem trick_step (m s : Int) (zs : List Int) (k : Nat) (h : k < zs.length) : trickRow m s (zs.take (k + 1)) = trickRow m s (zs.take k) ++ [m * zs[k] - s] := by
  unfold trickRow; rw [List.take_succ_eq_append_getElem h, List.map_append]; rfl
theorem trick_len (zs : List Int) : (fromTricks zs).length ≤ zs.length := by
  unfold fromTricks; split
  · simp [trickRow]
  · simp
theorem sum_takeW (zs : List Int) (k : Nat) (h : k < zs.length) : (zs.take (k + 1)).sum = (zs.take k).sum + zs[k] := by
  rw [List.take_succ_eq_append_getElem h, List.sum_append]; simp
theorem sum_bd {zs : List Int} (ha : ∀ j (hj : j < zs.length), 0 ≤ zs[j] ∧ zs[j] ≤ 200) (k : Nat) (hk : k ≤ zs.length) : 0 ≤ (zs.take k).sum ∧ (zs.take k).sum ≤ 200 * (k : Int) := by
  induction k with
  | zero => simp
  | succ k ih =>
    rw [sum_takeW zs k (by omega)]
    have := ih (by omega)
    have := ha k (by omega)
    omega
theorem tricks_wf {zs : List Int} (h : zs.length ≤ 6) (ha : ∀ j (hj : j < zs.length), 0 ≤ zs[j] ∧ zs[j] ≤ 200) : ∀ x ∈ trickRow zs.length zs.sum zs, (Lit.int .i64 x).wf = true := by
  intro x hx
  obtain ⟨y, hy, rfl⟩ := List.mem_map.1 hx
  obtain ⟨j, hj, rfl⟩ := List.getElem_of_mem hy
  have h1 := ha j hj
  have h2 := sum_bd ha zs.length (Nat.le_refl _)
  rw [List.take_length] at h2
  have h3 : 0 ≤ (zs.length : Int) * zs[j] := Int.mul_nonneg (by omega) h1.1
  have h4 : (zs.length : Int) * zs[j] ≤ 6 * 200 := by
    have a1 := Int.mul_le_mul (show (zs.length : Int) ≤ 6 by omega) h1.2 h1.1 (by omega)
    exact a1
  exact WalkArith.wf_i64 (by omega)

theorem noWin_any (n : Int) (w : World) (r : Bool) (hr : r = !decide (0 ≤ n ∧ n ≤ 200)) :
    Calls Try.prog 39 #[.int .i64 n] w fun e w' => e = .returned (.bool r) ∧ w = w' := by
  have HI := Lib.hid (inR_any n 0 200 w _ rfl)
  generalize decide (0 ≤ n ∧ n ≤ 200) = q at *
  subst hr
  go_enter Try.func39, Try.ntmps39
  go_wp2_with fail
  refine HI.out.mono ?_
  rintro e _w ⟨rfl, rfl⟩
  go_wp2_with fail
  go_ret
  exact ⟨rfl, rfl⟩
set_option maxRecDepth 100000 in
theorem indexNoWin_any (v : Value) (zs : List Int) (b : Nat) (w : World) (h : RdAt .i64 w v zs b) (hl : zs.length ≤ 1099511627776) :
    Calls Try.prog 48 #[v, .func (.func 39) #[] #[]] w fun e w' => (∃ r : Int, e = .returned (.int .i64 r) ∧ Hid (decide (r ≥ 0) = !zs.all inW)) ∧ w = w' := by
  obtain ⟨a, cap, rfl, -, -, hcell⟩ := h
  obtain ⟨n, hn⟩ : ∃ n, n = zs.length := ⟨_, rfl⟩
  have Hn := Lib.hid hn
  rw [← hn] at hl ⊢
  clear hn
  obtain ⟨q, hq⟩ : ∃ q, q = zs.all inW := ⟨_, rfl⟩
  have Hq := Lib.hid hq
  rw [← hq]
  clear hq
  go_enter Try.func48, Try.ntmps48
  go_wp2_with fail
  go_loop [5, 8] (fun _ i => ∃ k : Nat, k ≤ n ∧ i = .int .i64 k ∧ Hid (∀ j (hj : j < zs.length), j < k → inW zs[j] = true)) (fun _ i => n - (intOf i).toNat)
  case atStart => exact ⟨0, Nat.zero_le _, rfl, Lib.hid (fun j _ h => by omega)⟩
  case round =>
    obtain ⟨k, hk, rfl, hno⟩ := hrel
    by_cases hlt : k < n
    · have hz : k < zs.length := by rw [← Hn.out]; exact hlt
      rcases hcell with h0 | ⟨off, rfl, hc⟩
      · subst h0; simp at hz
      obtain ⟨y, hy⟩ : ∃ y, Hid (y = zs[k]) := ⟨_, Lib.hid rfl⟩
      have h1 : w.cell? ⟨b, off + k, none⟩ = some (.int .i64 y) := by rw [hc k hz, hy.out]
      clear hc
      by_cases hyr : 0 ≤ y ∧ y ≤ 200
      · have HC := Lib.hid (noWin_any y w false (by rw [decide_eq_true hyr]; rfl))
        have hno2 : Hid (∀ j (hj : j < zs.length), j < k + 1 → inW zs[j] = true) := Lib.hid (fun j hj h => by
          by_cases ej : j = k
          · subst ej; rw [← hy.out]; unfold inW; rw [decide_eq_true hyr]
          · exact hno.out j hj (by omega))
        clear hyr
        go_wp2_with fail
        refine HC.out.mono ?_
        rintro e _w ⟨rfl, rfl⟩
        go_wp2_with fail
        go_round
        case rel => exact ⟨k + 1, by omega, by go_num, hno2⟩
        case measure => simp [intOf]; omega
      · have HC := Lib.hid (noWin_any y w true (by rw [decide_eq_false hyr]; rfl))
        have hr1 : Hid (q = false) := Lib.hid (by
          rw [Hq.out, List.all_eq_false]
          exact ⟨zs[k], List.getElem_mem _, by rw [← hy.out]; unfold inW; rw [decide_eq_false hyr]; simp⟩)
        clear hyr
        go_wp2_with fail
        refine HC.out.mono ?_
        rintro e _w ⟨rfl, rfl⟩
        go_wp2_with fail
        go_ret
        exact ⟨⟨_, rfl, Lib.hid (by rw [hr1.out]; simp)⟩, rfl⟩
    · obtain rfl : k = n := by omega
      have hr1 : Hid (q = true) := Lib.hid (by
        rw [Hq.out, List.all_eq_true]
        intro x hx
        obtain ⟨j, hj, rfl⟩ := List.getElem_of_mem hx
        exact hno.out j hj (by rw [Hn.out]; exact hj))
      go_wp2_with fail
      go_ret
      exact ⟨⟨_, rfl, Lib.hid (by rw [hr1.out]; simp)⟩, rfl⟩
theorem containsNoWin_any (v : Value) (zs : List Int) (b : Nat) (w : World) (h : RdAt .i64 w v zs b) (hl : zs.length ≤ 1099511627776) (r : Bool) (hr : r = !zs.all inW) :
    Calls Try.prog 38 #[v, .func (.func 39) #[] #[]] w fun e w' => e = .returned (.bool r) ∧ w = w' := by
  subst hr
  have HC := Lib.hid (indexNoWin_any v zs b w h hl)
  obtain ⟨p0, cap0, rfl, -⟩ := id h
  generalize zs.all inW = q at *
  clear h
  go_enter Try.func38, Try.ntmps38
  go_wp2_with fail
  refine HC.out.mono ?_
  rintro e _w ⟨⟨r, rfl, hr⟩, rfl⟩
  go_wp2_with fail
  go_ret
  exact ⟨by rw [← hr.out]; rfl, rfl⟩

set_option maxRecDepth 100000 in
set_option maxHeartbeats 2000000 in
theorem fromTricks_any (v : Value) (zs : List Int) (b : Nat) (w : World) (h : RdAt .i64 w v zs b) (hl : zs.length ≤ 1048576) :
    Calls Try.prog 22 #[v] w fun e w' => ∃ v' b', e = .returned v' ∧ w.heap.size ≤ b' ∧ WrAt .i64 w' v' (fromTricks zs) b' ∧ Below w.heap.size w w' := by
  obtain ⟨i0, hi, hz0, hz1, hz2⟩ := info_parts info_i64
  have hown0 := World.ownsRow_lit (base := w.heap.size) (e := 3) (size := 1) w #[] 0 (Nat.le_refl _) (Nat.zero_le _) rfl
  have B0 := fun o => (Below.refl w.heap.size w).alloc (Nat.le_refl _) o
  have h0 := h.below (B0 (.cells #[] 3))
  obtain ⟨W, hW⟩ : ∃ W, W = w.alloc (.cells #[] 3) := ⟨_, rfl⟩
  have HW := Lib.hid hW
  rw [← hW] at hown0 h0
  have hBW : Below w.heap.size w W := by rw [hW]; exact B0 _
  clear hW B0
  obtain ⟨a, cap, rfl, -, -, hcell⟩ := id h
  by_cases hlen : 2 ≤ (zs.length : Int) ∧ (zs.length : Int) ≤ 6
  · have HI := Lib.hid (fun wx => inR_any (zs.length : Int) 2 6 wx true (by simpa using hlen))
    cases hall : zs.all inW with
    | false =>
      have HC := Lib.hid (containsNoWin_any _ zs b W h0 (by omega) true (by rw [hall]; rfl))
      have he : fromTricks zs = [] := by unfold fromTricks; rw [hall]; simp
      rw [he]
      have HO := Lib.hid (own_wr (k := .i64) (zs := []) hown0 (by simp))
      clear he hall hcell h0 h hown0 hlen
      generalize zs.length = n at *
      go_enter Try.func22, Try.ntmps22
      go_wp2_with fail
      rw [← HW.out]
      refine (HI.out _).mono ?_
      rintro e _w ⟨rfl, rfl⟩
      go_wp2_with fail
      refine HC.out.mono ?_
      rintro e _w ⟨rfl, rfl⟩
      go_wp2_with fail
      go_ret
      obtain ⟨b2, hb2, hw2⟩ := HO.out
      exact ⟨_, b2, rfl, hb2, hw2, hBW⟩
    | true =>
      have HC := Lib.hid (containsNoWin_any _ zs b W h0 (by omega) false (by rw [hall]; rfl))
      have hrng : ∀ j (hj : j < zs.length), 0 ≤ zs[j] ∧ zs[j] ≤ 200 := fun j hj => by
        have := List.all_eq_true.1 hall zs[j] (List.getElem_mem _)
        unfold inW at this; simpa using this
      have Hrng := Lib.hid hrng
      have he : fromTricks zs = trickRow zs.length zs.sum zs := trick_ok ⟨by omega, by omega⟩ hrng
      rw [he]
      have HWf := Lib.hid (tricks_wf (zs := zs) (by omega) hrng)
      obtain ⟨S, hS⟩ : ∃ S, S = zs.sum := ⟨_, rfl⟩
      have hSb := sum_bd hrng zs.length (Nat.le_refl _)
      rw [List.take_length, ← hS] at hSb
      have HS := Lib.hid hS
      rw [← hS] at HWf ⊢
      clear hS he hall hrng
      obtain ⟨n, hn⟩ : ∃ n, n = zs.length := ⟨_, rfl⟩
      have Hn := Lib.hid hn
      rw [← hn] at hl hSb HI HC HWf hlen ⊢
      obtain ⟨hlen1, hlen2⟩ := hlen
      obtain ⟨hS0, hS1⟩ := hSb
      clear hn h0 h
      go_enter Try.func22, Try.ntmps22
      go_wp2_with fail
      rw [← HW.out]
      refine (HI.out _).mono ?_
      rintro e _w ⟨rfl, rfl⟩
      go_wp2_with fail
      refine HC.out.mono ?_
      rintro e _w ⟨rfl, rfl⟩
      go_wp2_with fail
      go_loop [5, 7, 23] (fun l _ i => ∃ (k : Nat) (x : Int), k ≤ n ∧ i = .int .i64 k ∧ l = .int .i64 x ∧ 0 ≤ x ∧ x ≤ 200 * (k : Int) ∧ Hid (x = (zs.take k).sum)) (fun _ _ i => n - (intOf i).toNat)
      case atStart => exact ⟨0, 0, Nat.zero_le _, rfl, rfl, by omega, by omega, Lib.hid rfl⟩
      case round =>
        obtain ⟨k, x, hk, rfl, rfl, hx0, hx1, hx⟩ := hrel
        by_cases hlt : k < n
        · have hz : k < zs.length := by rw [← Hn.out]; exact hlt
          rcases hcell with h0 | ⟨off, rfl, hc⟩
          · subst h0; simp at hz
          obtain ⟨y, hy⟩ : ∃ y, Hid (y = zs[k]) := ⟨_, Lib.hid rfl⟩
          have h1 : W.cell? ⟨b, off + k, none⟩ = some (.int .i64 y) := by
            have h1 := hc k hz
            rw [hBW.cell (World.block_lt_of_cell? _ _ h1), h1, hy.out]
          have hyr : 0 ≤ y ∧ y ≤ 200 := by rw [hy.out]; exact Hrng.out k hz
          obtain ⟨hy0, hy1⟩ := hyr
          have hs2 : Hid (x + y = (zs.take (k + 1)).sum) := Lib.hid (by rw [sum_takeW zs k hz, ← hx.out, ← hy.out])
          clear hc
          go_wp2_with fail
          go_round
          case rel => exact ⟨k + 1, x + y, by omega, by go_num, by go_num, by omega, by omega, hs2⟩
          case measure => simp [intOf]; omega
        · obtain rfl : k = n := by omega
          have hxS : x = S := by rw [hx.out, HS.out, List.take_of_length_le (by rw [Hn.out]; exact Nat.le_refl _)]
          subst hxS
          clear hx hlt
          go_wp2_with fail
          go_loopw [3, 9, 33] (fun o _ i wr => ∃ (j : Nat), j ≤ k ∧ i = .int .i64 j ∧ Below w.heap.size w wr ∧ wr.ownsRow w.heap.size 3 1 o (trickRow k x (zs.take j)).length ((trickRow k x (zs.take j)).map (Value.int .i64))) (fun _ _ i _ => k - (intOf i).toNat)
          case atStart => exact ⟨0, Nat.zero_le _, rfl, hBW, hown0⟩
          case round =>
            clear hown0
            obtain ⟨j, hj, rfl, hb2, hown⟩ := hrel
            by_cases hjk : j < k
            · have hz : j < zs.length := by rw [← Hn.out]; exact hjk
              rcases hcell with h0 | ⟨off, rfl, hc⟩
              · subst h0; simp at hz
              obtain ⟨y, hy⟩ : ∃ y, Hid (y = zs[j]) := ⟨_, Lib.hid rfl⟩
              have h1 : wr.cell? ⟨b, off + j, none⟩ = some (.int .i64 y) := by
                have h1 := hc j hz
                rw [hb2.cell (World.block_lt_of_cell? _ _ h1), h1, hy.out]
              have hyr : 0 ≤ y ∧ y ≤ 200 := by rw [hy.out]; exact Hrng.out j hz
              obtain ⟨hy0, hy1⟩ := hyr
              have hm0 : 0 ≤ (k : Int) * y := Int.mul_nonneg (by omega) hy0
              have hm1 : (k : Int) * y ≤ 6 * 200 := Int.mul_le_mul (by omega) hy1 hy0 (by omega)
              have hst : Hid (trickRow k x (zs.take (j + 1)) = trickRow k x (zs.take j) ++ [(k : Int) * y - x]) := Lib.hid (by rw [trick_step _ _ zs j hz, ← hy.out])
              have hTl : (trickRow k x (zs.take j)).length ≤ 6 := by simp [trickRow]; omega
              generalize trickRow k x (zs.take j) = T at *
              clear hc hx0 hx1
              obtain ⟨M, hM⟩ : ∃ M, M = (k : Int) * y := ⟨_, rfl⟩
              have HM := Lib.hid hM
              have hsz := hb2.size
              go_wp2_with (at_builtin; refine wpList_append_own _ rfl _ _ 22 rfl w.heap.size 3 i0 (.int .i64 0) 1 8 Try.underlying22 hi hz0 hz1 hz2 rfl (by decide) _ _ _ rfl (hown.alloc _) ⟨wr.heap.size, 0, none⟩ 1 1 [.int .i64 ((k : Int) * y - x)] rfl rfl (cell_one_new _ _ _) (one_cell _ _) ?e3 ?e4 (by simp; omega) ?_)
              case e3 => unfold maxLen; omega
              case e4 => omega
              intro v2 w2 hown2 hgr2 _
              have hb3 : Below w.heap.size w w2 := (hb2.alloc hsz _).grown hgr2 (by simp; omega) (own_block hown)
              have hown3 : w2.ownsRow w.heap.size 3 1 v2 (trickRow k x (zs.take (j + 1))).length ((trickRow k x (zs.take (j + 1))).map (Value.int .i64)) := by
                rw [hst.out]; simpa using hown2
              go_wp2_with fail
              go_roundw
              case rel => exact ⟨j + 1, by omega, by go_num, hb3, hown3⟩
              case measure => simp [intOf]; omega
            · obtain rfl : j = k := by omega
              have hT : Hid (zs.take j = zs) := Lib.hid (List.take_of_length_le (by rw [Hn.out]; exact Nat.le_refl _))
              rw [hT.out] at hown
              have HO := Lib.hid (own_wr hown HWf.out)
              clear hown
              go_wp2_with fail
              go_ret
              obtain ⟨b2, hb2', hw2⟩ := HO.out
              exact ⟨_, b2, rfl, hb2', hw2, hb2⟩
  · have HI := Lib.hid (fun wx => inR_any (zs.length : Int) 2 6 wx false (by simp only [decide_eq_false hlen]))
    have he : fromTricks zs = [] := trick_n (by omega)
    rw [he]
    have HO := Lib.hid (own_wr (k := .i64) (zs := []) hown0 (by simp))
    clear he hcell h0 h hown0 hlen
    generalize zs.length = n at *
    go_enter Try.func22, Try.ntmps22
    go_wp2_with fail
    rw [← HW.out]
    refine (HI.out _).mono ?_
    rintro e _w ⟨rfl, rfl⟩
    go_wp2_with fail
    go_ret
    obtain ⟨b2, hb2, hw2⟩ := HO.out
    exact ⟨_, b2, rfl, hb2, hw2, hBW⟩
set_option maxRecDepth 100000 in
set_option maxHeartbeats 2000000 in
theorem sFromTricks_any (v : Value) (zs : List Int) (b : Nat) (w : World) (h : RdAt .i64 w v zs b) (hl : zs.length ≤ 1048576) :
    Calls Try.prog 21 #[v] w fun e w' => ∃ v' b', e = .returned v' ∧ w.heap.size ≤ b' ∧ WrAt .i64 w' v' (fromTricks zs) b' ∧ Below w.heap.size w w' := by
  obtain ⟨i0, hi, hz0, hz1, hz2⟩ := info_parts info_i64
  have hown0 := World.ownsRow_lit (base := w.heap.size) (e := 3) (size := 1) w #[] 0 (Nat.le_refl _) (Nat.zero_le _) rfl
  have hBW := (Below.refl w.heap.size w).alloc (Nat.le_refl _) (.cells #[] 3)
  have HO := Lib.hid (own_wr (k := .i64) (zs := []) hown0 (by simp))
  obtain ⟨a, cap, rfl, -, -, hcell⟩ := h
  obtain ⟨n, hn⟩ : ∃ n, n = zs.length := ⟨_, rfl⟩
  have Hn := Lib.hid hn
  rw [← hn] at hl ⊢
  obtain ⟨R, hR⟩ : ∃ R, R = fromTricks zs := ⟨_, rfl⟩
  have HR := Lib.hid hR
  rw [← hR]
  clear hn hR
  go_enter Try.func21, Try.ntmps21
  go_wp2_with fail
  go_loop [3, 4] (fun l i => ∃ (k : Nat) (x : Int), k ≤ n ∧ i = .int .i64 k ∧ l = .int .i64 x ∧ 0 ≤ x ∧ x ≤ 200 * (k : Int) ∧ Hid (x = (zs.take k).sum) ∧ Hid (∀ j (hj : j < zs.length), j < k → 0 ≤ zs[j] ∧ zs[j] ≤ 200)) (fun _ i => n - (intOf i).toNat)
  case atStart => exact ⟨0, 0, Nat.zero_le _, rfl, rfl, by omega, by omega, Lib.hid rfl, Lib.hid (fun j _ h => by omega)⟩
  case round =>
    obtain ⟨k, x, hk, rfl, rfl, hx0, hx1, hx, hall⟩ := hrel
    by_cases hlt : k < n
    · have hz : k < zs.length := by rw [← Hn.out]; exact hlt
      rcases hcell with h0 | ⟨off, rfl, hc⟩
      · subst h0; simp at hz
      obtain ⟨y, hy⟩ : ∃ y, Hid (y = zs[k]) := ⟨_, Lib.hid rfl⟩
      have h1 : w.cell? ⟨b, off + k, none⟩ = some (.int .i64 y) := by rw [hc k hz, hy.out]
      clear hc
      by_cases hyr : 0 ≤ y ∧ y ≤ 200
      · have HJ := Lib.hid (fun wx => inM_any y 0 200 wx true (by simpa using hyr))
        have hs2 : Hid (x + y = (zs.take (k + 1)).sum) := Lib.hid (by rw [sum_takeW zs k hz, ← hx.out, ← hy.out])
        have hall2 : Hid (∀ j (hj : j < zs.length), j < k + 1 → 0 ≤ zs[j] ∧ zs[j] ≤ 200) := Lib.hid (fun j hj hjk => by
          by_cases e : j = k
          · subst e; rw [← hy.out]; exact hyr
          · exact hall.out j hj (by omega))
        obtain ⟨hy0, hy1⟩ := hyr
        clear hown0 hBW
        go_wp2_with fail
        refine (HJ.out _).mono ?_
        rintro e _w ⟨rfl, rfl⟩
        go_wp2_with fail
        go_round
        case rel => exact ⟨k + 1, x + y, by omega, by go_num, by go_num, by omega, by omega, hs2, hall2⟩
        case measure => simp [intOf]; omega
      · have HJ := Lib.hid (fun wx => inM_any y 0 200 wx false (by simp only [decide_eq_false hyr]))
        have Hf : Hid (R = []) := Lib.hid (by rw [HR.out]; exact trick_bad k hz (by rw [← hy.out]; exact hyr))
        clear hyr hown0
        go_wp2_with fail
        refine (HJ.out _).mono ?_
        rintro e _w ⟨rfl, rfl⟩
        go_wp2_with fail
        go_ret
        obtain ⟨b2, hb2, hw2⟩ := HO.out
        exact ⟨_, b2, rfl, hb2, by rw [Hf.out]; exact hw2, hBW⟩
    · obtain rfl : k = n := by omega
      have hrng : ∀ j (hj : j < zs.length), 0 ≤ zs[j] ∧ zs[j] ≤ 200 := fun j hj => hall.out j hj (by rw [Hn.out]; exact hj)
      have hxS : x = zs.sum := by rw [hx.out, List.take_of_length_le (by rw [Hn.out]; exact Nat.le_refl _)]
      by_cases hlen : 2 ≤ (k : Int) ∧ (k : Int) ≤ 6
      · have HI := Lib.hid (fun wx => inM_any (k : Int) 2 6 wx true (by simpa using hlen))
        have HRt : Hid (R = trickRow k x zs) := Lib.hid (by rw [HR.out, trick_ok (by rw [← Hn.out]; omega) hrng, ← Hn.out, hxS])
        have HWf : Hid (∀ y ∈ R, (Lit.int .i64 y).wf = true) := Lib.hid (by rw [HRt.out, hxS, Hn.out]; exact tricks_wf (by rw [← Hn.out]; omega) hrng)
        have Hrng := Lib.hid hrng
        obtain ⟨hlen1, hlen2⟩ := hlen
        clear hrng hxS hx hall hlt
        go_wp2_with fail
        go_loopw [5, 6] (fun o i wr => ∃ (j : Nat), j ≤ k ∧ i = .int .i64 j ∧ Below w.heap.size w wr ∧ wr.ownsRow w.heap.size 3 1 o (trickRow k x (zs.take j)).length ((trickRow k x (zs.take j)).map (Value.int .i64))) (fun _ i _ => k - (intOf i).toNat)
        case atStart => exact ⟨0, Nat.zero_le _, rfl, hBW, hown0⟩
        case round =>
          clear hown0 hBW
          obtain ⟨j, hj, rfl, hb2, hown⟩ := hrel
          by_cases hjk : j < k
          · have hz : j < zs.length := by rw [← Hn.out]; exact hjk
            rcases hcell with h0 | ⟨off, rfl, hc⟩
            · subst h0; simp at hz
            obtain ⟨y, hy⟩ : ∃ y, Hid (y = zs[j]) := ⟨_, Lib.hid rfl⟩
            have h1 : wr.cell? ⟨b, off + j, none⟩ = some (.int .i64 y) := by
              have h1 := hc j hz
              rw [hb2.cell (World.block_lt_of_cell? _ _ h1), h1, hy.out]
            have hyr : 0 ≤ y ∧ y ≤ 200 := by rw [hy.out]; exact Hrng.out j hz
            obtain ⟨hy0, hy1⟩ := hyr
            have hm0 : 0 ≤ (k : Int) * y := Int.mul_nonneg (by omega) hy0
            have hm1 : (k : Int) * y ≤ 6 * 200 := Int.mul_le_mul (by omega) hy1 hy0 (by omega)
            have hst : Hid (trickRow k x (zs.take (j + 1)) = trickRow k x (zs.take j) ++ [(k : Int) * y - x]) := Lib.hid (by rw [trick_step _ _ zs j hz, ← hy.out])
            have hTl : (trickRow k x (zs.take j)).length ≤ 6 := by simp [trickRow]; omega
            generalize trickRow k x (zs.take j) = T at *
            clear hc
            have hsz := hb2.size
            go_wp2_with fail
            refine (HI.out _).mono ?_
            rintro e _w ⟨rfl, rfl⟩
            go_wp2_with (at_builtin; refine wpList_append_own _ rfl _ _ 22 rfl w.heap.size 3 i0 (.int .i64 0) 1 8 Try.underlying22 hi hz0 hz1 hz2 rfl (by decide) _ _ _ rfl (hown.alloc _) ⟨wr.heap.size, 0, none⟩ 1 1 [.int .i64 ((k : Int) * y - x)] rfl rfl (cell_one_new _ _ _) (one_cell _ _) ?e3 ?e4 (by simp; omega) ?_)
            case e3 => unfold maxLen; omega
            case e4 => omega
            intro v2 w2 hown2 hgr2 _
            have hb3 : Below w.heap.size w w2 := (hb2.alloc hsz _).grown hgr2 (by simp; omega) (own_block hown)
            have hown3 : w2.ownsRow w.heap.size 3 1 v2 (trickRow k x (zs.take (j + 1))).length ((trickRow k x (zs.take (j + 1))).map (Value.int .i64)) := by
              rw [hst.out]; simpa using hown2
            go_wp2_with fail
            go_roundw
            case rel => exact ⟨j + 1, by omega, by go_num, hb3, hown3⟩
            case measure => simp [intOf]; omega
          · obtain rfl : j = k := by omega
            have hT : Hid (trickRow j x (zs.take j) = R) := Lib.hid (by rw [HRt.out, List.take_of_length_le (by rw [Hn.out]; exact Nat.le_refl _)])
            rw [hT.out] at hown
            have HO := Lib.hid (own_wr hown HWf.out)
            clear hown
            go_wp2_with fail
            go_ret
            obtain ⟨b2, hb2', hw2⟩ := HO.out
            exact ⟨_, b2, rfl, hb2', hw2, hb2⟩
      · have HI := Lib.hid (fun wx => inM_any (k : Int) 2 6 wx false (by simp only [decide_eq_false hlen]))
        have HRt : Hid (R = []) := Lib.hid (by rw [HR.out]; exact trick_n (by rw [← Hn.out]; omega))
        clear hrng hxS hx hall hlt hown0 hlen
        go_wp2_with fail
        go_loop [5, 6] (fun o i => o = .slice (some ⟨w.heap.size, 0, none⟩) 0 0 ∧ i = .int .i64 0) (fun _ _ => 0)
        case atStart => exact ⟨rfl, rfl⟩
        case round =>
          obtain ⟨rfl, rfl⟩ := hrel
          by_cases hk0 : k = 0
          · have hq : ¬ (0 : Int) < k := by omega
            clear hk0
            go_wp2_with fail
            go_ret
            obtain ⟨b2, hb2, hw2⟩ := HO.out
            exact ⟨_, rfl, b2, hb2, by rw [HRt.out]; exact hw2, hBW⟩
          · have hk1 : (0 : Int) < k := by omega
            go_wp2_with fail
            refine (HI.out _).mono ?_
            rintro e _w ⟨rfl, rfl⟩
            go_wp2_with fail
            go_ret
            obtain ⟨b2, hb2, hw2⟩ := HO.out
            exact ⟨_, b2, rfl, hb2, by rw [HRt.out]; exact hw2, hBW⟩
end Go.Proofs.Ytbndjhdgoldnhaa
