/-
  extremes over a slice, HighBid, both sides.
-/
import Derived.Test.YtfajdbfpacmclaaDoorMarksI
import Derived.Test.YtfajdbfpacmclaaDoorMinMax
namespace Go.Proofs.YtfajdbfpacmclaaDoor
open Go.RowKit

def hiI (g : Int) (zs : List Int) : Int := zs.foldl maxI g
def loI (g : Int) (zs : List Int) : Int := zs.foldl minI g
theorem hi_take (g : Int) (zs : List Int) (k : Nat) (h : k < zs.length) : hiI g (zs.take (k + 1)) = maxI (hiI g (zs.take k)) zs[k] := by
  unfold hiI; rw [List.take_succ_eq_append_getElem h, List.foldl_append]; rfl
theorem lo_take (g : Int) (zs : List Int) (k : Nat) (h : k < zs.length) : loI g (zs.take (k + 1)) = minI (loI g (zs.take k)) zs[k] := by
  unfold loI; rw [List.take_succ_eq_append_getElem h, List.foldl_append]; rfl

set_option maxRecDepth 100000 in
set_option maxHeartbeats 1000000 in
theorem extremes_any (g : Int) (v : Value) (zs : List Int) (b : Nat) (w : World) (h : RdAt .i64 w v zs b) (hl : zs.length ≤ 1099511627776) :
    Calls Tryd.prog 32 #[.int .i64 g, v] w fun e w' => e = .returned (.tuple #[.int .i64 (loI g zs), .int .i64 (hiI g zs)]) ∧ w = w' := by
  obtain ⟨a, cap, rfl, -, -, hcell⟩ := h
  obtain ⟨n, hn⟩ : ∃ n, n = zs.length := ⟨_, rfl⟩
  have Hn := Lib.hid hn
  rw [← hn] at hl ⊢
  clear hn
  go_enter Tryd.func32, Tryd.ntmps32
  go_wp2_with fail
  go_loop [6, 7, 14] (fun lo hi i => ∃ k : Nat, k ≤ n ∧ i = .int .i64 k ∧ lo = .int .i64 (loI g (zs.take k)) ∧ hi = .int .i64 (hiI g (zs.take k))) (fun _ _ i => n - (intOf i).toNat)
  case atStart => exact ⟨0, Nat.zero_le _, rfl, rfl, rfl⟩
  case round =>
    obtain ⟨k, hk, rfl, rfl, rfl⟩ := hrel
    by_cases hlt : k < n
    · have hz : k < zs.length := by rw [← Hn.out]; exact hlt
      rcases hcell with h0 | ⟨off, rfl, hc⟩
      · subst h0; simp at hz
      obtain ⟨y, hy⟩ : ∃ y, Hid (y = zs[k]) := ⟨_, Lib.hid rfl⟩
      have h1 : w.cell? ⟨b, off + k, none⟩ = some (.int .i64 y) := by rw [hc k hz, hy.out]
      have e1 := lo_take g zs k hz
      have e2 := hi_take g zs k hz
      rw [← hy.out] at e1 e2
      have E1 := Lib.hid e1
      have E2 := Lib.hid e2
      clear hc e1 e2
      generalize loI g (zs.take k) = lo at *
      generalize hiI g (zs.take k) = hi at *
      by_cases c1 : y < lo
      · have m1 : Hid (minI lo y = y) := Lib.hid (if_pos c1)
        by_cases c2 : hi < y
        · have m2 : Hid (maxI hi y = y) := Lib.hid (if_pos c2)
          go_wp2_with fail
          go_round
          case rel => exact ⟨k + 1, by omega, by go_num, by rw [E1.out, m1.out], by rw [E2.out, m2.out]⟩
          case measure => simp [intOf]; omega
        · have m2 : Hid (maxI hi y = hi) := Lib.hid (if_neg c2)
          go_wp2_with fail
          go_round
          case rel => exact ⟨k + 1, by omega, by go_num, by rw [E1.out, m1.out], by rw [E2.out, m2.out]⟩
          case measure => simp [intOf]; omega
      · have m1 : Hid (minI lo y = lo) := Lib.hid (if_neg c1)
        by_cases c2 : hi < y
        · have m2 : Hid (maxI hi y = y) := Lib.hid (if_pos c2)
          go_wp2_with fail
          go_round
          case rel => exact ⟨k + 1, by omega, by go_num, by rw [E1.out, m1.out], by rw [E2.out, m2.out]⟩
          case measure => simp [intOf]; omega
        · have m2 : Hid (maxI hi y = hi) := Lib.hid (if_neg c2)
          go_wp2_with fail
          go_round
          case rel => exact ⟨k + 1, by omega, by go_num, by rw [E1.out, m1.out], by rw [E2.out, m2.out]⟩
          case measure => simp [intOf]; omega
    · obtain rfl : k = n := by omega
      have e : Hid (zs.take k = zs) := Lib.hid (List.take_of_length_le (by rw [Hn.out]; exact Nat.le_refl _))
      go_wp2_with fail
      go_ret2
      exact ⟨by rw [e.out]; rfl, rfl⟩
set_option maxRecDepth 100000 in
set_option maxHeartbeats 1000000 in
theorem highBid_any (v : Value) (zs : List Int) (b : Nat) (w : World) (h : RdAt .i64 w v zs b) (hl : zs.length ≤ 1099511627776) :
    Calls Tryd.prog 15 #[v] w fun e w' => e = .returned (.int .i64 (hiI 0 zs)) ∧ w = w' := by
  go_enter Tryd.func15, Tryd.ntmps15
  go_wp2_with fail
  refine (extremes_any 0 v zs b w h hl).mono ?_
  rintro e _w ⟨rfl, rfl⟩
  go_wp2_with fail
  go_ret
  exact ⟨rfl, rfl⟩
set_option maxRecDepth 100000 in
set_option maxHeartbeats 1000000 in
theorem sHighBid_any (v : Value) (zs : List Int) (b : Nat) (w : World) (h : RdAt .i64 w v zs b) (hl : zs.length ≤ 1099511627776) :
    Calls Tryd.prog 39 #[v] w fun e w' => e = .returned (.int .i64 (hiI 0 zs)) ∧ w = w' := by
  obtain ⟨a, cap, rfl, -, -, hcell⟩ := h
  obtain ⟨n, hn⟩ : ∃ n, n = zs.length := ⟨_, rfl⟩
  have Hn := Lib.hid hn
  rw [← hn] at hl ⊢
  clear hn
  go_enter Tryd.func39, Tryd.ntmps39
  go_wp2_with fail
  go_loop [3, 4] (fun hi i => ∃ k : Nat, k ≤ n ∧ i = .int .i64 k ∧ hi = .int .i64 (hiI 0 (zs.take k))) (fun _ i => n - (intOf i).toNat)
  case atStart => exact ⟨0, Nat.zero_le _, rfl, rfl⟩
  case round =>
    obtain ⟨k, hk, rfl, rfl⟩ := hrel
    by_cases hlt : k < n
    · have hz : k < zs.length := by rw [← Hn.out]; exact hlt
      rcases hcell with h0 | ⟨off, rfl, hc⟩
      · subst h0; simp at hz
      obtain ⟨y, hy⟩ : ∃ y, Hid (y = zs[k]) := ⟨_, Lib.hid rfl⟩
      have h1 : w.cell? ⟨b, off + k, none⟩ = some (.int .i64 y) := by rw [hc k hz, hy.out]
      have e2 := hi_take 0 zs k hz
      rw [← hy.out] at e2
      have E2 := Lib.hid e2
      clear hc e2
      generalize hiI 0 (zs.take k) = hi at *
      go_wp2_with fail
      refine (smax_any hi y w).mono ?_
      rintro e _w ⟨rfl, rfl⟩
      go_wp2_with fail
      go_round
      case rel => exact ⟨k + 1, by omega, by go_num, by rw [E2.out]⟩
      case measure => simp [intOf]; omega
    · obtain rfl : k = n := by omega
      have e : Hid (zs.take k = zs) := Lib.hid (List.take_of_length_le (by rw [Hn.out]; exact Nat.le_refl _))
      go_wp2_with fail
      go_ret
      exact ⟨by rw [e.out]; rfl, rfl⟩
end Go.Proofs.YtfajdbfpacmclaaDoor
