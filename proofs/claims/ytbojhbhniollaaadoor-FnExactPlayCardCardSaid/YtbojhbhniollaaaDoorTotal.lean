/-
  TotalCards by contract, both sides.
-/
import Derived.Test.YtbojhbhniollaaaDoorIntRows
namespace Go.Proofs.YtbojhbhniollaaaDoor
open Go.RowKit

set_option maxRecDepth 100000 in
theorem totalCards_any (v : Value) (zss : List (List Int)) (w : World) (h : RdRows .i64 w v zss) (hl : zss.length ≤ 1048576) (hl2 : sumLen zss ≤ 1048576) :
    Calls Tryd.prog 73 #[v] w fun e w' => e = .returned (.int .i64 (sumLen zss)) ∧ w = w' := by
  have hrow := fun j (hj : j < zss.length) => h.row hj
  obtain ⟨a, cap, rfl, -, -⟩ := id h
  obtain ⟨n, hn⟩ : ∃ n, n = zss.length := ⟨_, rfl⟩
  have Hn := Lib.hid hn
  have Hrow := Lib.hid hrow
  rw [← hn] at hl ⊢
  clear hn hrow h
  obtain ⟨S, hS⟩ : ∃ S, S = sumLen zss := ⟨_, rfl⟩
  have HS := Lib.hid hS
  rw [← hS] at hl2 ⊢
  clear hS
  go_enter Tryd.func73, Tryd.ntmps73
  go_wp2_with fail
  go_loop [3, 5, 8] (fun l _ i => ∃ (k x : Nat), k ≤ n ∧ i = .int .i64 k ∧ l = .int .i64 x ∧ x ≤ S ∧ Hid (x = sumLen (zss.take k))) (fun _ _ i => n - (intOf i).toNat)
  case atStart => exact ⟨0, 0, Nat.zero_le _, rfl, rfl, Nat.zero_le _, Lib.hid rfl⟩
  case round =>
    obtain ⟨k, x, hk, rfl, rfl, hxS, hx⟩ := hrel
    by_cases hlt : k < n
    · have hz : k < zss.length := by rw [← Hn.out]; exact hlt
      obtain ⟨blk, off, cap', p, c, b, hv, hc, -, -⟩ := Hrow.out k hz
      have ha := (Value.slice.inj hv).1
      clear hv
      subst ha
      have hst := sumLen_take zss k hz
      obtain ⟨m, hm⟩ : ∃ m, m = (zss[k]'hz).length := ⟨_, rfl⟩
      rw [← hm, ← hx.out] at hst
      rw [← hm] at hc
      have hxm : x + m ≤ S := by
        rw [HS.out, ← hst]
        exact sumLen_take_le zss (k + 1)
      have hx2 : Hid (x + m = sumLen (zss.take (k + 1))) := Lib.hid hst.symm
      clear hm hst
      go_wp2_with fail
      go_round
      case rel => exact ⟨k + 1, x + m, by omega, by go_num, by go_num, hxm, hx2⟩
      case measure => simp [intOf]; omega
    · obtain rfl : k = n := by omega
      have hx2 : Hid (x = S) := Lib.hid (by rw [hx.out, HS.out, List.take_of_length_le (by rw [Hn.out]; exact Nat.le_refl _)])
      go_wp2_with fail
      go_ret
      exact ⟨by rw [← hx2.out]; rfl, rfl⟩
set_option maxRecDepth 100000 in
theorem sTotalCards_any (v : Value) (zss : List (List Int)) (w : World) (h : RdRows .i64 w v zss) (hl : zss.length ≤ 1048576) (hl2 : sumLen zss ≤ 1048576) :
    Calls Tryd.prog 67 #[v] w fun e w' => e = .returned (.int .i64 (sumLen zss)) ∧ w = w' := by
  have hrow := fun j (hj : j < zss.length) => h.row hj
  obtain ⟨a, cap, rfl, -, -⟩ := id h
  obtain ⟨n, hn⟩ : ∃ n, n = zss.length := ⟨_, rfl⟩
  have Hn := Lib.hid hn
  have Hrow := Lib.hid hrow
  rw [← hn] at hl ⊢
  clear hn hrow h
  obtain ⟨S, hS⟩ : ∃ S, S = sumLen zss := ⟨_, rfl⟩
  have HS := Lib.hid hS
  rw [← hS] at hl2 ⊢
  clear hS
  go_enter Tryd.func67, Tryd.ntmps67
  go_wp2_with fail
  go_loop [3, 4] (fun l i => ∃ (k x : Nat), k ≤ n ∧ i = .int .i64 k ∧ l = .int .i64 x ∧ x ≤ S ∧ Hid (x = sumLen (zss.take k))) (fun _ i => n - (intOf i).toNat)
  case atStart => exact ⟨0, 0, Nat.zero_le _, rfl, rfl, Nat.zero_le _, Lib.hid rfl⟩
  case round =>
    obtain ⟨k, x, hk, rfl, rfl, hxS, hx⟩ := hrel
    by_cases hlt : k < n
    · have hz : k < zss.length := by rw [← Hn.out]; exact hlt
      obtain ⟨blk, off, cap', p, c, b, hv, hc, -, -⟩ := Hrow.out k hz
      have ha := (Value.slice.inj hv).1
      clear hv
      subst ha
      have hst := sumLen_take zss k hz
      obtain ⟨m, hm⟩ : ∃ m, m = (zss[k]'hz).length := ⟨_, rfl⟩
      rw [← hm, ← hx.out] at hst
      rw [← hm] at hc
      have hxm : x + m ≤ S := by
        rw [HS.out, ← hst]
        exact sumLen_take_le zss (k + 1)
      have hx2 : Hid (x + m = sumLen (zss.take (k + 1))) := Lib.hid hst.symm
      clear hm hst
      go_wp2_with fail
      go_round
      case rel => exact ⟨k + 1, x + m, by omega, by go_num, by go_num, hxm, hx2⟩
      case measure => simp [intOf]; omega
    · obtain rfl : k = n := by omega
      have hx2 : Hid (x = S) := Lib.hid (by rw [hx.out, HS.out, List.take_of_length_le (by rw [Hn.out]; exact Nat.le_refl _)])
      go_wp2_with fail
      go_ret
      exact ⟨by rw [← hx2.out]; rfl, rfl⟩
end Go.Proofs.YtbojhbhniollaaaDoor
