/-
  AverageMoves, both sides.
-/
import Derived.Test.YtjlcmocepnlibaaTotal
namespace Go.Proofs.Ytjlcmocepnlibaa
open Go.RowKit
set_option linter.unusedVariables false
set_option linter.unusedSimpArgs false

def avgI (zss : List (List Int)) : Int := if zss = [] then 0 else wrap64 ((sumLen zss : Int) / (zss.length : Int))
set_option maxRecDepth 100000 in
set_option maxHeartbeats 400000 in
theorem lenRow_any (a : Option Addr) (n cap : Nat) (w : World) :
    Calls Try.prog 70 #[.slice a n cap] w fun e w' => e = .returned (.int .i64 n) ∧ w = w' := by
  go_enter Try.func70, Try.ntmps70
  go_wp2_with fail
  go_ret
  exact ⟨rfl, rfl⟩
set_option maxRecDepth 100000 in
set_option maxHeartbeats 1000000 in
theorem sumOver_any (v : Value) (zss : List (List Int)) (w : World) (h : RdRows .i64 w v zss) (hl : zss.length ≤ 1048576) (hl2 : sumLen zss ≤ 1048576) :
    Calls Try.prog 69 #[v, .func (.func 70) #[] #[]] w fun e w' => e = .returned (.int .i64 (sumLen zss)) ∧ w = w' := by
  have hrow := fun j (hj : j < zss.length) => h.row hj
  obtain ⟨a, cap, rfl, -, -⟩ := id h
  obtain ⟨n, hn⟩ : ∃ n, n = zss.length := ⟨_, rfl⟩
  have Hn := Lib.hid hn
  have Hrow := Lib.hid hrow
  rw [← hn] at hl ⊢
  clear hn hrow h
  obtain ⟨S, hS⟩ : ∃ S, S = sumLen zss := ⟨_, rfl⟩
  have HS := Lib.hid hS
  rw [← hS] at hl2 ⊢
  clear hS
  go_enter Try.func69, Try.ntmps69
  go_wp2_with fail
  go_loop [5, 7, 10] (fun l _ i => ∃ (k x : Nat), k ≤ n ∧ i = .int .i64 k ∧ l = .int .i64 x ∧ x ≤ S ∧ Hid (x = sumLen (zss.take k))) (fun _ _ i => n - (intOf i).toNat)
  case atStart => exact ⟨0, 0, Nat.zero_le _, rfl, rfl, Nat.zero_le _, Lib.hid rfl⟩
  case round =>
    obtain ⟨k, x, hk, rfl, rfl, hxS, hx⟩ := hrel
    by_cases hlt : k < n
    · have hz : k < zss.length := by rw [← Hn.out]; exact hlt
      obtain ⟨blk, off, cap', p, c, b, hv, hc, -, -⟩ := Hrow.out k hz
      have ha := (Value.slice.inj hv).1
      clear hv
      subst ha
      have hst := sumLen_take zss k hz
      obtain ⟨m, hm⟩ : ∃ m, m = (zss[k]'hz).length := ⟨_, rfl⟩
      rw [← hm, ← hx.out] at hst
      rw [← hm] at hc
      have hxm : x + m ≤ S := by
        rw [HS.out, ← hst]
        exact sumLen_take_le zss (k + 1)
      have hx2 : Hid (x + m = sumLen (zss.take (k + 1))) := Lib.hid hst.symm
      have HL := Lib.hid (lenRow_any p m c w)
      clear hm hst
      go_wp2_with fail
      refine HL.out.mono ?_
      rintro e _w ⟨rfl, rfl⟩
      go_wp2_with fail
      go_round
      case rel => exact ⟨k + 1, x + m, by omega, by go_num, by go_num, hxm, hx2⟩
      case measure => simp [intOf]; omega
    · obtain rfl : k = n := by omega
      have hx2 : Hid (x = S) := Lib.hid (by rw [hx.out, HS.out, List.take_of_length_le (by rw [Hn.out]; exact Nat.le_refl _)])
      go_wp2_with fail
      go_ret
      exact ⟨by rw [← hx2.out]; rfl, rfl⟩
set_option maxRecDepth 100000 in
set_option maxHeartbeats 400000 in
theorem averageMoves_any (v : Value) (zss : List (List Int)) (w : World) (h : RdRows .i64 w v zss) (hl : zss.length ≤ 1048576) (hl2 : sumLen zss ≤ 1048576) :
    Calls Try.prog 32 #[v] w fun e w' => e = .returned (.int .i64 (avgI zss)) ∧ w = w' := by
  have HS := Lib.hid (sumOver_any v zss w h hl hl2)
  obtain ⟨a, cap, rfl, -, -⟩ := id h
  clear h
  cases zss with
  | nil =>
    go_enter Try.func32, Try.ntmps32
    go_wp2_with fail
    go_ret
    exact ⟨rfl, rfl⟩
  | cons z zs =>
    have e : avgI (z :: zs) = wrap64 ((sumLen (z :: zs) : Int) / ((z :: zs).length : Int)) := by unfold avgI; rw [if_neg (by simp)]
    rw [e]
    have hpos : 0 < (z :: zs).length := by simp
    clear e
    generalize (z :: zs).length = n at *
    generalize sumLen (z :: zs) = S at *
    have hq : ((n : Int) == 0) = false := by simp; omega
    go_enter Try.func32, Try.ntmps32
    go_wp2_with fail
    refine HS.out.mono ?_
    rintro e _w ⟨rfl, rfl⟩
    go_wp2_with fail
    go_ret
    exact ⟨rfl, rfl⟩
set_option maxRecDepth 100000 in
set_option maxHeartbeats 400000 in
theorem sAverageMoves_any (v : Value) (zss : List (List Int)) (w : World) (h : RdRows .i64 w v zss) (hl : zss.length ≤ 1048576) (hl2 : sumLen zss ≤ 1048576) :
    Calls Try.prog 30 #[v] w fun e w' => e = .returned (.int .i64 (avgI zss)) ∧ w = w' := by
  have hrow := fun j (hj : j < zss.length) => h.row hj
  obtain ⟨a, cap, rfl, -, -⟩ := id h
  obtain ⟨r, hr⟩ : ∃ r, r = avgI zss := ⟨_, rfl⟩
  have Hr := Lib.hid hr
  rw [← hr]
  obtain ⟨n, hn⟩ : ∃ n, n = zss.length := ⟨_, rfl⟩
  have Hn := Lib.hid hn
  have Hrow := Lib.hid hrow
  rw [← hn] at hl ⊢
  clear hn hrow h hr
  obtain ⟨S, hS⟩ : ∃ S, S = sumLen zss := ⟨_, rfl⟩
  have HS := Lib.hid hS
  rw [← hS] at hl2
  clear hS
  go_enter Try.func30, Try.ntmps30
  go_wp2_with fail
  go_loop [3, 4] (fun l i => ∃ (k x : Nat), k ≤ n ∧ i = .int .i64 k ∧ l = .int .i64 x ∧ x ≤ S ∧ Hid (x = sumLen (zss.take k))) (fun _ i => n - (intOf i).toNat)
  case atStart => exact ⟨0, 0, Nat.zero_le _, rfl, rfl, Nat.zero_le _, Lib.hid rfl⟩
  case round =>
    obtain ⟨k, x, hk, rfl, rfl, hxS, hx⟩ := hrel
    by_cases hlt : k < n
    · have hz : k < zss.length := by rw [← Hn.out]; exact hlt
      obtain ⟨blk, off, cap', p, c, b, hv, hc, -, -⟩ := Hrow.out k hz
      have ha := (Value.slice.inj hv).1
      clear hv
      subst ha
      have hst := sumLen_take zss k hz
      obtain ⟨m, hm⟩ : ∃ m, m = (zss[k]'hz).length := ⟨_, rfl⟩
      rw [← hm, ← hx.out] at hst
      rw [← hm] at hc
      have hxm : x + m ≤ S := by
        rw [HS.out, ← hst]
        exact sumLen_take_le zss (k + 1)
      have hx2 : Hid (x + m = sumLen (zss.take (k + 1))) := Lib.hid hst.symm
      clear hm hst
      go_wp2_with fail
      go_round
      case rel => exact ⟨k + 1, x + m, by omega, by go_num, by go_num, hxm, hx2⟩
      case measure => simp [intOf]; omega
    · obtain rfl : k = n := by omega
      have hxS2 : x = sumLen zss := by rw [hx.out, List.take_of_length_le (by rw [Hn.out]; exact Nat.le_refl _)]
      by_cases h0 : k = 0
      · subst h0
        have hres : Hid (r = 0) := Lib.hid (by rw [Hr.out]; unfold avgI; rw [if_pos (List.length_eq_zero_iff.1 Hn.out.symm)])
        clear hxS2
        go_wp2_with fail
        go_ret
        exact ⟨by rw [hres.out]; rfl, rfl⟩
      · have hres : Hid (r = wrap64 ((x : Int) / (k : Int))) := Lib.hid (by rw [Hr.out, hxS2]; unfold avgI; rw [if_neg (fun e => h0 (by rw [Hn.out, e]; rfl)), ← Hn.out])
        have hq : ((k : Int) == 0) = false := by simp; omega
        clear hxS2
        go_wp2_with fail
        go_ret
        exact ⟨by rw [hres.out]; rfl, rfl⟩
end Go.Proofs.Ytjlcmocepnlibaa
