/-
  Contracts of checkRange, isReason, CeilDiv, Mod (impl and model), over the two sentinels of chapter 1.
-/
import Derived.Test.YtbojhbhniollaaaDoorErrs
import Derived.Deep.QuietTactic
import Derived.BigQuiet
import Derived.Lib.Hide
import Derived.OpenShut
namespace Go.Proofs.YtbojhbhniollaaaDoor
open Go.RowKit Go.Extern.Stop Go.Stop Go.Extern

theorem isReason_nil (a0 a1 : Addr) (w : World) (hS : Sent a0 a1 w) :
    Calls Tryd.prog 94 #[.nilIface] w fun e w' => e = .returned (.bool false) ∧ w = w' := by
  have v0 := hS.v0
  have v1 := hS.v1
  go_enter Tryd.func94, Tryd.ntmps94
  go_wp2_with fail
  refine (is_nil a0 _).mono ?_
  rintro e w' ⟨rfl, rfl⟩
  go_wp2_with fail
  refine (is_nil a1 _).mono ?_
  rintro e w' ⟨rfl, rfl⟩
  go_wp2
  go_ret
  exact ⟨rfl, rfl⟩

theorem isReason_0 (a0 a1 : Addr) (w : World) (hS : Sent a0 a1 w) :
    Calls Tryd.prog 94 #[.iface 165 (.pointer (some a0))] w fun e w' => e = .returned (.bool true) ∧ w = w' := by
  have v0 := hS.v0
  go_enter Tryd.func94, Tryd.ntmps94
  go_wp2_with fail
  refine (is_same a0 _).mono ?_
  rintro e w' ⟨rfl, rfl⟩
  go_wp2
  go_ret
  exact ⟨rfl, rfl⟩

theorem isReason_1 (a0 a1 : Addr) (w : World) (hS : Sent a0 a1 w) :
    Calls Tryd.prog 94 #[.iface 165 (.pointer (some a1))] w fun e w' => e = .returned (.bool true) ∧ w = w' := by
  have v0 := hS.v0
  have v1 := hS.v1
  obtain ⟨c0, t0, h0⟩ := hS.b0
  obtain ⟨c1, t1, h1⟩ := hS.b1
  have C := is_other a1 a0 c1 c0 t1 t0 w (Ne.symm hS.apart) h1 h0
  clear h0 h1
  go_enter Tryd.func94, Tryd.ntmps94
  go_wp2_with fail
  refine C.mono ?_
  rintro e w' ⟨rfl, rfl⟩
  go_wp2_with fail
  refine (is_same a1 _).mono ?_
  rintro e w' ⟨rfl, rfl⟩
  go_wp2
  go_ret
  exact ⟨rfl, rfl⟩

theorem checkRange_in (n lo hi : Int) (w : World) (h1 : lo ≤ n) (h2 : n ≤ hi) :
    Calls Tryd.prog 95 #[.int .i64 n, .int .i64 lo, .int .i64 hi] w fun e w' => e = .returned .nilIface ∧ w = w' := by
  go_enter Tryd.func95, Tryd.ntmps95
  go_wp2
  go_ret
  exact ⟨rfl, rfl⟩

theorem checkRange_out (a0 a1 : Addr) (n lo hi : Int) (w : World) (h : n < lo ∨ hi < n) (hS : Sent a0 a1 w) :
    Calls Tryd.prog 95 #[.int .i64 n, .int .i64 lo, .int .i64 hi] w fun e w' => e = .returned (.iface 165 (.pointer (some a1))) ∧ w = w' := by
  have v1 := hS.v1
  by_cases h1 : lo ≤ n
  · have h2 : hi < n := by omega
    clear h
    go_enter Tryd.func95, Tryd.ntmps95
    go_wp2
    go_ret
    exact ⟨rfl, rfl⟩
  · clear h
    go_enter Tryd.func95, Tryd.ntmps95
    go_wp2
    go_ret
    exact ⟨rfl, rfl⟩

def ceilI (a b : Int) : Int := if 0 ≤ a ∧ a ≤ 1000000000000 ∧ 1 ≤ b ∧ b ≤ 1000000000000 then (a + b - 1) / b else 0
def modI (p q : Int) : Int := if 1 ≤ q ∧ q ≤ 1000000000000 then p % q else 0

theorem tmod_bd (p q : Int) (h : 1 ≤ q) : -q < p.tmod q ∧ p.tmod q < q := by
  have h1 := Int.tmod_lt_of_pos p (show 0 < q by omega)
  have h2 := Int.lt_tmod_of_pos p (show 0 < q by omega)
  exact ⟨h2, h1⟩

theorem tmod_neg (p q : Int) (h : 1 ≤ q) (hn : p.tmod q < 0) : p % q = p.tmod q + q := by
  have hb := tmod_bd p q h
  have e := Int.mul_tdiv_add_tmod p q
  have e2 : p = (p.tmod q + q) + q * (p.tdiv q - 1) := by rw [Int.mul_sub]; omega
  rw [e2, Int.add_mul_emod_self_left, Int.emod_eq_of_lt (by omega) (by omega), ← e2]

theorem tmod_pos (p q : Int) (h : 1 ≤ q) (hn : 0 ≤ p.tmod q) : p % q = p.tmod q := by
  have hb := tmod_bd p q h
  have e := Int.mul_tdiv_add_tmod p q
  have e2 : p = p.tmod q + q * p.tdiv q := by omega
  rw [e2, Int.add_mul_emod_self_left, Int.emod_eq_of_lt (by omega) (by omega), ← e2]

theorem tmod_both (p q : Int) : (p.tmod q + q) % q = p % q := by
  have e := Int.mul_tdiv_add_tmod p q
  have e2 : p = p.tmod q + q * p.tdiv q := by omega
  rw [Int.add_emod_right]
  conv => rhs; rw [e2, Int.add_mul_emod_self_left]

theorem mod_any (a0 a1 : Addr) (p q : Int) (w : World) (wp : (Lit.int .i64 p).wf = true) (hS : Sent a0 a1 w) :
    Calls Tryd.prog 74 #[.int .i64 p, .int .i64 q] w fun e w' => e = .returned (.int .i64 (modI p q)) ∧ w = w' := by
  have bp := bounds_i64 wp
  by_cases hb : 1 ≤ q ∧ q ≤ 1000000000000
  · obtain ⟨hb1, hb2⟩ := hb
    have e : modI p q = p % q := if_pos ⟨hb1, hb2⟩
    rw [e]
    clear e
    have tb := tmod_bd p q hb1
    obtain ⟨tb1, tb2⟩ := tb
    by_cases hp : 0 ≤ p
    · go_enter Tryd.func74, Tryd.ntmps74
      go_wp2_with fail
      refine (checkRange_in _ _ _ _ hb1 hb2).mono ?_
      rintro e w' ⟨rfl, rfl⟩
      go_wp2_with fail
      refine (isReason_nil a0 a1 _ hS).mono ?_
      rintro e w' ⟨rfl, rfl⟩
      have hx : ¬ (p % q < 0) := by have := Int.emod_nonneg p (show q ≠ 0 by omega); omega
      go_wp2
      go_ret
      exact ⟨rfl, rfl⟩
    · by_cases hn : p.tmod q < 0
      · rw [tmod_neg p q hb1 hn]
        go_enter Tryd.func74, Tryd.ntmps74
        go_wp2_with fail
        refine (checkRange_in _ _ _ _ hb1 hb2).mono ?_
        rintro e w' ⟨rfl, rfl⟩
        go_wp2_with fail
        refine (isReason_nil a0 a1 _ hS).mono ?_
        rintro e w' ⟨rfl, rfl⟩
        go_wp2
        go_ret
        exact ⟨rfl, rfl⟩
      · rw [tmod_pos p q hb1 (by omega)]
        go_enter Tryd.func74, Tryd.ntmps74
        go_wp2_with fail
        refine (checkRange_in _ _ _ _ hb1 hb2).mono ?_
        rintro e w' ⟨rfl, rfl⟩
        go_wp2_with fail
        refine (isReason_nil a0 a1 _ hS).mono ?_
        rintro e w' ⟨rfl, rfl⟩
        go_wp2
        go_ret
        exact ⟨rfl, rfl⟩
  · have e : modI p q = 0 := if_neg (by omega)
    rw [e]
    clear e
    go_enter Tryd.func74, Tryd.ntmps74
    go_wp2_with fail
    refine (checkRange_out a0 a1 _ _ _ _ (by omega) hS).mono ?_
    rintro e w' ⟨rfl, rfl⟩
    go_wp2_with fail
    refine (isReason_1 a0 a1 _ hS).mono ?_
    rintro e w' ⟨rfl, rfl⟩
    go_wp2
    go_ret
    exact ⟨rfl, rfl⟩

end Go.Proofs.YtbojhbhniollaaaDoor
