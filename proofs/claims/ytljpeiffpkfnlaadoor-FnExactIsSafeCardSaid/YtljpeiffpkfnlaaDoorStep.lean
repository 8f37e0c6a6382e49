/-
  StepOf, both sides.
-/
import Derived.Test.YtljpeiffpkfnlaaDoorCard
import Derived.Test.YtljpeiffpkfnlaaDoorArith
namespace Go.Proofs.YtljpeiffpkfnlaaDoor
open Go.RowKit

def stepOf (c : Int) : Int := if isCard c then (c % 13 + 1) % 13 + 1 else 0
theorem step_in {c : Int} (h : isCard c = true) : stepOf c = (c % 13 + 1) % 13 + 1 := by unfold stepOf; rw [h]; rfl
theorem step_out {c : Int} (h : isCard c = false) : stepOf c = 0 := by unfold stepOf; rw [h]; rfl
set_option maxRecDepth 100000 in
theorem stepOf_any (a0 a1 : Addr) (c : Int) (w : World) (hS : Sent a0 a1 w) :
    Calls Tryd.prog 11 #[.int .i64 c] w fun e w' => e = .returned (.int .i64 (stepOf c)) ∧ w = w' := by
  cases ha : isCard c with
  | false =>
    rw [step_out ha]
    have Ha := Lib.hid ha
    clear ha
    go_enter Tryd.func11, Tryd.ntmps11
    go_wp2_with fail
    refine (isCard_r _ _ _ Ha.out).mono ?_
    rintro e _w ⟨rfl, rfl⟩
    go_wp2_with fail
    go_ret
    exact ⟨rfl, rfl⟩
  | true =>
    rw [step_in ha]
    have Ha := Lib.hid ha
    have Hk := Lib.hid (rank_in ha)
    have hb : 0 ≤ c % 13 ∧ c % 13 < 13 := by omega
    obtain ⟨hb0, hb1⟩ := hb
    clear ha
    generalize c % 13 = k at *
    have HM := Lib.hid (mod_any a0 a1 (k + 1) 13 w (WalkArith.wf_i64 (by omega)) hS)
    have hmd : modI (k + 1) 13 = (k + 1) % 13 := if_pos ⟨by omega, by omega⟩
    rw [hmd] at HM
    have hd : 0 ≤ (k + 1) % 13 ∧ (k + 1) % 13 < 13 := by omega
    obtain ⟨hd0, hd1⟩ := hd
    generalize (k + 1) % 13 = m at *
    clear hmd hS
    go_enter Tryd.func11, Tryd.ntmps11
    go_wp2_with fail
    refine (isCard_r _ _ _ Ha.out).mono ?_
    rintro e _w ⟨rfl, rfl⟩
    go_wp2_with fail
    refine (rankOf_r _ _ _ Hk.out).mono ?_
    rintro e _w ⟨rfl, rfl⟩
    go_wp2_with fail
    refine HM.out.mono ?_
    rintro e _w ⟨rfl, rfl⟩
    go_wp2_with fail
    go_ret
    exact ⟨rfl, rfl⟩
set_option maxRecDepth 100000 in
theorem sStepOf_any (c : Int) (w : World) :
    Calls Tryd.prog 10 #[.int .i64 c] w fun e w' => e = .returned (.int .i64 (stepOf c)) ∧ w = w' := by
  cases ha : isCard c with
  | false =>
    rw [step_out ha]
    have Ha := Lib.hid ha
    clear ha
    go_enter Tryd.func10, Tryd.ntmps10
    go_wp2_with fail
    refine (sIsCard_r _ _ _ Ha.out).mono ?_
    rintro e _w ⟨rfl, rfl⟩
    go_wp2_with fail
    go_ret
    exact ⟨rfl, rfl⟩
  | true =>
    rw [step_in ha]
    have Ha := Lib.hid ha
    have Hk := Lib.hid (rank_in ha)
    have hb : 0 ≤ c % 13 ∧ c % 13 < 13 := by omega
    obtain ⟨hb0, hb1⟩ := hb
    clear ha
    generalize c % 13 = k at *
    go_enter Tryd.func10, Tryd.ntmps10
    go_wp2_with fail
    refine (sIsCard_r _ _ _ Ha.out).mono ?_
    rintro e _w ⟨rfl, rfl⟩
    go_wp2_with fail
    refine (sRankOf_r _ _ _ Hk.out).mono ?_
    rintro e _w ⟨rfl, rfl⟩
    go_wp2_with fail
    go_ret
    exact ⟨rfl, rfl⟩
end Go.Proofs.YtljpeiffpkfnlaaDoor
