/-
  ValueOf, both sides.
-/
import Derived.Test.YtbeodaelbjgmeaaDoorCard
namespace Go.Proofs.YtbeodaelbjgmeaaDoor
open Go.RowKit

def valueOf (c : Int) : Int := if isCard c then (if c % 13 = 12 then 1 else if 8 < c % 13 then 10 else c % 13 + 2) else 0
theorem value_out {c : Int} (h : isCard c = false) : valueOf c = 0 := by simp [valueOf, h]
theorem value_ace {c : Int} (h : isCard c = true) (h2 : c % 13 = 12) : valueOf c = 1 := by simp [valueOf, h, h2]
theorem value_pic {c : Int} (h : isCard c = true) (h2 : ¬ c % 13 = 12) (h3 : 8 < c % 13) : valueOf c = 10 := by simp [valueOf, h, h2, h3]
theorem value_num {c : Int} (h : isCard c = true) (h3 : ¬ 8 < c % 13) : valueOf c = c % 13 + 2 := by
  have : ¬ c % 13 = 12 := by omega
  simp [valueOf, h, this, h3]
set_option maxRecDepth 100000 in
set_option maxHeartbeats 1000000 in
theorem sValueOf_any (c : Int) (w : World) (r : Int) (hr : valueOf c = r) :
    Calls Tryd.prog 71 #[.int .i64 c] w fun e w' => e = .returned (.int .i64 r) ∧ w = w' := by
  subst hr
  cases ha : isCard c with
  | false =>
    rw [value_out ha]
    have Ha := Lib.hid ha
    have Hk := Lib.hid (rank_out ha)
    clear ha
    go_enter Tryd.func71, Tryd.ntmps71
    go_wp2_with fail
    refine (sRankOf_r _ _ _ Hk.out).mono ?_
    rintro e _w ⟨rfl, rfl⟩
    go_wp2_with fail
    go_ret
    exact ⟨rfl, rfl⟩
  | true =>
    have Ha := Lib.hid ha
    have Hk := Lib.hid (rank_in ha)
    have hb : 0 ≤ c % 13 ∧ c % 13 < 13 := by omega
    obtain ⟨hb0, hb1⟩ := hb
    by_cases h12 : c % 13 = 12
    · rw [value_ace ha h12]
      clear ha
      generalize c % 13 = k at *
      go_enter Tryd.func71, Tryd.ntmps71
      go_wp2_with fail
      refine (sRankOf_r _ _ _ Hk.out).mono ?_
      rintro e _w ⟨rfl, rfl⟩
      go_wp2_with fail
      go_ret
      exact ⟨rfl, rfl⟩
    · by_cases h8 : 8 < c % 13
      · rw [value_pic ha h12 h8]
        clear ha
        generalize c % 13 = k at *
        go_enter Tryd.func71, Tryd.ntmps71
        go_wp2_with fail
        refine (sRankOf_r _ _ _ Hk.out).mono ?_
        rintro e _w ⟨rfl, rfl⟩
        go_wp2_with fail
        go_ret
        exact ⟨rfl, rfl⟩
      · rw [value_num ha h8]
        clear ha
        generalize c % 13 = k at *
        go_enter Tryd.func71, Tryd.ntmps71
        go_wp2_with fail
        refine (sRankOf_r _ _ _ Hk.out).mono ?_
        rintro e _w ⟨rfl, rfl⟩
        go_wp2_with fail
        go_ret
        exact ⟨rfl, rfl⟩
set_option maxRecDepth 100000 in
set_option maxHeartbeats 1000000 in
theorem valueOf_any (c : Int) (w : World) (r : Int) (hr : valueOf c = r) :
    Calls Tryd.prog 65 #[.int .i64 c] w fun e w' => e = .returned (.int .i64 r) ∧ w = w' := by
  subst hr
  cases ha : isCard c with
  | false =>
    rw [value_out ha]
    have Ha := Lib.hid ha
    have Hk := Lib.hid (rank_out ha)
    clear ha
    go_enter Tryd.func65, Tryd.ntmps65
    go_wp2_with fail
    refine (rankOf_r _ _ _ Hk.out).mono ?_
    rintro e _w ⟨rfl, rfl⟩
    go_wp2_with fail
    refine (isCard_r _ _ _ Ha.out).mono ?_
    rintro e _w ⟨rfl, rfl⟩
    go_wp2_with fail
    go_ret
    exact ⟨rfl, rfl⟩
  | true =>
    have Ha := Lib.hid ha
    have Hk := Lib.hid (rank_in ha)
    have hb : 0 ≤ c % 13 ∧ c % 13 < 13 := by omega
    obtain ⟨hb0, hb1⟩ := hb
    by_cases h12 : c % 13 = 12
    · rw [value_ace ha h12]
      clear ha
      generalize c % 13 = k at *
      go_enter Tryd.func65, Tryd.ntmps65
      go_wp2_with fail
      refine (rankOf_r _ _ _ Hk.out).mono ?_
      rintro e _w ⟨rfl, rfl⟩
      go_wp2_with fail
      refine (isCard_r _ _ _ Ha.out).mono ?_
      rintro e _w ⟨rfl, rfl⟩
      go_wp2_with fail
      go_ret
      exact ⟨rfl, rfl⟩
    · by_cases h8 : 8 < c % 13
      · rw [value_pic ha h12 h8]
        clear ha
        generalize c % 13 = k at *
        go_enter Tryd.func65, Tryd.ntmps65
        go_wp2_with fail
        refine (rankOf_r _ _ _ Hk.out).mono ?_
        rintro e _w ⟨rfl, rfl⟩
        go_wp2_with fail
        refine (isCard_r _ _ _ Ha.out).mono ?_
        rintro e _w ⟨rfl, rfl⟩
        go_wp2_with fail
        go_ret
        exact ⟨rfl, rfl⟩
      · rw [value_num ha h8]
        clear ha
        generalize c % 13 = k at *
        go_enter Tryd.func65, Tryd.ntmps65
        go_wp2_with fail
        refine (rankOf_r _ _ _ Hk.out).mono ?_
        rintro e _w ⟨rfl, rfl⟩
        go_wp2_with fail
        refine (isCard_r _ _ _ Ha.out).mono ?_
        rintro e _w ⟨rfl, rfl⟩
        go_wp2_with fail
        go_ret
        exact ⟨rfl, rfl⟩
end Go.Proofs.YtbeodaelbjgmeaaDoor
