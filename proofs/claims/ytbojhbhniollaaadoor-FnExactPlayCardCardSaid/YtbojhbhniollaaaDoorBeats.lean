/-
  Beats and ValueOf, both sides.
-/
import Derived.Test.YtbojhbhniollaaaDoorCard
namespace Go.Proofs.YtbojhbhniollaaaDoor
open Go.RowKit

def beats (a b t : Int) : Bool := isCard a && isCard b && (if suitOf a = suitOf b then decide (rankOf b < rankOf a) else decide (suitOf a = t))
theorem beats_0 {a b t : Int} (h : isCard a = false) : beats a b t = false := by simp [beats, h]
theorem beats_1 {a b t : Int} (h : isCard b = false) : beats a b t = false := by simp [beats, h]
theorem beats_2 {a b t : Int} (ha : isCard a = true) (hb : isCard b = true) (hs : suitOf a = suitOf b) : beats a b t = decide (rankOf b < rankOf a) := by simp [beats, ha, hb, hs]
theorem beats_2s {a b t : Int} (ha : isCard a = true) (hb : isCard b = true) (hs : suitOf a = suitOf b) : beats a b t = decide (b < a) := by
  rw [beats_2 ha hb hs, rank_in ha, rank_in hb]
  rw [suit_in ha, suit_in hb] at hs
  have := isCard_t ha
  have := isCard_t hb
  have : (b % 13 < a % 13) ↔ b < a := by omega
  simp only [this]
theorem beats_3 {a b t : Int} (ha : isCard a = true) (hb : isCard b = true) (hs : ¬ suitOf a = suitOf b) : beats a b t = decide (suitOf a = t) := by simp [beats, ha, hb, hs]

set_option maxRecDepth 100000 in
set_option maxHeartbeats 1000000 in
theorem sBeats_any (a b t : Int) (w : World) :
    Calls Tryd.prog 71 #[.int .i64 a, .int .i64 b, .int .i64 t] w fun e w' => e = .returned (.bool (beats a b t)) ∧ w = w' := by
  cases ha : isCard a with
  | false =>
    have Hr := Lib.hid (beats_0 (b := b) (t := t) ha)
    have Ha := Lib.hid ha
    clear ha
    go_enter Tryd.func71, Tryd.ntmps71
    go_wp2_with fail
    refine (sIsCard_r _ _ _ Ha.out).mono ?_
    rintro e _w ⟨rfl, rfl⟩
    go_wp2_with fail
    go_ret
    exact ⟨by rw [Hr.out]; rfl, rfl⟩
  | true =>
    cases hb : isCard b with
    | false =>
      have Hr := Lib.hid (beats_1 (a := a) (t := t) hb)
      have Ha := Lib.hid ha
      have Hb := Lib.hid hb
      clear ha hb
      go_enter Tryd.func71, Tryd.ntmps71
      go_wp2_with fail
      refine (sIsCard_r _ _ _ Ha.out).mono ?_
      rintro e _w ⟨rfl, rfl⟩
      go_wp2_with fail
      refine (sIsCard_r _ _ _ Hb.out).mono ?_
      rintro e _w ⟨rfl, rfl⟩
      go_wp2_with fail
      go_ret
      exact ⟨by rw [Hr.out]; rfl, rfl⟩
    | true =>
      have Ha := Lib.hid ha
      have Hb := Lib.hid hb
      obtain ⟨x, hx⟩ : ∃ x, suitOf a = x := ⟨_, rfl⟩
      obtain ⟨y, hy⟩ : ∃ y, suitOf b = y := ⟨_, rfl⟩
      have Hx := Lib.hid hx
      have Hy := Lib.hid hy
      by_cases hs : suitOf a = suitOf b
      · have Hr := Lib.hid (beats_2s (t := t) ha hb hs)
        have hxy : x = y := by rw [← hx, ← hy, hs]
        clear ha hb hx hy hs
        subst hxy
        go_enter Tryd.func71, Tryd.ntmps71
        go_wp2_with fail
        refine (sIsCard_r _ _ _ Ha.out).mono ?_
        rintro e _w ⟨rfl, rfl⟩
        go_wp2_with fail
        refine (sIsCard_r _ _ _ Hb.out).mono ?_
        rintro e _w ⟨rfl, rfl⟩
        go_wp2_with fail
        refine (sSuitOf_r _ _ _ Hx.out).mono ?_
        rintro e _w ⟨rfl, rfl⟩
        go_wp2_with fail
        refine (sSuitOf_r _ _ _ Hy.out).mono ?_
        rintro e _w ⟨rfl, rfl⟩
        go_wp2_with fail
        go_ret
        exact ⟨by rw [Hr.out]; rfl, rfl⟩
      · have Hr := Lib.hid (beats_3 (t := t) ha hb hs)
        have hxy : ¬ x = y := by rw [← hx, ← hy]; exact hs
        rw [hx] at Hr
        clear ha hb hx hy hs
        go_enter Tryd.func71, Tryd.ntmps71
        go_wp2_with fail
        refine (sIsCard_r _ _ _ Ha.out).mono ?_
        rintro e _w ⟨rfl, rfl⟩
        go_wp2_with fail
        refine (sIsCard_r _ _ _ Hb.out).mono ?_
        rintro e _w ⟨rfl, rfl⟩
        go_wp2_with fail
        refine (sSuitOf_r _ _ _ Hx.out).mono ?_
        rintro e _w ⟨rfl, rfl⟩
        go_wp2_with fail
        refine (sSuitOf_r _ _ _ Hy.out).mono ?_
        rintro e _w ⟨rfl, rfl⟩
        go_wp2_with fail
        refine (sSuitOf_r _ _ _ Hx.out).mono ?_
        rintro e _w ⟨rfl, rfl⟩
        go_wp2_with fail
        go_ret
        exact ⟨by rw [Hr.out]; rfl, rfl⟩
set_option maxRecDepth 100000 in
set_option maxHeartbeats 1000000 in
theorem beats_any (a b t : Int) (w : World) :
    Calls Tryd.prog 104 #[.int .i64 a, .int .i64 b, .int .i64 t] w fun e w' => e = .returned (.bool (beats a b t)) ∧ w = w' := by
  cases ha : isCard a with
  | false =>
    have Hr := Lib.hid (beats_0 (b := b) (t := t) ha)
    have Ha := Lib.hid ha
    clear ha
    go_enter Tryd.func104, Tryd.ntmps104
    go_wp2_with fail
    refine (isCard_r _ _ _ Ha.out).mono ?_
    rintro e _w ⟨rfl, rfl⟩
    go_wp2_with fail
    go_ret
    exact ⟨by rw [Hr.out]; rfl, rfl⟩
  | true =>
    cases hb : isCard b with
    | false =>
      have Hr := Lib.hid (beats_1 (a := a) (t := t) hb)
      have Ha := Lib.hid ha
      have Hb := Lib.hid hb
      clear ha hb
      go_enter Tryd.func104, Tryd.ntmps104
      go_wp2_with fail
      refine (isCard_r _ _ _ Ha.out).mono ?_
      rintro e _w ⟨rfl, rfl⟩
      go_wp2_with fail
      refine (isCard_r _ _ _ Hb.out).mono ?_
      rintro e _w ⟨rfl, rfl⟩
      go_wp2_with fail
      go_ret
      exact ⟨by rw [Hr.out]; rfl, rfl⟩
    | true =>
      have Ha := Lib.hid ha
      have Hb := Lib.hid hb
      obtain ⟨x, hx⟩ : ∃ x, suitOf a = x := ⟨_, rfl⟩
      obtain ⟨y, hy⟩ : ∃ y, suitOf b = y := ⟨_, rfl⟩
      have Hx := Lib.hid hx
      have Hy := Lib.hid hy
      by_cases hs : suitOf a = suitOf b
      · have Hr := Lib.hid (beats_2 (t := t) ha hb hs)
        have hxy : x = y := by rw [← hx, ← hy, hs]
        obtain ⟨p, hp⟩ : ∃ p, rankOf a = p := ⟨_, rfl⟩
        obtain ⟨q, hq⟩ : ∃ q, rankOf b = q := ⟨_, rfl⟩
        have Hp := Lib.hid hp
        have Hq := Lib.hid hq
        rw [hp, hq] at Hr
        clear ha hb hx hy hs hp hq
        subst hxy
        go_enter Tryd.func104, Tryd.ntmps104
        go_wp2_with fail
        refine (isCard_r _ _ _ Ha.out).mono ?_
        rintro e _w ⟨rfl, rfl⟩
        go_wp2_with fail
        refine (isCard_r _ _ _ Hb.out).mono ?_
        rintro e _w ⟨rfl, rfl⟩
        go_wp2_with fail
        refine (suitOf_r _ _ _ Hx.out).mono ?_
        rintro e _w ⟨rfl, rfl⟩
        go_wp2_with fail
        refine (suitOf_r _ _ _ Hy.out).mono ?_
        rintro e _w ⟨rfl, rfl⟩
        go_wp2_with fail
        refine (rankOf_r _ _ _ Hp.out).mono ?_
        rintro e _w ⟨rfl, rfl⟩
        go_wp2_with fail
        refine (rankOf_r _ _ _ Hq.out).mono ?_
        rintro e _w ⟨rfl, rfl⟩
        go_wp2_with fail
        go_ret
        exact ⟨by rw [Hr.out]; rfl, rfl⟩
      · have Hr := Lib.hid (beats_3 (t := t) ha hb hs)
        have hxy : ¬ x = y := by rw [← hx, ← hy]; exact hs
        rw [hx] at Hr
        clear ha hb hx hy hs
        go_enter Tryd.func104, Tryd.ntmps104
        go_wp2_with fail
        refine (isCard_r _ _ _ Ha.out).mono ?_
        rintro e _w ⟨rfl, rfl⟩
        go_wp2_with fail
        refine (isCard_r _ _ _ Hb.out).mono ?_
        rintro e _w ⟨rfl, rfl⟩
        go_wp2_with fail
        refine (suitOf_r _ _ _ Hx.out).mono ?_
        rintro e _w ⟨rfl, rfl⟩
        go_wp2_with fail
        refine (suitOf_r _ _ _ Hy.out).mono ?_
        rintro e _w ⟨rfl, rfl⟩
        go_wp2_with fail
        refine (suitOf_r _ _ _ Hx.out).mono ?_
        rintro e _w ⟨rfl, rfl⟩
        go_wp2_with fail
        go_ret
        exact ⟨by rw [Hr.out]; rfl, rfl⟩
end Go.Proofs.YtbojhbhniollaaaDoor
