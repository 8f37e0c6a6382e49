/-
  Ways to draw: isDraw, WaysWith, WaysAtLeast, PerThousand, both sides.
-/
import Derived.Test.YtljpeiffpkfnlaaBinom
import Derived.Test.YtljpeiffpkfnlaaIn
import Derived.Test.YtljpeiffpkfnlaaChoose
namespace Go.Proofs.Ytljpeiffpkfnlaa
open Go.RowKit
set_option linter.unusedVariables false

theorem perT_0 {u g d t : Int} (h : chooseI u d = 0) : perT u g d t = 0 := by unfold perT; rw [if_pos h]
theorem perT_1 {u g d t : Int} (h : ¬ chooseI u d = 0) : perT u g d t = 1000 * waysA u g d t / chooseI u d := by unfold perT; rw [if_neg h]
theorem perT_out {u g d t : Int} (h : isDrawB u g d t = false) : perT u g d t = 0 := by unfold perT; rw [waysA_out h]; split <;> simp
theorem sumW_step (u g d t : Int) (m : Nat) : sumW u g d t (m + 1) = sumW u g d t m + waysW u g d (t + m) := rfl

set_option maxRecDepth 100000 in
theorem isDraw_r (u g d t : Int) (w : World) (r : Bool) (hr : isDrawB u g d t = r) :
    Calls Try.prog 54 #[.int .i64 u, .int .i64 g, .int .i64 d, .int .i64 t] w fun e w' => e = .returned (.bool r) ∧ w = w' := by
  by_cases h1 : 0 ≤ u ∧ u ≤ 52
  · have H1 := Lib.hid (fun wx => inR_any u 0 52 wx true (by simpa using h1))
    by_cases h2 : 0 ≤ g ∧ g ≤ u
    · have H2 := Lib.hid (fun wx => inR_any g 0 u wx true (by simpa using h2))
      by_cases h3 : 0 ≤ d ∧ d ≤ 10
      · have H3 := Lib.hid (fun wx => inR_any d 0 10 wx true (by simpa using h3))
        by_cases h4 : 0 ≤ t ∧ t ≤ d
        · have H4 := Lib.hid (fun wx => inR_any t 0 d wx true (by simpa using h4))
          obtain rfl : r = true := by rw [← hr]; exact draw_mk ⟨h1, h2, h3, h4⟩
          clear hr h1 h2 h3 h4
          go_enter Try.func54, Try.ntmps54
          go_wp2_with fail
          refine (H1.out _).mono ?_
          rintro e _w ⟨rfl, rfl⟩
          go_wp2_with fail
          refine (H2.out _).mono ?_
          rintro e _w ⟨rfl, rfl⟩
          go_wp2_with fail
          refine (H3.out _).mono ?_
          rintro e _w ⟨rfl, rfl⟩
          go_wp2_with fail
          refine (H4.out _).mono ?_
          rintro e _w ⟨rfl, rfl⟩
          go_wp2_with fail
          go_ret
          exact ⟨rfl, rfl⟩
        · have H4 := Lib.hid (fun wx => inR_any t 0 d wx false (by simp only [decide_eq_false h4]))
          obtain rfl : r = false := by rw [← hr]; exact draw_no (fun h => h4 h.2.2.2)
          clear hr h1 h2 h3 h4
          go_enter Try.func54, Try.ntmps54
          go_wp2_with fail
          refine (H1.out _).mono ?_
          rintro e _w ⟨rfl, rfl⟩
          go_wp2_with fail
          refine (H2.out _).mono ?_
          rintro e _w ⟨rfl, rfl⟩
          go_wp2_with fail
          refine (H3.out _).mono ?_
          rintro e _w ⟨rfl, rfl⟩
          go_wp2_with fail
          refine (H4.out _).mono ?_
          rintro e _w ⟨rfl, rfl⟩
          go_wp2_with fail
          go_ret
          exact ⟨rfl, rfl⟩
      · have H3 := Lib.hid (fun wx => inR_any d 0 10 wx false (by simp only [decide_eq_false h3]))
        obtain rfl : r = false := by rw [← hr]; exact draw_no (fun h => h3 h.2.2.1)
        clear hr h1 h2 h3
        go_enter Try.func54, Try.ntmps54
        go_wp2_with fail
        refine (H1.out _).mono ?_
        rintro e _w ⟨rfl, rfl⟩
        go_wp2_with fail
        refine (H2.out _).mono ?_
        rintro e _w ⟨rfl, rfl⟩
        go_wp2_with fail
        refine (H3.out _).mono ?_
        rintro e _w ⟨rfl, rfl⟩
        go_wp2_with fail
        go_ret
        exact ⟨rfl, rfl⟩
    · have H2 := Lib.hid (fun wx => inR_any g 0 u wx false (by simp only [decide_eq_false h2]))
      obtain rfl : r = false := by rw [← hr]; exact draw_no (fun h => h2 h.2.1)
      clear hr h1 h2
      go_enter Try.func54, Try.ntmps54
      go_wp2_with fail
      refine (H1.out _).mono ?_
      rintro e _w ⟨rfl, rfl⟩
      go_wp2_with fail
      refine (H2.out _).mono ?_
      rintro e _w ⟨rfl, rfl⟩
      go_wp2_with fail
      go_ret
      exact ⟨rfl, rfl⟩
  · have H1 := Lib.hid (fun wx => inR_any u 0 52 wx false (by simp only [decide_eq_false h1]))
    obtain rfl : r = false := by rw [← hr]; exact draw_no (fun h => h1 h.1)
    clear hr h1
    go_enter Try.func54, Try.ntmps54
    go_wp2_with fail
    refine (H1.out _).mono ?_
    rintro e _w ⟨rfl, rfl⟩
    go_wp2_with fail
    go_ret
    exact ⟨rfl, rfl⟩
set_option maxRecDepth 100000 in
theorem sIsDraw_r (u g d t : Int) (w : World) (r : Bool) (hr : isDrawB u g d t = r) :
    Calls Try.prog 53 #[.int .i64 u, .int .i64 g, .int .i64 d, .int .i64 t] w fun e w' => e = .returned (.bool r) ∧ w = w' := by
  by_cases h1 : 0 ≤ u ∧ u ≤ 52
  · have H1 := Lib.hid (fun wx => inM_any u 0 52 wx true (by simpa using h1))
    by_cases h2 : 0 ≤ g ∧ g ≤ u
    · have H2 := Lib.hid (fun wx => inM_any g 0 u wx true (by simpa using h2))
      by_cases h3 : 0 ≤ d ∧ d ≤ 10
      · have H3 := Lib.hid (fun wx => inM_any d 0 10 wx true (by simpa using h3))
        by_cases h4 : 0 ≤ t ∧ t ≤ d
        · have H4 := Lib.hid (fun wx => inM_any t 0 d wx true (by simpa using h4))
          obtain rfl : r = true := by rw [← hr]; exact draw_mk ⟨h1, h2, h3, h4⟩
          clear hr h1 h2 h3 h4
          go_enter Try.func53, Try.ntmps53
          go_wp2_with fail
          refine (H1.out _).mono ?_
          rintro e _w ⟨rfl, rfl⟩
          go_wp2_with fail
          refine (H2.out _).mono ?_
          rintro e _w ⟨rfl, rfl⟩
          go_wp2_with fail
          refine (H3.out _).mono ?_
          rintro e _w ⟨rfl, rfl⟩
          go_wp2_with fail
          refine (H4.out _).mono ?_
          rintro e _w ⟨rfl, rfl⟩
          go_wp2_with fail
          go_ret
          exact ⟨rfl, rfl⟩
        · have H4 := Lib.hid (fun wx => inM_any t 0 d wx false (by simp only [decide_eq_false h4]))
          obtain rfl : r = false := by rw [← hr]; exact draw_no (fun h => h4 h.2.2.2)
          clear hr h1 h2 h3 h4
          go_enter Try.func53, Try.ntmps53
          go_wp2_with fail
          refine (H1.out _).mono ?_
          rintro e _w ⟨rfl, rfl⟩
          go_wp2_with fail
          refine (H2.out _).mono ?_
          rintro e _w ⟨rfl, rfl⟩
          go_wp2_with fail
          refine (H3.out _).mono ?_
          rintro e _w ⟨rfl, rfl⟩
          go_wp2_with fail
          refine (H4.out _).mono ?_
          rintro e _w ⟨rfl, rfl⟩
          go_wp2_with fail
          go_ret
          exact ⟨rfl, rfl⟩
      · have H3 := Lib.hid (fun wx => inM_any d 0 10 wx false (by simp only [decide_eq_false h3]))
        obtain rfl : r = false := by rw [← hr]; exact draw_no (fun h => h3 h.2.2.1)
        clear hr h1 h2 h3
        go_enter Try.func53, Try.ntmps53
        go_wp2_with fail
        refine (H1.out _).mono ?_
        rintro e _w ⟨rfl, rfl⟩
        go_wp2_with fail
        refine (H2.out _).mono ?_
        rintro e _w ⟨rfl, rfl⟩
        go_wp2_with fail
        refine (H3.out _).mono ?_
        rintro e _w ⟨rfl, rfl⟩
        go_wp2_with fail
        go_ret
        exact ⟨rfl, rfl⟩
    · have H2 := Lib.hid (fun wx => inM_any g 0 u wx false (by simp only [decide_eq_false h2]))
      obtain rfl : r = false := by rw [← hr]; exact draw_no (fun h => h2 h.2.1)
      clear hr h1 h2
      go_enter Try.func53, Try.ntmps53
      go_wp2_with fail
      refine (H1.out _).mono ?_
      rintro e _w ⟨rfl, rfl⟩
      go_wp2_with fail
      refine (H2.out _).mono ?_
      rintro e _w ⟨rfl, rfl⟩
      go_wp2_with fail
      go_ret
      exact ⟨rfl, rfl⟩
  · have H1 := Lib.hid (fun wx => inM_any u 0 52 wx false (by simp only [decide_eq_false h1]))
    obtain rfl : r = false := by rw [← hr]; exact draw_no (fun h => h1 h.1)
    clear hr h1
    go_enter Try.func53, Try.ntmps53
    go_wp2_with fail
    refine (H1.out _).mono ?_
    rintro e _w ⟨rfl, rfl⟩
    go_wp2_with fail
    go_ret
    exact ⟨rfl, rfl⟩
set_option maxRecDepth 100000 in
theorem waysWith_any (u g d t : Int) (w : World) :
    Calls Try.prog 30 #[.int .i64 u, .int .i64 g, .int .i64 d, .int .i64 t] w fun e w' => e = .returned (.int .i64 (waysW u g d t)) ∧ Below w.heap.size w w' := by
  cases hd : isDrawB u g d t with
  | false =>
    have HD := Lib.hid (fun wx => isDraw_r u g d t wx false hd)
    rw [ways_out hd]
    clear hd
    go_enter Try.func30, Try.ntmps30
    go_wp2_with fail
    refine (HD.out _).mono ?_
    rintro e _w ⟨rfl, rfl⟩
    go_wp2_with fail
    go_ret
    exact ⟨rfl, Below.refl _ _⟩
  | true =>
    have HD := Lib.hid (fun wx => isDraw_r u g d t wx true hd)
    have hb := ways_bd u g d t
    obtain ⟨⟨u0, u1⟩, ⟨g0, g1⟩, ⟨d0, d1⟩, ⟨t0, t1⟩⟩ := draw_t hd
    have HA := Lib.hid (fun wx => choose_any g t wx)
    have HB := Lib.hid (fun wx => choose_any (u - g) (d - t) wx)
    have ha := choose_bd g t
    have hc := choose_bd (u - g) (d - t)
    rw [ways_in hd] at hb ⊢
    generalize chooseI g t = A at *
    generalize chooseI (u - g) (d - t) = B at *
    obtain ⟨hb0, hb1⟩ := hb
    obtain ⟨ha0, ha1⟩ := ha
    obtain ⟨hc0, hc1⟩ := hc
    clear hd
    go_enter Try.func30, Try.ntmps30
    go_wp2_with fail
    refine (HD.out _).mono ?_
    rintro e _w ⟨rfl, rfl⟩
    go_wp2_with fail
    refine (HA.out _).mono ?_
    rintro e w1 ⟨rfl, b1⟩
    go_wp2_with fail
    refine (HB.out _).mono ?_
    rintro e w2 ⟨rfl, b2⟩
    go_wp2_with fail
    go_ret
    exact ⟨rfl, b1.trans (b2.mono b1.size)⟩
set_option maxRecDepth 100000 in
theorem sWaysWith_any (u g d t : Int) (w : World) :
    Calls Try.prog 29 #[.int .i64 u, .int .i64 g, .int .i64 d, .int .i64 t] w fun e w' => e = .returned (.int .i64 (waysW u g d t)) ∧ Below w.heap.size w w' := by
  cases hd : isDrawB u g d t with
  | false =>
    have HD := Lib.hid (fun wx => sIsDraw_r u g d t wx false hd)
    rw [ways_out hd]
    clear hd
    go_enter Try.func29, Try.ntmps29
    go_wp2_with fail
    refine (HD.out _).mono ?_
    rintro e _w ⟨rfl, rfl⟩
    go_wp2_with fail
    go_ret
    exact ⟨rfl, Below.refl _ _⟩
  | true =>
    have HD := Lib.hid (fun wx => sIsDraw_r u g d t wx true hd)
    have hb := ways_bd u g d t
    obtain ⟨⟨u0, u1⟩, ⟨g0, g1⟩, ⟨d0, d1⟩, ⟨t0, t1⟩⟩ := draw_t hd
    have HA := Lib.hid (fun wx => sChoose_any g t wx)
    have HB := Lib.hid (fun wx => sChoose_any (u - g) (d - t) wx)
    have ha := choose_bd g t
    have hc := choose_bd (u - g) (d - t)
    rw [ways_in hd] at hb ⊢
    generalize chooseI g t = A at *
    generalize chooseI (u - g) (d - t) = B at *
    obtain ⟨hb0, hb1⟩ := hb
    obtain ⟨ha0, ha1⟩ := ha
    obtain ⟨hc0, hc1⟩ := hc
    clear hd
    go_enter Try.func29, Try.ntmps29
    go_wp2_with fail
    refine (HD.out _).mono ?_
    rintro e _w ⟨rfl, rfl⟩
    go_wp2_with fail
    refine (HA.out _).mono ?_
    rintro e w1 ⟨rfl, b1⟩
    go_wp2_with fail
    refine (HB.out _).mono ?_
    rintro e w2 ⟨rfl, b2⟩
    go_wp2_with fail
    go_ret
    exact ⟨rfl, b1.trans (b2.mono b1.size)⟩
set_option maxRecDepth 100000 in
set_option maxHeartbeats 1000000 in
theorem waysAtLeast_any (u g d t : Int) (w : World) :
    Calls Try.prog 32 #[.int .i64 u, .int .i64 g, .int .i64 d, .int .i64 t] w fun e w' => e = .returned (.int .i64 (waysA u g d t)) ∧ Below w.heap.size w w' := by
  cases hd : isDrawB u g d t with
  | false =>
    have HD := Lib.hid (fun wx => isDraw_r u g d t wx false hd)
    rw [waysA_out hd]
    clear hd
    go_enter Try.func32, Try.ntmps32
    go_wp2_with fail
    refine (HD.out _).mono ?_
    rintro e _w ⟨rfl, rfl⟩
    go_wp2_with fail
    go_ret
    exact ⟨rfl, Below.refl _ _⟩
  | true =>
    have HD := Lib.hid (fun wx => isDraw_r u g d t wx true hd)
    obtain ⟨⟨u0, u1⟩, ⟨g0, g1⟩, ⟨d0, d1⟩, ⟨t0, t1⟩⟩ := draw_t hd
    obtain ⟨r, hr⟩ : ∃ r, r = waysA u g d t := ⟨_, rfl⟩
    have Hr : Hid (r = sumW u g d t (d + 1 - t).toNat) := Lib.hid (by rw [hr, waysA_in hd])
    rw [← hr]
    clear hd hr
    go_enter Try.func32, Try.ntmps32
    go_wp2_with fail
    refine (HD.out _).mono ?_
    rintro e _w ⟨rfl, rfl⟩
    go_wp2_with fail
    go_loopw [9, 10] (fun s i wr => ∃ (m : Nat) (x : Int), t + m ≤ d + 1 ∧ i = .int .i64 (t + m) ∧ s = .int .i64 x ∧ Hid (x = sumW u g d t m) ∧ Below w.heap.size w wr) (fun _ i _ => (d + 1 - intOf i).toNat)
    case atStart => exact ⟨0, 0, by omega, by simp, rfl, Lib.hid rfl, Below.refl _ _⟩
    case round =>
      obtain ⟨m, x, hm, rfl, rfl, hx, B⟩ := hrel
      have hsb := sumW_bd u g d t m
      rw [← hx.out] at hsb
      obtain ⟨hs0, hs1⟩ := hsb
      have hm11 : m ≤ 11 := by omega
      by_cases hlt : t + m ≤ d
      · have HW := Lib.hid (waysWith_any u g d (t + m) wr)
        have hwb := ways_bd u g d (t + m)
        have hst := Lib.hid (sumW_step u g d t m)
        rw [← hx.out] at hst
        generalize waysW u g d (t + m) = y at *
        obtain ⟨hw0, hw1⟩ := hwb
        go_wp2_with fail
        refine HW.out.mono ?_
        rintro e w1 ⟨rfl, b1⟩
        replace B := B.trans (b1.mono B.size)
        clear HW b1
        go_wp2_with fail
        go_roundw
        case rel => exact ⟨m + 1, x + y, by omega, by congr 1; omega, rfl, Lib.hid hst.out.symm, B⟩
        case measure => simp [intOf]; omega
      · have hx2 : Hid (r = x) := Lib.hid (by rw [Hr.out, hx.out]; congr 1; omega)
        go_wp2_with fail
        go_ret
        exact ⟨by rw [hx2.out]; rfl, B⟩
set_option maxRecDepth 100000 in
set_option maxHeartbeats 1000000 in
theorem sWaysAtLeast_any (u g d t : Int) (w : World) (wt : (Lit.int .i64 t).wf = true) :
    Calls Try.prog 31 #[.int .i64 u, .int .i64 g, .int .i64 d, .int .i64 t] w fun e w' => e = .returned (.int .i64 (waysA u g d t)) ∧ Below w.heap.size w w' := by
  cases hd : isDrawB u g d t with
  | false =>
    have HD := Lib.hid (fun wx => sIsDraw_r u g d t wx false hd)
    rw [waysA_out hd]
    clear hd
    by_cases htd : t ≤ d
    · go_enter Try.func31, Try.ntmps31
      go_wp2_with fail
      go_loop [9, 10] (fun s i => s = .int .i64 0 ∧ i = .int .i64 t) (fun _ i => 0)
      case atStart => exact ⟨rfl, rfl⟩
      case round =>
        obtain ⟨rfl, rfl⟩ := hrel
        go_wp2_with fail
        refine (HD.out _).mono ?_
        rintro e _w ⟨rfl, rfl⟩
        go_wp2_with fail
        go_ret
        exact ⟨rfl, Below.refl _ _⟩
    · go_enter Try.func31, Try.ntmps31
      go_wp2_with fail
      go_loop [9, 10] (fun s i => s = .int .i64 0 ∧ i = .int .i64 t) (fun _ i => 0)
      case atStart => exact ⟨rfl, rfl⟩
      case round =>
        obtain ⟨rfl, rfl⟩ := hrel
        go_wp2_with fail
        go_ret
        exact ⟨rfl, Below.refl _ _⟩
  | true =>
    have HD := Lib.hid (fun wx => sIsDraw_r u g d t wx true hd)
    obtain ⟨⟨u0, u1⟩, ⟨g0, g1⟩, ⟨d0, d1⟩, ⟨t0, t1⟩⟩ := draw_t hd
    obtain ⟨r, hr⟩ : ∃ r, r = waysA u g d t := ⟨_, rfl⟩
    have Hr : Hid (r = sumW u g d t (d + 1 - t).toNat) := Lib.hid (by rw [hr, waysA_in hd])
    rw [← hr]
    clear hd hr
    go_enter Try.func31, Try.ntmps31
    go_wp2_with fail
    go_loopw [9, 10] (fun s i wr => ∃ (m : Nat) (x : Int), t + m ≤ d + 1 ∧ i = .int .i64 (t + m) ∧ s = .int .i64 x ∧ Hid (x = sumW u g d t m) ∧ Below w.heap.size w wr) (fun _ i _ => (d + 1 - intOf i).toNat)
    case atStart => exact ⟨0, 0, by omega, by simp, rfl, Lib.hid rfl, Below.refl _ _⟩
    case round =>
      obtain ⟨m, x, hm, rfl, rfl, hx, B⟩ := hrel
      have hsb := sumW_bd u g d t m
      rw [← hx.out] at hsb
      obtain ⟨hs0, hs1⟩ := hsb
      have hm11 : m ≤ 11 := by omega
      by_cases hlt : t + m ≤ d
      · have HW := Lib.hid (sWaysWith_any u g d (t + m) wr)
        have hwb := ways_bd u g d (t + m)
        have hst := Lib.hid (sumW_step u g d t m)
        rw [← hx.out] at hst
        generalize waysW u g d (t + m) = y at *
        obtain ⟨hw0, hw1⟩ := hwb
        go_wp2_with fail
        refine (HD.out _).mono ?_
        rintro e _w ⟨rfl, rfl⟩
        go_wp2_with fail
        refine HW.out.mono ?_
        rintro e w1 ⟨rfl, b1⟩
        replace B := B.trans (b1.mono B.size)
        clear HW b1
        go_wp2_with fail
        go_roundw
        case rel => exact ⟨m + 1, x + y, by omega, by congr 1; omega, rfl, Lib.hid hst.out.symm, B⟩
        case measure => simp [intOf]; omega
      · have hx2 : Hid (r = x) := Lib.hid (by rw [Hr.out, hx.out]; congr 1; omega)
        go_wp2_with fail
        go_ret
        exact ⟨by rw [hx2.out]; rfl, B⟩
set_option maxRecDepth 100000 in
theorem perThousand_any (u g d t : Int) (w : World) :
    Calls Try.prog 34 #[.int .i64 u, .int .i64 g, .int .i64 d, .int .i64 t] w fun e w' => e = .returned (.int .i64 (perT u g d t)) ∧ Below w.heap.size w w' := by
  have HA := Lib.hid (fun wx => choose_any u d wx)
  have HW := Lib.hid (fun wx => waysAtLeast_any u g d t wx)
  have ha := choose_bd u d
  have hw := waysA_bd u g d t
  by_cases h0 : chooseI u d = 0
  · rw [perT_0 h0]
    rw [h0] at HA
    clear h0 ha hw
    go_enter Try.func34, Try.ntmps34
    go_wp2_with fail
    refine (HA.out _).mono ?_
    rintro e w1 ⟨rfl, b1⟩
    go_wp2_with fail
    go_ret
    exact ⟨rfl, b1⟩
  · rw [perT_1 h0]
    generalize chooseI u d = A at *
    generalize waysA u g d t = B at *
    obtain ⟨ha0, ha1⟩ := ha
    obtain ⟨hw0, hw1⟩ := hw
    have hq : (A == 0) = false := by simpa using h0
    have hA : 0 < A := by omega
    have hdq : 0 ≤ 1000 * B / A ∧ 1000 * B / A ≤ 1000 * B := ⟨Int.ediv_nonneg (by omega) (by omega), Int.ediv_le_self _ (by omega)⟩
    obtain ⟨hd0, hd1⟩ := hdq
    go_enter Try.func34, Try.ntmps34
    go_wp2_with fail
    refine (HA.out _).mono ?_
    rintro e w1 ⟨rfl, b1⟩
    go_wp2_with fail
    refine (HW.out _).mono ?_
    rintro e w2 ⟨rfl, b2⟩
    go_wp2_with fail
    go_ret
    exact ⟨rfl, b1.trans (b2.mono b1.size)⟩
set_option maxRecDepth 100000 in
theorem sPerThousand_any (u g d t : Int) (w : World) (wt : (Lit.int .i64 t).wf = true) :
    Calls Try.prog 33 #[.int .i64 u, .int .i64 g, .int .i64 d, .int .i64 t] w fun e w' => e = .returned (.int .i64 (perT u g d t)) ∧ Below w.heap.size w w' := by
  cases hd : isDrawB u g d t with
  | false =>
    have HD := Lib.hid (fun wx => sIsDraw_r u g d t wx false hd)
    rw [perT_out hd]
    clear hd
    go_enter Try.func33, Try.ntmps33
    go_wp2_with fail
    refine (HD.out _).mono ?_
    rintro e _w ⟨rfl, rfl⟩
    go_wp2_with fail
    go_ret
    exact ⟨rfl, Below.refl _ _⟩
  | true =>
    have HD := Lib.hid (fun wx => sIsDraw_r u g d t wx true hd)
    clear hd
    have HA := Lib.hid (fun wx => sChoose_any u d wx)
    have HW := Lib.hid (fun wx => sWaysAtLeast_any u g d t wx wt)
    have ha := choose_bd u d
    have hw := waysA_bd u g d t
    by_cases h0 : chooseI u d = 0
    · rw [perT_0 h0]
      rw [h0] at HA
      clear h0 ha hw
      go_enter Try.func33, Try.ntmps33
      go_wp2_with fail
      refine (HD.out _).mono ?_
      rintro e _w ⟨rfl, rfl⟩
      go_wp2_with fail
      refine (HA.out _).mono ?_
      rintro e w1 ⟨rfl, b1⟩
      go_wp2_with fail
      go_ret
      exact ⟨rfl, b1⟩
    · rw [perT_1 h0]
      generalize chooseI u d = A at *
      generalize waysA u g d t = B at *
      obtain ⟨ha0, ha1⟩ := ha
      obtain ⟨hw0, hw1⟩ := hw
      have hq : (A == 0) = false := by simpa using h0
      have hA : 0 < A := by omega
      have hdq : 0 ≤ 1000 * B / A ∧ 1000 * B / A ≤ 1000 * B := ⟨Int.ediv_nonneg (by omega) (by omega), Int.ediv_le_self _ (by omega)⟩
      obtain ⟨hd0, hd1⟩ := hdq
      go_enter Try.func33, Try.ntmps33
      go_wp2_with fail
      refine (HD.out _).mono ?_
      rintro e _w ⟨rfl, rfl⟩
      go_wp2_with fail
      refine (HA.out _).mono ?_
      rintro e w1 ⟨rfl, b1⟩
      go_wp2_with fail
      refine (HW.out _).mono ?_
      rintro e w2 ⟨rfl, b2⟩
      go_wp2_with fail
      refine (HA.out _).mono ?_
      rintro e w3 ⟨rfl, b3⟩
      go_wp2_with fail
      go_ret
      exact ⟨rfl, (b1.trans (b2.mono b1.size)).trans (b3.mono (Nat.le_trans b1.size b2.size))⟩
end Go.Proofs.Ytljpeiffpkfnlaa
