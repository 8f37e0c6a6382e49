/-
  The walk of the law FnIntegers, at every code.
-/
import Derived.Test.YtlflcmignndieaaDoorDraw01
import Derived.Test.YtlflcmignndieaaDoorParse
import Derived.Test.YtlflcmignndieaaDoorItoa
import Derived.Test.YtlflcmignndieaaDoorSent
namespace Go.Proofs.YtlflcmignndieaaDoor
open Go.RowKit Go.Extern.Stop Go.Stop Go.Extern

theorem big_t (a : Option Addr) (len cap : Nat) (w : World) (h : 1048576 < len) :
    Calls Tryd.prog 8 #[.slice a len cap] w fun e w' => e = .returned (.bool true) ∧ w = w' := by
  have hd : decide (1048576 < (len : Int)) = true := by simp; omega
  go_enter Tryd.func8, Tryd.ntmps8
  go_wp2
  go_ret
  exact ⟨rfl, rfl⟩
theorem big_f (a : Option Addr) (len cap : Nat) (w : World) (h : len ≤ 1048576) :
    Calls Tryd.prog 8 #[.slice a len cap] w fun e w' => e = .returned (.bool false) ∧ w = w' := by
  have hd : decide (1048576 < (len : Int)) = false := by simp; omega
  go_enter Tryd.func8, Tryd.ntmps8
  go_wp2
  go_ret
  exact ⟨rfl, rfl⟩

/-- ParseInt at the numeral of an int. -/
theorem parse_itoa (a0 a1 : Addr) (m : Int) (w : World) (wm : (Lit.int .i64 m).wf = true) (hS : Sent a0 a1 w) (h0 : 0 ≤ m) (h1 : m ≤ 1000000000000) :
    Calls Tryd.prog 10 #[.string ⟨(Lib.itoa m).toArray⟩] w fun e w' => e = .returned (.tuple #[.int .i64 m, .bool true]) ∧ Below w.heap.size w w' := by
  have bm := bounds_i64 wm
  have hl := itoa_len m bm.1 bm.2
  refine (parseInt_any a0 a1 _ _ ?_ hS).mono ?_
  · show (Lib.itoa m).toArray.size ≤ _; rw [List.size_toArray]; omega
  · rintro e w' ⟨⟨v, rfl, hv⟩, hb⟩
    have e1 : (ByteArray.mk (Lib.itoa m).toArray).data.toList = Lib.itoa m := by simp
    rw [e1] at hv
    obtain ⟨o1, o2⟩ := okD_itoa m h0 h1
    rcases hv with ⟨_, rfl⟩ | ⟨h, _⟩
    · rw [o2]; exact ⟨rfl, hb⟩
    · exact absurd o1 h
theorem parse_itoa_no (a0 a1 : Addr) (m : Int) (w : World) (wm : (Lit.int .i64 m).wf = true) (hS : Sent a0 a1 w) (h : ¬ (0 ≤ m ∧ m ≤ 1000000000000)) :
    Calls Tryd.prog 10 #[.string ⟨(Lib.itoa m).toArray⟩] w fun e w' => e = .returned (.tuple #[.int .i64 0, .bool false]) ∧ Below w.heap.size w w' := by
  have bm := bounds_i64 wm
  have hl := itoa_len m bm.1 bm.2
  refine (parseInt_any a0 a1 _ _ ?_ hS).mono ?_
  · show (Lib.itoa m).toArray.size ≤ _; rw [List.size_toArray]; omega
  · rintro e w' ⟨⟨v, rfl, hv⟩, hb⟩
    have e1 : (ByteArray.mk (Lib.itoa m).toArray).data.toList = Lib.itoa m := by simp
    rw [e1] at hv
    rcases hv with ⟨h2, _⟩ | ⟨_, rfl⟩
    · exact absurd h2 (not_okD_itoa m h)
    · exact ⟨rfl, hb⟩

theorem rem_zero (a b : Int) (hb : 1 ≤ b) : (a.tmod b - a % b).tmod b = 0 := by
  by_cases h : a.tmod b < 0
  · rw [tmod_neg a b hb h, show a.tmod b - (a.tmod b + b) = -b by omega, Int.neg_tmod, Int.tmod_self]; rfl
  · rw [tmod_pos a b hb (by omega), Int.sub_self, Int.zero_tmod]

theorem ceil_ok (a b : Int) (h2 : 1 ≤ b) : a ≤ (a + b - 1) / b * b ∧ (a + b - 1) / b * b ≤ a + b - 1 := by
  have e := Int.mul_ediv_add_emod (a + b - 1) b
  have m0 := Int.emod_nonneg (a + b - 1) (show b ≠ 0 by omega)
  have m1 := Int.emod_lt_of_pos (a + b - 1) (show 0 < b by omega)
  rw [Int.mul_comm] at e
  constructor <;> omega

structure Env (s0 s1 : Addr) (a : Option Addr) (len : Nat) (w : World) : Prop where
  sent : Sent s0 s1 w
  pow : Pow w
  bytes : BytesB w.heap.size w a len
theorem Env.below {s0 s1 : Addr} {a : Option Addr} {len : Nat} {w w' : World} (h : Env s0 s1 a len w) (hb : Below w.heap.size w w') : Env s0 s1 a len w' :=
  ⟨h.sent.below hb (Nat.le_refl _), h.pow.below hb (Nat.le_refl _), (h.bytes.below hb).mono hb.size⟩

set_option maxRecDepth 100000 in
set_option maxHeartbeats 4000000 in
theorem fnIntegers_walk (a0 : Option Addr) (len0 cap0 : Nat) (s0 s1 : Addr) (w : World) (E0 : Env s0 s1 a0 len0 w) :
    Calls Tryd.prog 3 #[.slice a0 len0 cap0] w fun e w' => e = .returned (.bool true) ∧ Below w.heap.size w w' := by
  by_cases hb : 1048576 < len0
  · go_enter Tryd.func3, Tryd.ntmps3
    go_wp2_with fail
    refine (big_t _ _ _ _ hb).mono ?_
    rintro e w' ⟨rfl, rfl⟩
    go_wp2
    go_ret
    exact ⟨rfl, Below.refl _ _⟩
  · have hl : len0 ≤ 1048576 := by omega
    clear hb
    go_enter Tryd.func3, Tryd.ntmps3
    go_wp2_with fail
    refine (big_f _ _ _ _ hl).mono ?_
    rintro e w' ⟨rfl, rfl⟩
    go_wp2_with fail
    refine (drawParseInt_any _ _ _ _ hl E0.bytes).mono ?_
    rintro e w1 ⟨⟨s, hs, rfl⟩, b1⟩
    have E1 := E0.below b1
    clear E0
    go_wp2_with fail
    refine (parseInt_any s0 s1 _ _ (by omega) E1.sent).mono ?_
    rintro e w2 ⟨⟨v, rfl, hv⟩, b2⟩
    have E2 := E1.below b2
    have B2 := b1.trans (b2.mono b1.size)
    clear E1 b1 b2
    obtain ⟨n, ok, rfl, hok⟩ : ∃ (n : Int) (ok : Bool), v = .tuple #[.int .i64 n, .bool ok] ∧ Hid ((ok = true ∧ (Lit.int .i64 n).wf = true ∧ (Lib.itoa n == s.toList) = true) ∨ ok = false) := by
      rcases hv with ⟨h, rfl⟩ | ⟨h, rfl⟩
      · refine ⟨_, _, rfl, Lib.hid (.inl ⟨rfl, WalkArith.wf_i64 (by have := h.2.2.2; omega), ?_⟩)⟩
        rw [itoa_nat, ByteArray.toList_eq, beq_iff_eq]
        exact canon _ h.2.2.1 h.1 h.2.1
      · exact ⟨_, _, rfl, Lib.hid (.inr rfl)⟩
    clear hv
    go_wp2_with fail
    refine (drawFormatInt_any _ _ _ _ hl E2.bytes).mono ?_
    rintro e w3 ⟨⟨m, wm, rfl⟩, b3⟩
    have E3 := E2.below b3
    have B3 := B2.trans (b3.mono B2.size)
    clear E2 B2 b3
    go_wp2_with fail
    refine (formatInt_any _ _ wm E3.pow).mono ?_
    rintro e w4 ⟨rfl, b4⟩
    have E4 := E3.below b4
    have B4 := B3.trans (b4.mono B3.size)
    clear E3 B3 b4
    have bm := bounds_i64 wm
    have hp : ∃ (k : Int) (fine : Bool), Hid ((fine = true ∧ k = m ∧ 0 ≤ m ∧ m ≤ 1000000000000) ∨ (fine = false ∧ ¬ (0 ≤ m ∧ m ≤ 1000000000000))) ∧ Calls Tryd.prog 10 #[.string ⟨(Lib.itoa m).toArray⟩] w4 fun e w' => e = .returned (.tuple #[.int .i64 k, .bool fine]) ∧ Below w4.heap.size w4 w' := by
      by_cases hm : 0 ≤ m ∧ m ≤ 1000000000000
      · exact ⟨m, true, Lib.hid (.inl ⟨rfl, rfl, hm.1, hm.2⟩), parse_itoa s0 s1 m w4 wm E4.sent hm.1 hm.2⟩
      · exact ⟨0, false, Lib.hid (.inr ⟨rfl, hm⟩), parse_itoa_no s0 s1 m w4 wm E4.sent hm⟩
    obtain ⟨k, fine, hk, hcall⟩ := hp
    have hcall := Lib.hid hcall
    go_wp2_with fail
    refine hcall.out.mono ?_
    rintro e w5 ⟨rfl, b5⟩
    have E5 := E4.below b5
    have B5 := B4.trans (b5.mono B4.size)
    clear E4 B4 b5 hcall
    go_wp2_with fail
    refine (drawCeilDiv_any _ _ _ _ hl E5.bytes).mono ?_
    rintro e w6 ⟨⟨a, b, wa, wb, rfl⟩, b6⟩
    have E6 := E5.below b6
    have B6 := B5.trans (b6.mono B5.size)
    clear E5 B5 b6
    go_wp2_with fail
    refine (ceilDiv_any s0 s1 _ _ _ E6.sent).mono ?_
    rintro e w7 ⟨rfl, rfl⟩
    go_wp2_with fail
    refine (mod_any s0 s1 _ _ _ wa E6.sent).mono ?_
    rintro e w7 ⟨rfl, rfl⟩
    have hq := Lib.hid (show ceilI a b = if 0 ≤ a ∧ a ≤ 1000000000000 ∧ 1 ≤ b ∧ b ≤ 1000000000000 then (a + b - 1) / b else 0 from rfl)
    have hr := Lib.hid (show modI a b = if 1 ≤ b ∧ b ≤ 1000000000000 then a % b else 0 from rfl)
    generalize ceilI a b = q at *
    generalize modI a b = r at *
    have ba := bounds_i64 wa
    have bb := bounds_i64 wb
    obtain ⟨ba1, ba2⟩ := ba
    obtain ⟨bb1, bb2⟩ := bb
    have hfin : Hid (b < 1 ∧ q = 0 ∧ r = 0) ∨ Hid (1 ≤ b ∧ 1000000000000 < b ∧ q = 0 ∧ r = 0) ∨ Hid (1 ≤ b ∧ b ≤ 1000000000000 ∧ a < 0 ∧ q = 0 ∧ r = a % b) ∨
        Hid (1 ≤ b ∧ b ≤ 1000000000000 ∧ 1000000000000 < a ∧ q = 0 ∧ r = a % b) ∨ Hid (1 ≤ b ∧ b ≤ 1000000000000 ∧ 0 ≤ a ∧ a ≤ 1000000000000 ∧ q = (a + b - 1) / b ∧ r = a % b) := by
      by_cases c1 : b < 1
      · exact .inl (Lib.hid ⟨c1, by rw [hq.out, if_neg (by omega)], by rw [hr.out, if_neg (by omega)]⟩)
      by_cases c2 : 1000000000000 < b
      · exact .inr (.inl (Lib.hid ⟨by omega, c2, by rw [hq.out, if_neg (by omega)], by rw [hr.out, if_neg (by omega)]⟩))
      by_cases c3 : a < 0
      · exact .inr (.inr (.inl (Lib.hid ⟨by omega, by omega, c3, by rw [hq.out, if_neg (by omega)], by rw [hr.out, if_pos (by omega)]⟩)))
      by_cases c4 : 1000000000000 < a
      · exact .inr (.inr (.inr (.inl (Lib.hid ⟨by omega, by omega, c4, by rw [hq.out, if_neg (by omega)], by rw [hr.out, if_pos (by omega)]⟩))))
      · exact .inr (.inr (.inr (.inr (Lib.hid ⟨by omega, by omega, by omega, by omega, by rw [hq.out, if_pos (by omega)], by rw [hr.out, if_pos (by omega)]⟩))))
    clear hq hr
    -- the rest, once the first test is behind
    have hko : Hid (fine = true ∧ k = m ∧ 0 ≤ m ∧ m ≤ 1000000000000) ∨ Hid (fine = false ∧ m < 0) ∨ Hid (fine = false ∧ 0 ≤ m ∧ 1000000000000 < m) := by
      rcases hk.out with h | ⟨h1, h2⟩
      · exact .inl (Lib.hid h)
      · by_cases h0 : m < 0
        · exact .inr (.inl (Lib.hid ⟨h1, h0⟩))
        · exact .inr (.inr (Lib.hid ⟨h1, by omega, by omega⟩))
    clear hk bm
    have hokk := hok.out
    clear hok
    rcases hokk with ⟨rfl, wn, hn⟩ | rfl
    · go_wp2_with fail
      refine (formatInt_any _ _ wn E6.pow).mono ?_
      rintro e w7 ⟨rfl, b7⟩
      have B7 := B6.trans (b7.mono B6.size)
      clear E6 B6 b7
      rcases hko with h | h | h
      · obtain ⟨rfl, rfl, m0, m1⟩ := h.out
        clear h
        rcases hfin with h | h | h | h | h
        · obtain ⟨c1, rfl, rfl⟩ := h.out
          clear h
          go_wp2_with fail
          go_ret
          exact ⟨rfl, B7⟩
        · obtain ⟨c0, c1, rfl, rfl⟩ := h.out
          clear h
          go_wp2_with fail
          go_ret
          exact ⟨rfl, B7⟩
        · obtain ⟨c0, c1, c2, rfl, rfl⟩ := h.out
          clear h
          have r0 := Int.emod_nonneg a (show b ≠ 0 by omega)
          have r1 := Int.emod_lt_of_pos a (show 0 < b by omega)
          have r2 := tmod_bd a b c0
          obtain ⟨r3, r4⟩ := r2
          have hz := rem_zero a b c0
          go_wp2_with fail
          go_ret
          exact ⟨rfl, B7⟩
        · obtain ⟨c0, c1, c2, rfl, rfl⟩ := h.out
          clear h
          have r0 := Int.emod_nonneg a (show b ≠ 0 by omega)
          have r1 := Int.emod_lt_of_pos a (show 0 < b by omega)
          go_wp2_with fail
          go_ret
          exact ⟨rfl, B7⟩
        · obtain ⟨c0, c1, c2, c3, hq, rfl⟩ := h.out
          clear h
          have r0 := Int.emod_nonneg a (show b ≠ 0 by omega)
          have r1 := Int.emod_lt_of_pos a (show 0 < b by omega)
          have hq2 := ceil_ok a b c0
          rw [← hq] at hq2
          clear hq
          obtain ⟨q1, q2⟩ := hq2
          have hd : decide (q * b - a < b) = true := by simp; omega
          go_wp2_with fail
          go_ret
          exact ⟨rfl, B7⟩
      · obtain ⟨rfl, m0⟩ := h.out
        clear h
        rcases hfin with h | h | h | h | h
        · obtain ⟨c1, rfl, rfl⟩ := h.out
          clear h
          go_wp2_with fail
          go_ret
          exact ⟨rfl, B7⟩
        · obtain ⟨c0, c1, rfl, rfl⟩ := h.out
          clear h
          go_wp2_with fail
          go_ret
          exact ⟨rfl, B7⟩
        · obtain ⟨c0, c1, c2, rfl, rfl⟩ := h.out
          clear h
          have r0 := Int.emod_nonneg a (show b ≠ 0 by omega)
          have r1 := Int.emod_lt_of_pos a (show 0 < b by omega)
          have r2 := tmod_bd a b c0
          obtain ⟨r3, r4⟩ := r2
          have hz := rem_zero a b c0
          go_wp2_with fail
          go_ret
          exact ⟨rfl, B7⟩
        · obtain ⟨c0, c1, c2, rfl, rfl⟩ := h.out
          clear h
          have r0 := Int.emod_nonneg a (show b ≠ 0 by omega)
          have r1 := Int.emod_lt_of_pos a (show 0 < b by omega)
          go_wp2_with fail
          go_ret
          exact ⟨rfl, B7⟩
        · obtain ⟨c0, c1, c2, c3, hq, rfl⟩ := h.out
          clear h
          have r0 := Int.emod_nonneg a (show b ≠ 0 by omega)
          have r1 := Int.emod_lt_of_pos a (show 0 < b by omega)
          have hq2 := ceil_ok a b c0
          rw [← hq] at hq2
          clear hq
          obtain ⟨q1, q2⟩ := hq2
          have hd : decide (q * b - a < b) = true := by simp; omega
          go_wp2_with fail
          go_ret
          exact ⟨rfl, B7⟩
      · obtain ⟨rfl, m0, m1⟩ := h.out
        clear h
        rcases hfin with h | h | h | h | h
        · obtain ⟨c1, rfl, rfl⟩ := h.out
          clear h
          go_wp2_with fail
          go_ret
          exact ⟨rfl, B7⟩
        · obtain ⟨c0, c1, rfl, rfl⟩ := h.out
          clear h
          go_wp2_with fail
          go_ret
          exact ⟨rfl, B7⟩
        · obtain ⟨c0, c1, c2, rfl, rfl⟩ := h.out
          clear h
          have r0 := Int.emod_nonneg a (show b ≠ 0 by omega)
          have r1 := Int.emod_lt_of_pos a (show 0 < b by omega)
          have r2 := tmod_bd a b c0
          obtain ⟨r3, r4⟩ := r2
          have hz := rem_zero a b c0
          go_wp2_with fail
          go_ret
          exact ⟨rfl, B7⟩
        · obtain ⟨c0, c1, c2, rfl, rfl⟩ := h.out
          clear h
          have r0 := Int.emod_nonneg a (show b ≠ 0 by omega)
          have r1 := Int.emod_lt_of_pos a (show 0 < b by omega)
          go_wp2_with fail
          go_ret
          exact ⟨rfl, B7⟩
        · obtain ⟨c0, c1, c2, c3, hq, rfl⟩ := h.out
          clear h
          have r0 := Int.emod_nonneg a (show b ≠ 0 by omega)
          have r1 := Int.emod_lt_of_pos a (show 0 < b by omega)
          have hq2 := ceil_ok a b c0
          rw [← hq] at hq2
          clear hq
          obtain ⟨q1, q2⟩ := hq2
          have hd : decide (q * b - a < b) = true := by simp; omega
          go_wp2_with fail
          go_ret
          exact ⟨rfl, B7⟩
    · clear E6
      rcases hko with h | h | h
      · obtain ⟨rfl, rfl, m0, m1⟩ := h.out
        clear h
        rcases hfin with h | h | h | h | h
        · obtain ⟨c1, rfl, rfl⟩ := h.out
          clear h
          go_wp2_with fail
          go_ret
          exact ⟨rfl, B6⟩
        · obtain ⟨c0, c1, rfl, rfl⟩ := h.out
          clear h
          go_wp2_with fail
          go_ret
          exact ⟨rfl, B6⟩
        · obtain ⟨c0, c1, c2, rfl, rfl⟩ := h.out
          clear h
          have r0 := Int.emod_nonneg a (show b ≠ 0 by omega)
          have r1 := Int.emod_lt_of_pos a (show 0 < b by omega)
          have r2 := tmod_bd a b c0
          obtain ⟨r3, r4⟩ := r2
          have hz := rem_zero a b c0
          go_wp2_with fail
          go_ret
          exact ⟨rfl, B6⟩
        · obtain ⟨c0, c1, c2, rfl, rfl⟩ := h.out
          clear h
          have r0 := Int.emod_nonneg a (show b ≠ 0 by omega)
          have r1 := Int.emod_lt_of_pos a (show 0 < b by omega)
          go_wp2_with fail
          go_ret
          exact ⟨rfl, B6⟩
        · obtain ⟨c0, c1, c2, c3, hq, rfl⟩ := h.out
          clear h
          have r0 := Int.emod_nonneg a (show b ≠ 0 by omega)
          have r1 := Int.emod_lt_of_pos a (show 0 < b by omega)
          have hq2 := ceil_ok a b c0
          rw [← hq] at hq2
          clear hq
          obtain ⟨q1, q2⟩ := hq2
          have hd : decide (q * b - a < b) = true := by simp; omega
          go_wp2_with fail
          go_ret
          exact ⟨rfl, B6⟩
      · obtain ⟨rfl, m0⟩ := h.out
        clear h
        rcases hfin with h | h | h | h | h
        · obtain ⟨c1, rfl, rfl⟩ := h.out
          clear h
          go_wp2_with fail
          go_ret
          exact ⟨rfl, B6⟩
        · obtain ⟨c0, c1, rfl, rfl⟩ := h.out
          clear h
          go_wp2_with fail
          go_ret
          exact ⟨rfl, B6⟩
        · obtain ⟨c0, c1, c2, rfl, rfl⟩ := h.out
          clear h
          have r0 := Int.emod_nonneg a (show b ≠ 0 by omega)
          have r1 := Int.emod_lt_of_pos a (show 0 < b by omega)
          have r2 := tmod_bd a b c0
          obtain ⟨r3, r4⟩ := r2
          have hz := rem_zero a b c0
          go_wp2_with fail
          go_ret
          exact ⟨rfl, B6⟩
        · obtain ⟨c0, c1, c2, rfl, rfl⟩ := h.out
          clear h
          have r0 := Int.emod_nonneg a (show b ≠ 0 by omega)
          have r1 := Int.emod_lt_of_pos a (show 0 < b by omega)
          go_wp2_with fail
          go_ret
          exact ⟨rfl, B6⟩
        · obtain ⟨c0, c1, c2, c3, hq, rfl⟩ := h.out
          clear h
          have r0 := Int.emod_nonneg a (show b ≠ 0 by omega)
          have r1 := Int.emod_lt_of_pos a (show 0 < b by omega)
          have hq2 := ceil_ok a b c0
          rw [← hq] at hq2
          clear hq
          obtain ⟨q1, q2⟩ := hq2
          have hd : decide (q * b - a < b) = true := by simp; omega
          go_wp2_with fail
          go_ret
          exact ⟨rfl, B6⟩
      · obtain ⟨rfl, m0, m1⟩ := h.out
        clear h
        rcases hfin with h | h | h | h | h
        · obtain ⟨c1, rfl, rfl⟩ := h.out
          clear h
          go_wp2_with fail
          go_ret
          exact ⟨rfl, B6⟩
        · obtain ⟨c0, c1, rfl, rfl⟩ := h.out
          clear h
          go_wp2_with fail
          go_ret
          exact ⟨rfl, B6⟩
        · obtain ⟨c0, c1, c2, rfl, rfl⟩ := h.out
          clear h
          have r0 := Int.emod_nonneg a (show b ≠ 0 by omega)
          have r1 := Int.emod_lt_of_pos a (show 0 < b by omega)
          have r2 := tmod_bd a b c0
          obtain ⟨r3, r4⟩ := r2
          have hz := rem_zero a b c0
          go_wp2_with fail
          go_ret
          exact ⟨rfl, B6⟩
        · obtain ⟨c0, c1, c2, rfl, rfl⟩ := h.out
          clear h
          have r0 := Int.emod_nonneg a (show b ≠ 0 by omega)
          have r1 := Int.emod_lt_of_pos a (show 0 < b by omega)
          go_wp2_with fail
          go_ret
          exact ⟨rfl, B6⟩
        · obtain ⟨c0, c1, c2, c3, hq, rfl⟩ := h.out
          clear h
          have r0 := Int.emod_nonneg a (show b ≠ 0 by omega)
          have r1 := Int.emod_lt_of_pos a (show 0 < b by omega)
          have hq2 := ceil_ok a b c0
          rw [← hq] at hq2
          clear hq
          obtain ⟨q1, q2⟩ := hq2
          have hd : decide (q * b - a < b) = true := by simp; omega
          go_wp2_with fail
          go_ret
          exact ⟨rfl, B6⟩
end Go.Proofs.YtlflcmignndieaaDoor
