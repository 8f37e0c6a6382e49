/-
  Hands as the bits of one number: bitOf, the two tests, IsHand (the program's), by contract.
-/
import Derived.Test.YtcafbnddbddijaaModel05
namespace Go.Proofs.Ytcafbnddbddijaa
open Go.RowKit
set_option linter.unusedVariables false
set_option linter.unusedSimpArgs false

def bitN (c : Int) : Nat := if isCard c then 2 ^ c.toNat else 0
theorem bitN_in {c : Int} (h : isCard c = true) : bitN c = 2 ^ c.toNat := by unfold bitN; rw [h]; rfl
theorem bitN_out {c : Int} (h : isCard c = false) : bitN c = 0 := by unfold bitN; rw [h]; rfl
theorem pow_lt52 {m : Nat} (h : m ≤ 51) : (2 : Nat) ^ m < 2 ^ 52 := Nat.pow_lt_pow_right (by omega) (by omega)
theorem bitN_lt (c : Int) : bitN c < 2 ^ 52 := by
  cases h : isCard c with
  | true =>
    rw [bitN_in h]
    have := isCard_t h
    exact pow_lt52 (by omega)
  | false => rw [bitN_out h]; exact Nat.pos_of_ne_zero (by decide)
theorem u64_nat {n : Nat} (h : n < 2 ^ 52) : IntKind.u64.wrap (n : Int) = (n : Int) := by
  rw [IntKind.wrap_u64]
  have : (2 : Nat) ^ 52 = 4503599627370496 := by decide
  omega
theorem ofInt_nat {a : Nat} (ha : a < 2 ^ 52) : (BitVec.ofInt 64 (a : Int)).toNat = a := by
  rw [BitVec.toNat_ofInt]
  have : (2 : Nat) ^ 52 = 4503599627370496 := by decide
  have h2 : ((2 ^ 64 : Nat) : Int) = 18446744073709551616 := by decide
  rw [h2]; omega
theorem bits_and {a b : Nat} (ha : a < 2 ^ 52) (hb : b < 2 ^ 52) : bits .and .u64 (a : Int) (b : Int) = ((a &&& b : Nat) : Int) := by
  show IntKind.u64.wrap ((BitVec.ofInt 64 (a : Int) &&& BitVec.ofInt 64 (b : Int)).toNat : Nat) = _
  rw [BitVec.toNat_and, ofInt_nat ha, ofInt_nat hb]
  exact u64_nat (Nat.lt_of_le_of_lt Nat.and_le_left ha)
theorem bits_or {a b : Nat} (ha : a < 2 ^ 52) (hb : b < 2 ^ 52) : bits .or .u64 (a : Int) (b : Int) = ((a ||| b : Nat) : Int) := by
  show IntKind.u64.wrap ((BitVec.ofInt 64 (a : Int) ||| BitVec.ofInt 64 (b : Int)).toNat : Nat) = _
  rw [BitVec.toNat_or, ofInt_nat ha, ofInt_nat hb]
  exact u64_nat (Nat.or_lt_two_pow ha hb)
theorem bitOf_any (c : Int) (w : World) :
    Calls Try.prog 57 #[.int .i64 c] w fun e w' => e = .returned (.int .u64 (bitN c : Nat)) ∧ w = w' := by
  by_cases h0 : 0 ≤ c
  · by_cases h1 : c ≤ 51
    · have Hr : Hid (((bitN c : Nat) : Int) = IntKind.u64.wrap (2 ^ c.toNat)) := Lib.hid (by
        have e : ((2 : Int) ^ c.toNat) = ((2 ^ c.toNat : Nat) : Int) := by simp
        rw [e, u64_nat (pow_lt52 (by omega)), bitN_in (by unfold isCard; simp; omega)])
      go_enter Try.func57, Try.ntmps57
      go_wp2
      go_ret
      exact ⟨by rw [Hr.out]; rfl, rfl⟩
    · have Hr : Hid (bitN c = 0) := Lib.hid (bitN_out (by unfold isCard; simp; omega))
      have hd : decide (c ≤ 51) = false := by simp; omega
      go_enter Try.func57, Try.ntmps57
      go_wp2
      go_ret
      exact ⟨by rw [Hr.out]; rfl, rfl⟩
  · have Hr : Hid (bitN c = 0) := Lib.hid (bitN_out (by unfold isCard; simp; omega))
    go_enter Try.func57, Try.ntmps57
    go_wp2
    go_ret
    exact ⟨by rw [Hr.out]; rfl, rfl⟩
theorem bitN_ne (c : Int) : ((((bitN c : Nat) : Int)) != 0) = isCard c := by
  cases h : isCard c with
  | true =>
    rw [bitN_in h]
    have : 0 < 2 ^ c.toNat := Nat.pow_pos (by omega)
    simp only [bne_iff_ne, ne_eq]; omega
  | false => rw [bitN_out h]; rfl
theorem hasPlace_any (s c : Int) (w : World) :
    Calls Try.prog 55 #[.int .u64 s, .int .i64 c] w fun e w' => e = .returned (.bool (isCard c)) ∧ w = w' := by
  have Hb := Lib.hid (bitOf_any c w)
  have Hn := Lib.hid (bitN_ne c)
  generalize bitN c = m at *
  go_enter Try.func55, Try.ntmps55
  go_wp2_with fail
  refine Hb.out.mono ?_
  rintro e _w ⟨rfl, rfl⟩
  go_wp2_with fail
  go_ret
  exact ⟨by rw [← Hn.out]; rfl, rfl⟩
theorem lacks_any (m : Nat) (c : Int) (w : World) (hm : m < 2 ^ 52) :
    Calls Try.prog 56 #[.int .u64 (m : Nat), .int .i64 c] w fun e w' => e = .returned (.bool (decide (m &&& bitN c = 0))) ∧ w = w' := by
  have Hb := Lib.hid (bitOf_any c w)
  have hand := bits_and hm (bitN_lt c)
  have Hr : Hid (decide (m &&& bitN c = 0) = ((((m &&& bitN c : Nat) : Int)) == 0)) := Lib.hid (by
    by_cases h : m &&& bitN c = 0
    · rw [h]; rfl
    · rw [decide_eq_false h]
      symm
      rw [beq_eq_false_iff_ne]
      intro e; exact h (by omega))
  generalize m &&& bitN c = p at *
  generalize bitN c = q at *
  clear hm
  go_enter Try.func56, Try.ntmps56
  go_wp2_with fail
  refine Hb.out.mono ?_
  rintro e _w ⟨rfl, rfl⟩
  go_wp2_with fail
  go_ret
  exact ⟨by rw [Hr.out]; rfl, rfl⟩
theorem has_take (zs : List Int) (k : Nat) (h : k < zs.length) (c : Int) : hasI (zs.take (k + 1)) c = (hasI (zs.take k) c || decide (zs[k] = c)) := by
  unfold hasI
  rw [List.take_succ_eq_append_getElem h]
  have e : (c ∈ zs.take k ++ [zs[k]]) ↔ (c ∈ zs.take k ∨ zs[k] = c) := by
    rw [List.mem_append, List.mem_singleton]; exact or_congr Iff.rfl eq_comm
  rw [decide_eq_decide.2 e, Bool.decide_or]
theorem and_bit (m : Nat) {c : Int} (hc : isCard c = true) : decide (m &&& bitN c = 0) = !m.testBit c.toNat := by
  rw [bitN_in hc]
  cases h : m.testBit c.toNat with
  | true =>
    rw [Bool.not_true, decide_eq_false_iff_not]
    intro e
    have h2 : (m &&& 2 ^ c.toNat).testBit c.toNat = true := by
      rw [Nat.testBit_and, h, Nat.testBit_two_pow]; simp
    rw [e, Nat.zero_testBit] at h2
    cases h2
  | false =>
    rw [Bool.not_false, decide_eq_true_eq]
    refine Nat.eq_of_testBit_eq fun j => ?_
    rw [Nat.testBit_and, Nat.testBit_two_pow, Nat.zero_testBit]
    by_cases e : c.toNat = j
    · subst e; rw [h]; rfl
    · simp [e]

set_option maxRecDepth 100000 in
set_option maxHeartbeats 1000000 in
theorem isHand_any (v : Value) (zs : List Int) (b : Nat) (w : World) (h : RdAt .i64 w v zs b) (hl : zs.length ≤ 1099511627776) :
    Calls Try.prog 33 #[v] w fun e w' => e = .returned (.bool (isHand zs)) ∧ Below w.heap.size w w' := by
  obtain ⟨a, cap, rfl, -, -, hcell⟩ := h
  obtain ⟨n, hn⟩ : ∃ n, n = zs.length := ⟨_, rfl⟩
  have Hn := Lib.hid hn
  rw [← hn] at hl ⊢
  clear hn
  obtain ⟨r, hr⟩ : ∃ r, r = isHand zs := ⟨_, rfl⟩
  have Hr := Lib.hid hr
  rw [← hr]
  clear hr
  go_enter Try.func33, Try.ntmps33
  go_wp2_with fail
  go_loopw [3, 10] (fun s i wr => ∃ k m : Nat, k ≤ n ∧ i = .int .i64 k ∧ s = .int .u64 (m : Nat) ∧ Hid (m < 2 ^ 52) ∧ Hid (∀ c : Nat, c < 52 → m.testBit c = hasI (zs.take k) (c : Int)) ∧ Below w.heap.size w wr ∧ Hid (∀ j (hj : j < zs.length), j < k → isCard zs[j] = true ∧ hasI (zs.take j) zs[j] = false)) (fun _ i _ => n - (intOf i).toNat)
  case atStart => exact ⟨0, 0, Nat.zero_le _, rfl, rfl, Lib.hid (by decide), Lib.hid (fun c _ => by simp [hasI]), Below.refl _ _, Lib.hid (fun j _ h => by omega)⟩
  case round =>
    obtain ⟨k, m, hk, rfl, rfl, hm, hbits, hB, hok⟩ := hrel
    by_cases hlt : k < n
    · have hz : k < zs.length := by rw [← Hn.out]; exact hlt
      rcases hcell with h0 | ⟨off, rfl, hc⟩
      · subst h0; simp at hz
      obtain ⟨y, hy⟩ : ∃ y, Hid (y = zs[k]) := ⟨_, Lib.hid rfl⟩
      have h1 : wr.cell? ⟨b, off + k, none⟩ = some (.int .i64 y) := by
        have h1 := hc k hz
        rw [hB.cell (World.block_lt_of_cell? _ _ h1), h1, hy.out]
      clear hc
      have P1 : Hid (∀ W, Calls Try.prog 55 #[.int .u64 (m : Nat), .int .i64 y] W fun e w' => e = .returned (.bool (isCard y)) ∧ W = w') := Lib.hid (fun W => hasPlace_any _ y W)
      have P2 : Hid (∀ W, Calls Try.prog 56 #[.int .u64 (m : Nat), .int .i64 y] W fun e w' => e = .returned (.bool (decide (m &&& bitN y = 0))) ∧ W = w') := Lib.hid (fun W => lacks_any m y W hm.out)
      have P3 : Hid (∀ W, Calls Try.prog 57 #[.int .i64 y] W fun e w' => e = .returned (.int .u64 (bitN y : Nat)) ∧ W = w') := Lib.hid (fun W => bitOf_any y W)
      have hsz := hB.size
      cases e1 : isCard y with
      | false =>
        have hr1 : Hid (r = false) := Lib.hid (by rw [Hr.out]; exact isHand_no hz (.inl (by rw [← hy.out]; exact e1)))
        have E1 := Lib.hid e1
        clear e1
        go_wp2_with fail
        refine wp_loop_rounds 3 ?_
        rw [rounds_succ]
        go_wp2_with fail
        refine (P1.out _).mono ?_
        rintro e _w ⟨rfl, rfl⟩
        rw [E1.out]
        go_wp2_with fail
        go_ret
        exact ⟨by rw [hr1.out]; rfl, hB.alloc hsz _⟩
      | true =>
        have hyb := isCard_t e1
        have E1 := Lib.hid e1
        have HA := Lib.hid (and_bit m e1)
        have Hbn := Lib.hid (bitN_in e1)
        have hbt : m.testBit y.toNat = hasI (zs.take k) y := by
          have := hbits.out y.toNat (by omega)
          rw [show ((y.toNat : Nat) : Int) = y by omega] at this
          exact this
        clear e1
        cases e2 : hasI (zs.take k) y with
        | true =>
          have hr1 : Hid (r = false) := Lib.hid (by rw [Hr.out]; exact isHand_no hz (.inr (by rw [← hy.out]; exact e2)))
          have HA2 : Hid (decide (m &&& bitN y = 0) = false) := Lib.hid (by rw [HA.out, hbt, e2]; rfl)
          clear e2 hbt hyb
          go_wp2_with fail
          refine wp_loop_rounds 3 ?_
          rw [rounds_succ]
          go_wp2_with fail
          refine (P1.out _).mono ?_
          rintro e _w ⟨rfl, rfl⟩
          rw [E1.out]
          go_wp2_with fail
          rw [rounds_succ]
          go_wp2_with fail
          refine (P2.out _).mono ?_
          rintro e _w ⟨rfl, rfl⟩
          rw [HA2.out]
          go_wp2_with fail
          go_ret
          exact ⟨by rw [hr1.out]; rfl, hB.alloc hsz _⟩
        | false =>
          have HA2 : Hid (decide (m &&& bitN y = 0) = true) := Lib.hid (by rw [HA.out, hbt, e2]; rfl)
          have hok2 : Hid (∀ j (hj : j < zs.length), j < k + 1 → isCard zs[j] = true ∧ hasI (zs.take j) zs[j] = false) := Lib.hid (fun j hj h => by
            by_cases e : j = k
            · subst e; rw [← hy.out]; exact ⟨E1.out, e2⟩
            · exact hok.out j hj (by omega))
          have hor := bits_or hm.out (bitN_lt y)
          have hm2 : Hid (m ||| bitN y < 2 ^ 52) := Lib.hid (Nat.or_lt_two_pow hm.out (bitN_lt y))
          have hb2 : Hid (∀ c : Nat, c < 52 → (m ||| bitN y).testBit c = hasI (zs.take (k + 1)) (c : Int)) := Lib.hid (fun c hc => by
            rw [Nat.testBit_or, hbits.out c hc, has_take zs k hz, ← hy.out, Hbn.out, Nat.testBit_two_pow]
            congr 1
            by_cases e : y = (c : Int)
            · subst e; simp
            · simp only [e, decide_false, decide_eq_false_iff_not]; omega)
          clear e2 hbt hyb
          generalize m ||| bitN y = m2 at *
          go_wp2_with fail
          refine wp_loop_rounds 3 ?_
          rw [rounds_succ]
          go_wp2_with fail
          refine (P1.out _).mono ?_
          rintro e _w ⟨rfl, rfl⟩
          rw [E1.out]
          go_wp2_with fail
          rw [rounds_succ]
          go_wp2_with fail
          refine (P2.out _).mono ?_
          rintro e _w ⟨rfl, rfl⟩
          rw [HA2.out]
          go_wp2_with fail
          rw [rounds_succ]
          go_wp2_with fail
          refine (P3.out _).mono ?_
          rintro e _w ⟨rfl, rfl⟩
          generalize bitN y = q at *
          go_wp2_with fail
          go_roundw
          case rel => exact ⟨k + 1, m2, by omega, by go_num, rfl, hm2, hb2, hB.alloc hsz _, hok2⟩
          case measure => simp [intOf]; omega
    · obtain rfl : k = n := by omega
      have hr1 : Hid (r = true) := Lib.hid (by rw [Hr.out]; exact isHand_yes (fun j hj => hok.out j hj (by rw [Hn.out]; exact hj)))
      go_wp2_with fail
      go_ret
      exact ⟨by rw [hr1.out]; rfl, hB⟩
end Go.Proofs.Ytcafbnddbddijaa
