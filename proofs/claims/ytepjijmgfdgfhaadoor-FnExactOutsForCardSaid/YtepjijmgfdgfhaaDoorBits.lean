/-
  Hands as the bits of one number: bitOf, the two tests, IsHand (the program's), by contract.
-/
import Derived.Test.YtepjijmgfdgfhaaDoorModel05
namespace Go.Proofs.YtepjijmgfdgfhaaDoor
open Go.RowKit

def bitN (c : Int) : Nat := if isCard c then 2 ^ c.toNat else 0
theorem bitN_in {c : Int} (h : isCard c = true) : bitN c = 2 ^ c.toNat := by unfold bitN; rw [h]; rfl
theorem bitN_out {c : Int} (h : isCard c = false) : bitN c = 0 := by unfold bitN; rw [h]; rfl
theorem pow_lt52 {m : Nat} (h : m ≤ 51) : (2 : Nat) ^ m < 2 ^ 52 := Nat.pow_lt_pow_right (by omega) (by omega)
theorem bitN_lt (c : Int) : bitN c < 2 ^ 52 := by
  cases h : isCard c with
  | true =>
    rw [bitN_in h]
    have := isCard_t h
    exact pow_lt52 (by omega)
  | false => rw [bitN_out h]; exact Nat.pos_of_ne_zero (by decide)
theorem u64_nat {n : Nat} (h : n < 2 ^ 52) : IntKind.u64.wrap (n : Int) = (n : Int) := by
  rw [IntKind.wrap_u64]
  have : (2 : Nat) ^ 52 = 4503599627370496 := by decide
  omega
theorem ofInt_nat {a : Nat} (ha : a < 2 ^ 52) : (BitVec.ofInt 64 (a : Int)).toNat = a := by
  rw [BitVec.toNat_ofInt]
  have : (2 : Nat) ^ 52 = 4503599627370496 := by decide
  have h2 : ((2 ^ 64 : Nat) : Int) = 18446744073709551616 := by decide
  rw [h2]; omega
theorem bits_and {a b : Nat} (ha : a < 2 ^ 52) (hb : b < 2 ^ 52) : bits .and .u64 (a : Int) (b : Int) = ((a &&& b : Nat) : Int) := by
  show IntKind.u64.wrap ((BitVec.ofInt 64 (a : Int) &&& BitVec.ofInt 64 (b : Int)).toNat : Nat) = _
  rw [BitVec.toNat_and, ofInt_nat ha, ofInt_nat hb]
  exact u64_nat (Nat.lt_of_le_of_lt Nat.and_le_left ha)
theorem bits_or {a b : Nat} (ha : a < 2 ^ 52) (hb : b < 2 ^ 52) : bits .or .u64 (a : Int) (b : Int) = ((a ||| b : Nat) : Int) := by
  show IntKind.u64.wrap ((BitVec.ofInt 64 (a : Int) ||| BitVec.ofInt 64 (b : Int)).toNat : Nat) = _
  rw [BitVec.toNat_or, ofInt_nat ha, ofInt_nat hb]
  exact u64_nat (Nat.or_lt_two_pow ha hb)
theorem bitOf_any (c : Int) (w : World) :
    Calls Tryd.prog 27 #[.int .i64 c] w fun e w' => e = .returned (.int .u64 (bitN c : Nat)) ∧ w = w' := by
  by_cases h0 : 0 ≤ c
  · by_cases h1 : c ≤ 51
    · have Hr : Hid (((bitN c : Nat) : Int) = IntKind.u64.wrap (2 ^ c.toNat)) := Lib.hid (by
        have e : ((2 : Int) ^ c.toNat) = ((2 ^ c.toNat : Nat) : Int) := by simp
        rw [e, u64_nat (pow_lt52 (by omega)), bitN_in (by unfold isCard; simp; omega)])
      go_enter Tryd.func27, Tryd.ntmps27
      go_wp2
      go_ret
      exact ⟨by rw [Hr.out]; rfl, rfl⟩
    · have Hr : Hid (bitN c = 0) := Lib.hid (bitN_out (by unfold isCard; simp; omega))
      have hd : decide (c ≤ 51) = false := by simp; omega
      go_enter Tryd.func27, Tryd.ntmps27
      go_wp2
      go_ret
      exact ⟨by rw [Hr.out]; rfl, rfl⟩
  · have Hr : Hid (bitN c = 0) := Lib.hid (bitN_out (by unfold isCard; simp; omega))
    go_enter Tryd.func27, Tryd.ntmps27
    go_wp2
    go_ret
    exact ⟨by rw [Hr.out]; rfl, rfl⟩
theorem bitN_ne (c : Int) : ((((bitN c : Nat) : Int)) != 0) = isCard c := by
  cases h : isCard c with
  | true =>
    rw [bitN_in h]
    have : 0 < 2 ^ c.toNat := Nat.pow_pos (by omega)
    simp only [bne_iff_ne, ne_eq]; omega
  | false => rw [bitN_out h]; rfl
theorem has_take (zs : List Int) (k : Nat) (h : k < zs.length) (c : Int) : hasI (zs.take (k + 1)) c = (hasI (zs.take k) c || decide (zs[k] = c)) := by
  unfold hasI
  rw [List.take_succ_eq_append_getElem h]
  have e : (c ∈ zs.take k ++ [zs[k]]) ↔ (c ∈ zs.take k ∨ zs[k] = c) := by
    rw [List.mem_append, List.mem_singleton]; exact or_congr Iff.rfl eq_comm
  rw [decide_eq_decide.2 e, Bool.decide_or]
theorem and_bit (m : Nat) {c : Int} (hc : isCard c = true) : decide (m &&& bitN c = 0) = !m.testBit c.toNat := by
  rw [bitN_in hc]
  cases h : m.testBit c.toNat with
  | true =>
    rw [Bool.not_true, decide_eq_false_iff_not]
    intro e
    have h2 : (m &&& 2 ^ c.toNat).testBit c.toNat = true := by
      rw [Nat.testBit_and, h, Nat.testBit_two_pow]; simp
    rw [e, Nat.zero_testBit] at h2
    cases h2
  | false =>
    rw [Bool.not_false, decide_eq_true_eq]
    refine Nat.eq_of_testBit_eq fun j => ?_
    rw [Nat.testBit_and, Nat.testBit_two_pow, Nat.zero_testBit]
    by_cases e : c.toNat = j
    · subst e; rw [h]; rfl
    · simp [e]

end Go.Proofs.YtepjijmgfdgfhaaDoor
