/-
  Several texts in one: Contracts of the model's functions of chapters 4 and 5: cards and hands. Hands as the bits of one number: bitOf, the two tests, IsHand (the program's), by contract. setOf by contract: a hand as a set of bits; hands that are apart. AllApart by contract, both sides. IsDeal, the program's side. Contracts of Min, Max and extremes, and of the model's Min and Max: for all ints.
-/
import Derived.Test.YtbojhbhniollaaaDoorM4
import Derived.Test.YtbojhbhniollaaaDoorM7
import Derived.Test.YtbojhbhniollaaaDoorRows
import Derived.WalkKit
import Derived.WalkLawsBesides
import Derived.WalkSpells
namespace Go.Proofs.YtbojhbhniollaaaDoor
open Go.RowKit

def hasI (zs : List Int) (c : Int) : Bool := decide (c ∈ zs)
/-- All are cards, and none is there twice: told from the front, as the model looks. -/
def isHand (zs : List Int) : Bool := decide (∀ j (h : j < zs.length), isCard zs[j] = true ∧ zs[j] ∉ zs.take j)


set_option maxRecDepth 100000 in
theorem sHasCard_any (v : Value) (zs : List Int) (b : Nat) (c : Int) (w : World) (h : RdAt .i64 w v zs b) (hl : zs.length ≤ 1099511627776) :
    Calls Tryd.prog 69 #[v, .int .i64 c] w fun e w' => e = .returned (.bool (hasI zs c)) ∧ w = w' := by
  obtain ⟨a, cap, rfl, -, -, hcell⟩ := h
  obtain ⟨n, hn⟩ : ∃ n, n = zs.length := ⟨_, rfl⟩
  have Hn := Lib.hid hn
  rw [← hn] at hl ⊢
  clear hn
  obtain ⟨r, hr⟩ : ∃ r, r = hasI zs c := ⟨_, rfl⟩
  have Hr := Lib.hid hr
  rw [← hr]
  clear hr
  go_enter Tryd.func69, Tryd.ntmps69
  go_wp2_with fail
  go_loop [5] (fun i => ∃ k : Nat, k ≤ n ∧ i = .int .i64 k ∧ Hid (∀ j (hj : j < zs.length), j < k → zs[j] ≠ c)) (fun i => n - (intOf i).toNat)
  case atStart => exact ⟨0, Nat.zero_le _, rfl, Lib.hid (fun j _ h => by omega)⟩
  case round =>
    obtain ⟨k, hk, rfl, hno⟩ := hrel
    by_cases hlt : k < n
    · have hz : k < zs.length := by rw [← Hn.out]; exact hlt
      rcases hcell with h0 | ⟨off, rfl, hc⟩
      · subst h0; simp at hz
      obtain ⟨y, hy⟩ : ∃ y, Hid (y = zs[k]) := ⟨_, Lib.hid rfl⟩
      have h1 : w.cell? ⟨b, off + k, none⟩ = some (.int .i64 y) := by rw [hc k hz, hy.out]
      clear hc
      by_cases hyc : y = c
      · subst hyc
        have hr1 : Hid (r = true) := Lib.hid (by rw [Hr.out]; unfold hasI; rw [hy.out]; simp)
        go_wp2_with fail
        go_ret
        exact ⟨by rw [hr1.out]; rfl, rfl⟩
      · have hq : (y == c) = false := by simpa using hyc
        have hno2 : Hid (∀ j (hj : j < zs.length), j < k + 1 → zs[j] ≠ c) := Lib.hid (fun j hj h => by
          by_cases e : j = k
          · subst e; rw [← hy.out]; exact hyc
          · exact hno.out j hj (by omega))
        clear hyc
        go_wp2_with fail
        go_round
        case rel => exact ⟨k + 1, by omega, by go_num, hno2⟩
        case measure => simp [intOf]; omega
    · obtain rfl : k = n := by omega
      have hr1 : Hid (r = false) := Lib.hid (by
        rw [Hr.out]; unfold hasI
        simp only [decide_eq_false_iff_not]
        intro hm
        obtain ⟨j, hj, e⟩ := List.getElem_of_mem hm
        exact hno.out j hj (by rw [Hn.out]; exact hj) e)
      go_wp2_with fail
      go_ret
      exact ⟨by rw [hr1.out]; rfl, rfl⟩

theorem isHand_no {zs : List Int} {k : Nat} (hk : k < zs.length) (h : isCard zs[k] = false ∨ hasI (zs.take k) zs[k] = true) : isHand zs = false := by
  unfold isHand
  simp only [decide_eq_false_iff_not]
  intro ha
  obtain ⟨h1, h2⟩ := ha k hk
  rcases h with h | h
  · rw [h] at h1; cases h1
  · unfold hasI at h; simp only [decide_eq_true_eq] at h; exact h2 h
theorem isHand_yes {zs : List Int} (h : ∀ j (hj : j < zs.length), isCard zs[j] = true ∧ hasI (zs.take j) zs[j] = false) : isHand zs = true := by
  unfold isHand
  simp only [decide_eq_true_eq]
  intro j hj
  refine ⟨(h j hj).1, ?_⟩
  have := (h j hj).2
  unfold hasI at this
  simpa using this

set_option maxRecDepth 100000 in
set_option maxHeartbeats 1000000 in
theorem sIsHand_any (v : Value) (zs : List Int) (b : Nat) (w : World) (h : RdAt .i64 w v zs b) (hl : zs.length ≤ 1099511627776) :
    Calls Tryd.prog 68 #[v] w fun e w' => e = .returned (.bool (isHand zs)) ∧ Below w.heap.size w w' := by
  obtain ⟨a, cap, rfl, hcap, hwf, hcell⟩ := h
  obtain ⟨n, hn⟩ : ∃ n, n = zs.length := ⟨_, rfl⟩
  have Hn := Lib.hid hn
  have Hcap := Lib.hid (show zs.length ≤ cap ∧ cap ≤ maxLen from ⟨hcap.1, hcap.2.1⟩)
  have hcap1 : n ≤ cap := by omega
  have hcap2 : cap ≤ 9223372036854775807 := by have := hcap.2.1; unfold maxLen at this; omega
  rw [← hn] at hl ⊢
  clear hn hcap
  obtain ⟨r, hr⟩ : ∃ r, r = isHand zs := ⟨_, rfl⟩
  have Hr := Lib.hid hr
  rw [← hr]
  clear hr
  go_enter Tryd.func68, Tryd.ntmps68
  go_wp2_with fail
  go_loopw [3] (fun i wr => ∃ k : Nat, k ≤ n ∧ i = .int .i64 k ∧ (∃ q, wr = w.drewN q) ∧ Hid (∀ j (hj : j < zs.length), j < k → isCard zs[j] = true ∧ hasI (zs.take j) zs[j] = false)) (fun i _ => n - (intOf i).toNat)
  case atStart => exact ⟨0, Nat.zero_le _, rfl, ⟨0, rfl⟩, Lib.hid (fun j _ h => by omega)⟩
  case round =>
    obtain ⟨k, hk, rfl, hq, hok⟩ := hrel
    have Hq := Lib.hid hq
    clear hq
    by_cases hlt : k < n
    · have hz : k < zs.length := by rw [← Hn.out]; exact hlt
      rcases hcell with h0 | ⟨off, rfl, hc⟩
      · subst h0; simp at hz
      have hrd : ∀ m, RdAt .i64 (wr.drewN m) (.slice (some ⟨b, off, none⟩) k cap) (zs.take k) b := fun m => by
        obtain ⟨q, e⟩ := Hq.out
        subst e
        exact RdAt.take (w := (w.drewN q).drewN m) Hcap.out hwf (fun j hj => hc j hj) k (by omega)
      have Hrd := Lib.hid hrd
      obtain ⟨y, hy⟩ : ∃ y, Hid (y = zs[k]) := ⟨_, Lib.hid rfl⟩
      have h1 : wr.cell? ⟨b, off + k, none⟩ = some (.int .i64 y) := by
        obtain ⟨q, e⟩ := Hq.out
        subst e
        show w.cell? _ = _
        rw [hc k hz, hy.out]
      have hlk : (zs.take k).length ≤ 1099511627776 := by rw [List.length_take]; omega
      clear hc hrd
      cases e1 : isCard y with
      | false =>
        have hr1 : Hid (r = false) := Lib.hid (by rw [Hr.out]; exact isHand_no hz (.inl (by rw [← hy.out]; exact e1)))
        go_wp2_with fail
        go_quiet ((go_at_call 93; exact Calls.quiet_of_same (flip_same (sIsCard_any _ _) (congrArg Value.bool e1))))
        go_wp2_with fail
        go_ret
        exact ⟨by rw [hr1.out]; rfl, by obtain ⟨q, e⟩ := Hq.out; subst e; exact below_drewN (below_drewN (Below.refl _ _) _) _⟩
      | true =>
        cases e2 : hasI (zs.take k) y with
        | true =>
          have hr1 : Hid (r = false) := Lib.hid (by rw [Hr.out]; exact isHand_no hz (.inr (by rw [← hy.out]; exact e2)))
          go_wp2_with fail
          go_quiet (first | (go_at_call 93; exact Calls.quiet_of_same (flip_same (sIsCard_any _ _) (congrArg Value.bool e1))) | (go_at_call 69; exact Calls.quiet_of_same (flip_same (sHasCard_any _ _ _ _ _ (Hrd.out _) hlk) (congrArg Value.bool e2))))
          go_wp2_with fail
          go_ret
          exact ⟨by rw [hr1.out]; rfl, by obtain ⟨q, e⟩ := Hq.out; subst e; exact below_drewN (below_drewN (Below.refl _ _) _) _⟩
        | false =>
          have hok2 : Hid (∀ j (hj : j < zs.length), j < k + 1 → isCard zs[j] = true ∧ hasI (zs.take j) zs[j] = false) := Lib.hid (fun j hj h => by
            by_cases e : j = k
            · subst e; rw [← hy.out]; exact ⟨e1, e2⟩
            · exact hok.out j hj (by omega))
          go_wp2_with fail
          go_quiet (first | (go_at_call 93; exact Calls.quiet_of_same (flip_same (sIsCard_any _ _) (congrArg Value.bool e1))) | (go_at_call 69; exact Calls.quiet_of_same (flip_same (sHasCard_any _ _ _ _ _ (Hrd.out _) hlk) (congrArg Value.bool e2))))
          go_wp2_with fail
          go_roundw
          case rel => exact ⟨k + 1, by omega, by go_num, by obtain ⟨q, e⟩ := Hq.out; subst e; exact ⟨_, World.drewN_drewN _ _ _⟩, hok2⟩
          case measure => simp [intOf]; omega
    · obtain rfl : k = n := by omega
      have hr1 : Hid (r = true) := Lib.hid (by rw [Hr.out]; exact isHand_yes (fun j hj => hok.out j hj (by rw [Hn.out]; exact hj)))
      go_wp2_with fail
      go_ret
      exact ⟨by rw [hr1.out]; rfl, by obtain ⟨q, e⟩ := Hq.out; subst e; exact below_drewN (Below.refl _ _) _⟩

end Go.Proofs.YtbojhbhniollaaaDoor
namespace Go.Proofs.YtbojhbhniollaaaDoor
open Go.RowKit

def bitN (c : Int) : Nat := if isCard c then 2 ^ c.toNat else 0
theorem bitN_in {c : Int} (h : isCard c = true) : bitN c = 2 ^ c.toNat := by unfold bitN; rw [h]; rfl
theorem bitN_out {c : Int} (h : isCard c = false) : bitN c = 0 := by unfold bitN; rw [h]; rfl
theorem pow_lt52 {m : Nat} (h : m ≤ 51) : (2 : Nat) ^ m < 2 ^ 52 := Nat.pow_lt_pow_right (by omega) (by omega)
theorem bitN_lt (c : Int) : bitN c < 2 ^ 52 := by
  cases h : isCard c with
  | true =>
    rw [bitN_in h]
    have := isCard_t h
    exact pow_lt52 (by omega)
  | false => rw [bitN_out h]; exact Nat.pos_of_ne_zero (by decide)
theorem u64_nat {n : Nat} (h : n < 2 ^ 52) : IntKind.u64.wrap (n : Int) = (n : Int) := by
  rw [IntKind.wrap_u64]
  have : (2 : Nat) ^ 52 = 4503599627370496 := by decide
  omega
theorem ofInt_nat {a : Nat} (ha : a < 2 ^ 52) : (BitVec.ofInt 64 (a : Int)).toNat = a := by
  rw [BitVec.toNat_ofInt]
  have : (2 : Nat) ^ 52 = 4503599627370496 := by decide
  have h2 : ((2 ^ 64 : Nat) : Int) = 18446744073709551616 := by decide
  rw [h2]; omega
theorem bits_and {a b : Nat} (ha : a < 2 ^ 52) (hb : b < 2 ^ 52) : bits .and .u64 (a : Int) (b : Int) = ((a &&& b : Nat) : Int) := by
  show IntKind.u64.wrap ((BitVec.ofInt 64 (a : Int) &&& BitVec.ofInt 64 (b : Int)).toNat : Nat) = _
  rw [BitVec.toNat_and, ofInt_nat ha, ofInt_nat hb]
  exact u64_nat (Nat.lt_of_le_of_lt Nat.and_le_left ha)
theorem bits_or {a b : Nat} (ha : a < 2 ^ 52) (hb : b < 2 ^ 52) : bits .or .u64 (a : Int) (b : Int) = ((a ||| b : Nat) : Int) := by
  show IntKind.u64.wrap ((BitVec.ofInt 64 (a : Int) ||| BitVec.ofInt 64 (b : Int)).toNat : Nat) = _
  rw [BitVec.toNat_or, ofInt_nat ha, ofInt_nat hb]
  exact u64_nat (Nat.or_lt_two_pow ha hb)
theorem bitOf_any (c : Int) (w : World) :
    Calls Tryd.prog 98 #[.int .i64 c] w fun e w' => e = .returned (.int .u64 (bitN c : Nat)) ∧ w = w' := by
  by_cases h0 : 0 ≤ c
  · by_cases h1 : c ≤ 51
    · have Hr : Hid (((bitN c : Nat) : Int) = IntKind.u64.wrap (2 ^ c.toNat)) := Lib.hid (by
        have e : ((2 : Int) ^ c.toNat) = ((2 ^ c.toNat : Nat) : Int) := by simp
        rw [e, u64_nat (pow_lt52 (by omega)), bitN_in (by unfold isCard; simp; omega)])
      go_enter Tryd.func98, Tryd.ntmps98
      go_wp2
      go_ret
      exact ⟨by rw [Hr.out]; rfl, rfl⟩
    · have Hr : Hid (bitN c = 0) := Lib.hid (bitN_out (by unfold isCard; simp; omega))
      have hd : decide (c ≤ 51) = false := by simp; omega
      go_enter Tryd.func98, Tryd.ntmps98
      go_wp2
      go_ret
      exact ⟨by rw [Hr.out]; rfl, rfl⟩
  · have Hr : Hid (bitN c = 0) := Lib.hid (bitN_out (by unfold isCard; simp; omega))
    go_enter Tryd.func98, Tryd.ntmps98
    go_wp2
    go_ret
    exact ⟨by rw [Hr.out]; rfl, rfl⟩
theorem bitN_ne (c : Int) : ((((bitN c : Nat) : Int)) != 0) = isCard c := by
  cases h : isCard c with
  | true =>
    rw [bitN_in h]
    have : 0 < 2 ^ c.toNat := Nat.pow_pos (by omega)
    simp only [bne_iff_ne, ne_eq]; omega
  | false => rw [bitN_out h]; rfl
theorem hasPlace_any (s c : Int) (w : World) :
    Calls Tryd.prog 96 #[.int .u64 s, .int .i64 c] w fun e w' => e = .returned (.bool (isCard c)) ∧ w = w' := by
  have Hb := Lib.hid (bitOf_any c w)
  have Hn := Lib.hid (bitN_ne c)
  generalize bitN c = m at *
  go_enter Tryd.func96, Tryd.ntmps96
  go_wp2_with fail
  refine Hb.out.mono ?_
  rintro e _w ⟨rfl, rfl⟩
  go_wp2_with fail
  go_ret
  exact ⟨by rw [← Hn.out]; rfl, rfl⟩
theorem lacks_any (m : Nat) (c : Int) (w : World) (hm : m < 2 ^ 52) :
    Calls Tryd.prog 97 #[.int .u64 (m : Nat), .int .i64 c] w fun e w' => e = .returned (.bool (decide (m &&& bitN c = 0))) ∧ w = w' := by
  have Hb := Lib.hid (bitOf_any c w)
  have hand := bits_and hm (bitN_lt c)
  have Hr : Hid (decide (m &&& bitN c = 0) = ((((m &&& bitN c : Nat) : Int)) == 0)) := Lib.hid (by
    by_cases h : m &&& bitN c = 0
    · rw [h]; rfl
    · rw [decide_eq_false h]
      symm
      rw [beq_eq_false_iff_ne]
      intro e; exact h (by omega))
  generalize m &&& bitN c = p at *
  generalize bitN c = q at *
  clear hm
  go_enter Tryd.func97, Tryd.ntmps97
  go_wp2_with fail
  refine Hb.out.mono ?_
  rintro e _w ⟨rfl, rfl⟩
  go_wp2_with fail
  go_ret
  exact ⟨by rw [Hr.out]; rfl, rfl⟩
theorem has_take (zs : List Int) (k : Nat) (h : k < zs.length) (c : Int) : hasI (zs.take (k + 1)) c = (hasI (zs.take k) c || decide (zs[k] = c)) := by
  unfold hasI
  rw [List.take_succ_eq_append_getElem h]
  have e : (c ∈ zs.take k ++ [zs[k]]) ↔ (c ∈ zs.take k ∨ zs[k] = c) := by
    rw [List.mem_append, List.mem_singleton]; exact or_congr Iff.rfl eq_comm
  rw [decide_eq_decide.2 e, Bool.decide_or]
theorem and_bit (m : Nat) {c : Int} (hc : isCard c = true) : decide (m &&& bitN c = 0) = !m.testBit c.toNat := by
  rw [bitN_in hc]
  cases h : m.testBit c.toNat with
  | true =>
    rw [Bool.not_true, decide_eq_false_iff_not]
    intro e
    have h2 : (m &&& 2 ^ c.toNat).testBit c.toNat = true := by
      rw [Nat.testBit_and, h, Nat.testBit_two_pow]; simp
    rw [e, Nat.zero_testBit] at h2
    cases h2
  | false =>
    rw [Bool.not_false, decide_eq_true_eq]
    refine Nat.eq_of_testBit_eq fun j => ?_
    rw [Nat.testBit_and, Nat.testBit_two_pow, Nat.zero_testBit]
    by_cases e : c.toNat = j
    · subst e; rw [h]; rfl
    · simp [e]

set_option maxRecDepth 100000 in
set_option maxHeartbeats 1000000 in
theorem isHand_any (v : Value) (zs : List Int) (b : Nat) (w : World) (h : RdAt .i64 w v zs b) (hl : zs.length ≤ 1099511627776) :
    Calls Tryd.prog 75 #[v] w fun e w' => e = .returned (.bool (isHand zs)) ∧ Below w.heap.size w w' := by
  obtain ⟨a, cap, rfl, -, -, hcell⟩ := h
  obtain ⟨n, hn⟩ : ∃ n, n = zs.length := ⟨_, rfl⟩
  have Hn := Lib.hid hn
  rw [← hn] at hl ⊢
  clear hn
  obtain ⟨r, hr⟩ : ∃ r, r = isHand zs := ⟨_, rfl⟩
  have Hr := Lib.hid hr
  rw [← hr]
  clear hr
  go_enter Tryd.func75, Tryd.ntmps75
  go_wp2_with fail
  go_loopw [3, 10] (fun s i wr => ∃ k m : Nat, k ≤ n ∧ i = .int .i64 k ∧ s = .int .u64 (m : Nat) ∧ Hid (m < 2 ^ 52) ∧ Hid (∀ c : Nat, c < 52 → m.testBit c = hasI (zs.take k) (c : Int)) ∧ Below w.heap.size w wr ∧ Hid (∀ j (hj : j < zs.length), j < k → isCard zs[j] = true ∧ hasI (zs.take j) zs[j] = false)) (fun _ i _ => n - (intOf i).toNat)
  case atStart => exact ⟨0, 0, Nat.zero_le _, rfl, rfl, Lib.hid (by decide), Lib.hid (fun c _ => by simp [hasI]), Below.refl _ _, Lib.hid (fun j _ h => by omega)⟩
  case round =>
    obtain ⟨k, m, hk, rfl, rfl, hm, hbits, hB, hok⟩ := hrel
    by_cases hlt : k < n
    · have hz : k < zs.length := by rw [← Hn.out]; exact hlt
      rcases hcell with h0 | ⟨off, rfl, hc⟩
      · subst h0; simp at hz
      obtain ⟨y, hy⟩ : ∃ y, Hid (y = zs[k]) := ⟨_, Lib.hid rfl⟩
      have h1 : wr.cell? ⟨b, off + k, none⟩ = some (.int .i64 y) := by
        have h1 := hc k hz
        rw [hB.cell (World.block_lt_of_cell? _ _ h1), h1, hy.out]
      clear hc
      have P1 : Hid (∀ W, Calls Tryd.prog 96 #[.int .u64 (m : Nat), .int .i64 y] W fun e w' => e = .returned (.bool (isCard y)) ∧ W = w') := Lib.hid (fun W => hasPlace_any _ y W)
      have P2 : Hid (∀ W, Calls Tryd.prog 97 #[.int .u64 (m : Nat), .int .i64 y] W fun e w' => e = .returned (.bool (decide (m &&& bitN y = 0))) ∧ W = w') := Lib.hid (fun W => lacks_any m y W hm.out)
      have P3 : Hid (∀ W, Calls Tryd.prog 98 #[.int .i64 y] W fun e w' => e = .returned (.int .u64 (bitN y : Nat)) ∧ W = w') := Lib.hid (fun W => bitOf_any y W)
      have hsz := hB.size
      cases e1 : isCard y with
      | false =>
        have hr1 : Hid (r = false) := Lib.hid (by rw [Hr.out]; exact isHand_no hz (.inl (by rw [← hy.out]; exact e1)))
        have E1 := Lib.hid e1
        clear e1
        go_wp2_with fail
        refine wp_loop_rounds 3 ?_
        rw [rounds_succ]
        go_wp2_with fail
        refine (P1.out _).mono ?_
        rintro e _w ⟨rfl, rfl⟩
        rw [E1.out]
        go_wp2_with fail
        go_ret
        exact ⟨by rw [hr1.out]; rfl, hB.alloc hsz _⟩
      | true =>
        have hyb := isCard_t e1
        have E1 := Lib.hid e1
        have HA := Lib.hid (and_bit m e1)
        have Hbn := Lib.hid (bitN_in e1)
        have hbt : m.testBit y.toNat = hasI (zs.take k) y := by
          have := hbits.out y.toNat (by omega)
          rw [show ((y.toNat : Nat) : Int) = y by omega] at this
          exact this
        clear e1
        cases e2 : hasI (zs.take k) y with
        | true =>
          have hr1 : Hid (r = false) := Lib.hid (by rw [Hr.out]; exact isHand_no hz (.inr (by rw [← hy.out]; exact e2)))
          have HA2 : Hid (decide (m &&& bitN y = 0) = false) := Lib.hid (by rw [HA.out, hbt, e2]; rfl)
          clear e2 hbt hyb
          go_wp2_with fail
          refine wp_loop_rounds 3 ?_
          rw [rounds_succ]
          go_wp2_with fail
          refine (P1.out _).mono ?_
          rintro e _w ⟨rfl, rfl⟩
          rw [E1.out]
          go_wp2_with fail
          rw [rounds_succ]
          go_wp2_with fail
          refine (P2.out _).mono ?_
          rintro e _w ⟨rfl, rfl⟩
          rw [HA2.out]
          go_wp2_with fail
          go_ret
          exact ⟨by rw [hr1.out]; rfl, hB.alloc hsz _⟩
        | false =>
          have HA2 : Hid (decide (m &&& bitN y = 0) = true) := Lib.hid (by rw [HA.out, hbt, e2]; rfl)
          have hok2 : Hid (∀ j (hj : j < zs.length), j < k + 1 → isCard zs[j] = true ∧ hasI (zs.take j) zs[j] = false) := Lib.hid (fun j hj h => by
            by_cases e : j = k
            · subst e; rw [← hy.out]; exact ⟨E1.out, e2⟩
            · exact hok.out j hj (by omega))
          have hor := bits_or hm.out (bitN_lt y)
          have hm2 : Hid (m ||| bitN y < 2 ^ 52) := Lib.hid (Nat.or_lt_two_pow hm.out (bitN_lt y))
          have hb2 : Hid (∀ c : Nat, c < 52 → (m ||| bitN y).testBit c = hasI (zs.take (k + 1)) (c : Int)) := Lib.hid (fun c hc => by
            rw [Nat.testBit_or, hbits.out c hc, has_take zs k hz, ← hy.out, Hbn.out, Nat.testBit_two_pow]
            congr 1
            by_cases e : y = (c : Int)
            · subst e; simp
            · simp only [e, decide_false, decide_eq_false_iff_not]; omega)
          clear e2 hbt hyb
          generalize m ||| bitN y = m2 at *
          go_wp2_with fail
          refine wp_loop_rounds 3 ?_
          rw [rounds_succ]
          go_wp2_with fail
          refine (P1.out _).mono ?_
          rintro e _w ⟨rfl, rfl⟩
          rw [E1.out]
          go_wp2_with fail
          rw [rounds_succ]
          go_wp2_with fail
          refine (P2.out _).mono ?_
          rintro e _w ⟨rfl, rfl⟩
          rw [HA2.out]
          go_wp2_with fail
          rw [rounds_succ]
          go_wp2_with fail
          refine (P3.out _).mono ?_
          rintro e _w ⟨rfl, rfl⟩
          generalize bitN y = q at *
          go_wp2_with fail
          go_roundw
          case rel => exact ⟨k + 1, m2, by omega, by go_num, rfl, hm2, hb2, hB.alloc hsz _, hok2⟩
          case measure => simp [intOf]; omega
    · obtain rfl : k = n := by omega
      have hr1 : Hid (r = true) := Lib.hid (by rw [Hr.out]; exact isHand_yes (fun j hj => hok.out j hj (by rw [Hn.out]; exact hj)))
      go_wp2_with fail
      go_ret
      exact ⟨by rw [hr1.out]; rfl, hB⟩
end Go.Proofs.YtbojhbhniollaaaDoor
namespace Go.Proofs.YtbojhbhniollaaaDoor
open Go.RowKit

def setN (zs : List Int) : Nat := zs.foldl (fun s c => s ||| bitN c) 0
theorem setN_snoc (zs : List Int) (c : Int) : setN (zs ++ [c]) = setN zs ||| bitN c := by simp [setN]
theorem setN_lt (zs : List Int) : setN zs < 2 ^ 52 := by
  suffices h : ∀ (l : List Int) (m : Nat), m < 2 ^ 52 → l.foldl (fun s c => s ||| bitN c) m < 2 ^ 52 from h zs 0 (by decide)
  intro l
  induction l with
  | nil => exact fun m h => h
  | cons x l ih => exact fun m h => ih _ (Nat.or_lt_two_pow h (bitN_lt x))
theorem bitN_bit (c : Int) (j : Nat) : (bitN c).testBit j = decide (isCard c = true ∧ c = (j : Int)) := by
  cases h : isCard c with
  | true =>
    have hc := isCard_t h
    rw [bitN_in h, Nat.testBit_two_pow]
    by_cases e : c = (j : Int)
    · simp [e]
    · have : c.toNat ≠ j := by omega
      simp [e, this]
  | false => rw [bitN_out h, Nat.zero_testBit]; simp
theorem foldl_bit (l : List Int) (m j : Nat) : (l.foldl (fun s c => s ||| bitN c) m).testBit j = (m.testBit j || decide (isCard (j : Int) = true ∧ (j : Int) ∈ l)) := by
  induction l generalizing m with
  | nil => simp
  | cons x l ih =>
    rw [List.foldl_cons, ih, Nat.testBit_or, bitN_bit]
    by_cases e : x = (j : Int)
    · subst e
      cases h : isCard (j : Int) <;> simp
    · have e2 : ¬ (j : Int) = x := fun h => e h.symm
      simp [e, e2]
theorem setN_bit (zs : List Int) (j : Nat) : (setN zs).testBit j = decide (isCard (j : Int) = true ∧ (j : Int) ∈ zs) := by
  unfold setN; rw [foldl_bit]; simp
theorem setN_app (A B : List Int) : setN (A ++ B) = setN A ||| setN B := by
  refine Nat.eq_of_testBit_eq fun j => ?_
  rw [Nat.testBit_or, setN_bit, setN_bit, setN_bit]
  cases h : isCard (j : Int) <;> simp
theorem isHand_iff (zs : List Int) : isHand zs = true ↔ (∀ x ∈ zs, isCard x = true) ∧ zs.Nodup := by
  unfold isHand
  simp only [decide_eq_true_eq]
  constructor
  · intro h
    refine ⟨fun x hx => ?_, ?_⟩
    · obtain ⟨j, hj, rfl⟩ := List.getElem_of_mem hx
      exact (h j hj).1
    · rw [List.nodup_iff_pairwise_ne, List.pairwise_iff_getElem]
      intro i j hi hj hij e
      refine (h j hj).2 ?_
      rw [← e]
      exact List.mem_take_iff_getElem.2 ⟨i, by omega, rfl⟩
  · rintro ⟨h1, h2⟩ j hj
    refine ⟨h1 _ (List.getElem_mem hj), fun hm => ?_⟩
    obtain ⟨i, hi, e⟩ := List.mem_take_iff_getElem.1 hm
    rw [List.nodup_iff_pairwise_ne, List.pairwise_iff_getElem] at h2
    exact h2 i j (by omega) hj (by omega) e
theorem isHand_app {A B : List Int} (hA : isHand A = true) : isHand (A ++ B) = (isHand B && decide (setN A &&& setN B = 0)) := by
  obtain ⟨a1, a2⟩ := (isHand_iff A).1 hA
  have key : (setN A &&& setN B = 0 ∧ isHand B = true) ↔ isHand (A ++ B) = true := by
    rw [isHand_iff, isHand_iff, List.nodup_append]
    constructor
    · rintro ⟨h, b1, b2⟩
      refine ⟨fun x hx => (List.mem_append.1 hx).elim (a1 x) (b1 x), a2, b2, fun x hx y hy e => ?_⟩
      subst e
      have hc := isCard_t (a1 x hx)
      have h3 : (setN A &&& setN B).testBit x.toNat = true := by
        have e2 : ((x.toNat : Nat) : Int) = x := by omega
        rw [Nat.testBit_and, setN_bit, setN_bit, e2]; simp [a1 x hx, hx, hy]
      rw [h, Nat.zero_testBit] at h3
      cases h3
    · rintro ⟨h1, -, h3, h4⟩
      refine ⟨?_, fun x hx => h1 x (List.mem_append_right _ hx), h3⟩
      refine Nat.eq_of_testBit_eq fun j => ?_
      rw [Nat.testBit_and, setN_bit, setN_bit, Nat.zero_testBit]
      by_cases hj : (j : Int) ∈ A
      · by_cases hj2 : (j : Int) ∈ B
        · exact absurd rfl (h4 _ hj _ hj2)
        · simp [hj2]
      · simp [hj]
  cases h : isHand (A ++ B) with
  | true =>
    obtain ⟨h1, h2⟩ := key.2 h
    rw [h1, h2]; rfl
  | false =>
    cases h2 : isHand B with
    | false => rfl
    | true =>
      have : ¬ setN A &&& setN B = 0 := fun e => by
        have := key.1 ⟨e, h2⟩
        rw [h] at this; cases this
      simp [this]
theorem isHand_pre {A B : List Int} (hA : isHand A = false) : isHand (A ++ B) = false := by
  cases h : isHand (A ++ B) with
  | false => rfl
  | true =>
    exfalso
    obtain ⟨h1, h2⟩ := (isHand_iff _).1 h
    have : isHand A = true := (isHand_iff A).2 ⟨fun x hx => h1 x (List.mem_append_left _ hx), (List.nodup_append.1 h2).1⟩
    rw [hA] at this; cases this

set_option maxRecDepth 100000 in
theorem setOf_any (v : Value) (zs : List Int) (b : Nat) (w : World) (h : RdAt .i64 w v zs b) (hl : zs.length ≤ 1099511627776) :
    Calls Tryd.prog 88 #[v] w fun e w' => e = .returned (.int .u64 (setN zs : Nat)) ∧ w = w' := by
  obtain ⟨a, cap, rfl, -, -, hcell⟩ := h
  obtain ⟨n, hn⟩ : ∃ n, n = zs.length := ⟨_, rfl⟩
  have Hn := Lib.hid hn
  rw [← hn] at hl ⊢
  clear hn
  go_enter Tryd.func88, Tryd.ntmps88
  go_wp2_with fail
  go_loop [3, 5, 8] (fun s _ i => ∃ (k x : Nat), k ≤ n ∧ i = .int .i64 k ∧ s = .int .u64 (x : Nat) ∧ Hid (x = setN (zs.take k))) (fun _ _ i => n - (intOf i).toNat)
  case atStart => exact ⟨0, 0, Nat.zero_le _, rfl, rfl, Lib.hid rfl⟩
  case round =>
    obtain ⟨k, x, hk, rfl, rfl, hx⟩ := hrel
    by_cases hlt : k < n
    · have hz : k < zs.length := by rw [← Hn.out]; exact hlt
      rcases hcell with h0 | ⟨off, rfl, hc⟩
      · subst h0; simp at hz
      obtain ⟨y, hy⟩ : ∃ y, Hid (y = zs[k]) := ⟨_, Lib.hid rfl⟩
      have h1 : w.cell? ⟨b, off + k, none⟩ = some (.int .i64 y) := by rw [hc k hz, hy.out]
      clear hc
      have hor := bits_or (setN_lt (zs.take k)) (bitN_lt y)
      rw [← hx.out] at hor
      have hx2 : Hid (x ||| bitN y = setN (zs.take (k + 1))) := Lib.hid (by rw [List.take_succ_eq_append_getElem hz, setN_snoc, ← hx.out, hy.out])
      have HB := Lib.hid (bitOf_any y w)
      generalize bitN y = q at *
      generalize x ||| q = r at *
      go_wp2_with fail
      refine HB.out.mono ?_
      rintro e _w ⟨rfl, rfl⟩
      go_wp2_with fail
      go_round
      case rel => exact ⟨k + 1, r, by omega, by go_num, rfl, hx2⟩
      case measure => simp [intOf]; omega
    · obtain rfl : k = n := by omega
      have hr : Hid (x = setN zs) := Lib.hid (by rw [hx.out, List.take_of_length_le (by rw [Hn.out]; exact Nat.le_refl _)])
      go_wp2_with fail
      go_ret
      exact ⟨by rw [← hr.out]; rfl, rfl⟩
end Go.Proofs.YtbojhbhniollaaaDoor
namespace Go.Proofs.YtbojhbhniollaaaDoor
open Go.RowKit

def apart (zss : List (List Int)) : Bool := isHand zss.flatten
theorem flat_take (zss : List (List Int)) (k : Nat) (h : k < zss.length) : (zss.take (k + 1)).flatten = (zss.take k).flatten ++ zss[k] := by
  rw [List.take_succ_eq_append_getElem h, List.flatten_append]; simp
theorem flat_pre (zss : List (List Int)) (k : Nat) : zss.flatten = (zss.take k).flatten ++ (zss.drop k).flatten := by
  rw [← List.flatten_append, List.take_append_drop]
theorem flat_len (zss : List (List Int)) : zss.flatten.length = sumLen zss := by unfold sumLen; rw [List.length_flatten]
theorem apart_no {zss : List (List Int)} {k : Nat} (h : isHand (zss.take k).flatten = false) : apart zss = false := by
  unfold apart; rw [flat_pre zss k]; exact isHand_pre h

set_option maxRecDepth 100000 in
set_option maxHeartbeats 1000000 in
theorem allApart_big (v : Value) (zss : List (List Int)) (w : World) (h : RdRows .i64 w v zss) (hl : zss.length ≤ 1048576) (hl2 : sumLen zss ≤ 4194304) :
    Calls Tryd.prog 62 #[v] w fun e w' => e = .returned (.bool (apart zss)) ∧ Below w.heap.size w w' := by
  have hrow := fun wx (hb : Below w.heap.size w wx) j (hj : j < zss.length) => (h.below hb).row hj
  obtain ⟨a, cap, rfl, -, -⟩ := id h
  obtain ⟨n, hn⟩ : ∃ n, n = zss.length := ⟨_, rfl⟩
  have Hn := Lib.hid hn
  have Hrow := Lib.hid hrow
  have Hsum : Hid (∀ j (hj : j < zss.length), zss[j].length ≤ 4194304) := Lib.hid (fun j hj => Nat.le_trans (len_le_sum zss hj) hl2)
  rw [← hn] at hl ⊢
  clear hn hrow h hl2
  obtain ⟨r, hr⟩ : ∃ r, r = apart zss := ⟨_, rfl⟩
  have Hr := Lib.hid hr
  rw [← hr]
  clear hr
  go_enter Tryd.func62, Tryd.ntmps62
  go_wp2_with fail
  go_loopw [3, 5, 6, 9] (fun s _ _ i wr => ∃ (k x : Nat), k ≤ n ∧ i = .int .i64 k ∧ s = .int .u64 (x : Nat) ∧ Hid (x = setN (zss.take k).flatten) ∧ Hid (isHand (zss.take k).flatten = true) ∧ Below w.heap.size w wr) (fun _ _ _ i _ => n - (intOf i).toNat)
  case atStart => exact ⟨0, 0, Nat.zero_le _, rfl, rfl, Lib.hid rfl, Lib.hid rfl, Below.refl _ _⟩
  case round =>
    obtain ⟨k, x, hk, rfl, rfl, hx, hh, B⟩ := hrel
    by_cases hlt : k < n
    · have hz : k < zss.length := by rw [← Hn.out]; exact hlt
      obtain ⟨blk, off, cap', p, c, b, hv, hc, hr, -⟩ := Hrow.out wr B k hz
      have ha := (Value.slice.inj hv).1
      clear hv
      subst ha
      have hsm := Hsum.out k hz
      have HS := Lib.hid (setOf_any _ _ b wr hr (by omega))
      have HI := isHand_any _ _ b wr hr (by omega)
      have hft := flat_take zss k hz
      obtain ⟨zs, hzs⟩ : ∃ zs, zs = zss[k]'hz := ⟨_, rfl⟩
      rw [← hzs] at hc HS HI hft
      obtain ⟨m, hm⟩ : ∃ m, m = zs.length := ⟨_, rfl⟩
      rw [← hm] at hc HS HI
      have hap := isHand_app (B := zs) hh.out
      rw [← hft, ← hx.out] at hap
      have hor := bits_or (setN_lt (zss.take k).flatten) (setN_lt zs)
      have hand := bits_and (setN_lt (zss.take k).flatten) (setN_lt zs)
      rw [← hx.out] at hor hand
      have hx2 : Hid (x ||| setN zs = setN (zss.take (k + 1)).flatten) := Lib.hid (by rw [hft, setN_app, ← hx.out])
      clear hr hsm hzs hm hft
      cases e1 : isHand zs with
      | false =>
        rw [e1] at hap HI
        have hr1 : Hid (r = false) := Lib.hid (by rw [Hr.out]; exact apart_no (k := k + 1) (by rw [hap]; rfl))
        have HI := Lib.hid HI
        generalize setN zs = q at *
        clear hap hor hand e1
        go_wp2_with fail
        refine HS.out.mono ?_
        rintro e _w ⟨rfl, rfl⟩
        go_wp2_with fail
        refine HI.out.mono ?_
        rintro e w1 ⟨rfl, B1⟩
        replace B := B.trans (B1.mono B.size)
        go_wp2_with fail
        go_ret
        exact ⟨by rw [hr1.out]; rfl, B⟩
      | true =>
        rw [e1] at hap HI
        have HI := Lib.hid HI
        by_cases e2 : x &&& setN zs = 0
        · have hh2 : Hid (isHand (zss.take (k + 1)).flatten = true) := Lib.hid (by rw [hap, e2]; rfl)
          have hq : (((x &&& setN zs : Nat) : Int) != 0) = false := by rw [e2]; rfl
          generalize setN zs = q at *
          generalize x ||| q = y at *
          generalize x &&& q = z at *
          clear hap e1 e2
          go_wp2_with fail
          refine HS.out.mono ?_
          rintro e _w ⟨rfl, rfl⟩
          go_wp2_with fail
          refine HI.out.mono ?_
          rintro e w1 ⟨rfl, B1⟩
          replace B := B.trans (B1.mono B.size)
          clear B1 HI HS
          go_wp2_with fail
          go_roundw
          case rel => exact ⟨k + 1, y, by omega, by go_num, rfl, hx2, hh2, B⟩
          case measure => simp [intOf]; omega
        · have hr1 : Hid (r = false) := Lib.hid (by rw [Hr.out]; exact apart_no (k := k + 1) (by rw [hap, decide_eq_false e2]; rfl))
          have hq : (((x &&& setN zs : Nat) : Int) != 0) = true := by simp only [bne_iff_ne, ne_eq]; omega
          generalize setN zs = q at *
          generalize x &&& q = z at *
          clear hap hor e1 e2
          go_wp2_with fail
          refine HS.out.mono ?_
          rintro e _w ⟨rfl, rfl⟩
          go_wp2_with fail
          refine HI.out.mono ?_
          rintro e w1 ⟨rfl, B1⟩
          replace B := B.trans (B1.mono B.size)
          go_wp2_with fail
          go_ret
          exact ⟨by rw [hr1.out]; rfl, B⟩
    · obtain rfl : k = n := by omega
      have hr1 : Hid (r = true) := Lib.hid (by
        rw [Hr.out]; unfold apart
        have := hh.out
        rwa [List.take_of_length_le (by rw [Hn.out]; exact Nat.le_refl _)] at this)
      go_wp2_with fail
      go_ret
      exact ⟨by rw [hr1.out]; rfl, B⟩

set_option maxRecDepth 100000 in
set_option maxHeartbeats 1000000 in
theorem sAllApart_big (v : Value) (zss : List (List Int)) (w : World) (h : RdRows .i64 w v zss) (hl : zss.length ≤ 1048576) (hl2 : sumLen zss ≤ 4194304) :
    Calls Tryd.prog 60 #[v] w fun e w' => e = .returned (.bool (apart zss)) ∧ Below w.heap.size w w' := by
  obtain ⟨i0, hi, hz0, hz1, hz2⟩ := info_parts info_i64
  have hrow := fun wx (hb : Below w.heap.size w wx) j (hj : j < zss.length) => (h.below hb).row hj
  obtain ⟨a, cap, rfl, -, -⟩ := id h
  obtain ⟨n, hn⟩ : ∃ n, n = zss.length := ⟨_, rfl⟩
  have Hn := Lib.hid hn
  have Hrow := Lib.hid hrow
  have Hft : Hid (∀ k (hk : k < zss.length), (zss.take (k + 1)).flatten = (zss.take k).flatten ++ zss[k] ∧ (zss.take k).flatten.length + zss[k].length ≤ 4194304) := Lib.hid (fun k hk => by
    have h1 := flat_take zss k hk
    have h2 := flat_len (zss.take (k + 1))
    have h3 := sumLen_take_le zss (k + 1)
    rw [h1, List.length_append] at h2
    exact ⟨h1, by omega⟩)
  have Hwf : Hid (∀ x ∈ zss.flatten, (Lit.int .i64 x).wf = true) := Lib.hid (fun x hx => by
    obtain ⟨zs, h1, h2⟩ := List.mem_flatten.1 hx
    obtain ⟨j, hj, rfl⟩ := List.getElem_of_mem h1
    obtain ⟨_, _, _, _, _, b, _, _, hr, _⟩ := h.row hj
    exact hr.wf x h2)
  have Hsl : Hid (zss.flatten.length ≤ 4194304) := Lib.hid (by rw [flat_len]; exact hl2)
  rw [← hn] at hl ⊢
  clear hn hrow h hl2
  go_enter Tryd.func60, Tryd.ntmps60
  go_wp2_with fail
  have hown0 := World.ownsRow_lit (base := w.heap.size) (e := 3) (size := 1) w #[] 0 (Nat.le_refl _) (Nat.zero_le _) rfl
  go_loopw [3, 4] (fun o i wr => ∃ k : Nat, k ≤ n ∧ i = .int .i64 k ∧ Below w.heap.size w wr ∧ wr.ownsRow w.heap.size 3 1 o (zss.take k).flatten.length ((zss.take k).flatten.map (Value.int .i64))) (fun _ i _ => n - (intOf i).toNat)
  case atStart => exact ⟨0, Nat.zero_le _, rfl, (Below.refl _ _).alloc (Nat.le_refl _) _, hown0⟩
  case round =>
    clear hown0
    obtain ⟨k, hk, rfl, B, hown⟩ := hrel
    by_cases hlt : k < n
    · have hz : k < zss.length := by rw [← Hn.out]; exact hlt
      obtain ⟨blk, off, cap', p, c, b, hv, hc, hr, -⟩ := Hrow.out wr B k hz
      have ha := (Value.slice.inj hv).1
      clear hv
      subst ha
      obtain ⟨hft, hle⟩ := Hft.out k hz
      have Hf2 := Lib.hid hft
      generalize (zss.take k).flatten = F at *
      have hsz := B.size
      clear hft
      go_wp2_with (at_builtin; refine wpList_append_rd _ rfl _ _ 23 rfl w.heap.size 3 i0 (.int .i64 0) 8 Tryd.underlying23 hi hz0 hz1 hz2 rfl _ _ _ rfl hown .i64 _ (zss[k]'hz) b rfl hr ?f3 ?f4 ?f5 ?_)
      case f3 => unfold maxLen; omega
      case f4 => omega
      case f5 => exact hsz
      intro v6 w6 hown6 hgr
      have hB2 : Below w.heap.size w w6 := B.grown hgr hsz (own_block hown)
      have hown7 := own_app hown6
      rw [← Hf2.out] at hown7
      clear hown6 hgr hown hr hle B
      go_wp2_with fail
      go_roundw
      case rel => exact ⟨k + 1, by omega, by go_num, hB2, hown7⟩
      case measure => simp [intOf]; omega
    · obtain rfl : k = n := by omega
      rw [List.take_of_length_le (by rw [Hn.out]; exact Nat.le_refl _)] at hown
      obtain ⟨b', hb', hw'⟩ := own_wr hown Hwf.out
      have HI := Lib.hid (sIsHand_any _ _ b' wr hw'.rd (by have := Hsl.out; omega))
      clear hown hw'
      go_wp2_with fail
      refine HI.out.mono ?_
      rintro e w1 ⟨rfl, B1⟩
      replace B := B.trans (B1.mono B.size)
      go_wp2_with fail
      go_ret
      exact ⟨rfl, B⟩
theorem allApart_any (v : Value) (zss : List (List Int)) (w : World) (h : RdRows .i64 w v zss) (hl : zss.length ≤ 1048576) (hl2 : sumLen zss ≤ 1048576) :
    Calls Tryd.prog 62 #[v] w fun e w' => e = .returned (.bool (apart zss)) ∧ Below w.heap.size w w' := allApart_big v zss w h hl (by omega)
theorem sAllApart_any (v : Value) (zss : List (List Int)) (w : World) (h : RdRows .i64 w v zss) (hl : zss.length ≤ 1048576) (hl2 : sumLen zss ≤ 1048576) :
    Calls Tryd.prog 60 #[v] w fun e w' => e = .returned (.bool (apart zss)) ∧ Below w.heap.size w w' := sAllApart_big v zss w h hl (by omega)
end Go.Proofs.YtbojhbhniollaaaDoor
namespace Go.Proofs.YtbojhbhniollaaaDoor
open Go.RowKit

def shape1 (D : MDeal) : Prop := (2 ≤ (D.hands.length : Int) ∧ (D.hands.length : Int) ≤ 4) ∧ D.won.length = D.hands.length ∧ D.points.length = D.hands.length
def shape2 (D : MDeal) : Prop := (0 ≤ D.leader ∧ D.leader ≤ (D.hands.length : Int) - 1) ∧ (-1 ≤ D.trump ∧ D.trump ≤ 3) ∧ (0 ≤ D.left ∧ D.left ≤ 26) ∧ D.trick.length < D.hands.length
instance (D : MDeal) : Decidable (shape1 D) := by unfold shape1; infer_instance
instance (D : MDeal) : Decidable (shape2 D) := by unfold shape2; infer_instance
def isDeal (D : MDeal) : Bool := decide (shape1 D) && decide (shape2 D) && apart (D.hands ++ [D.trick]) && leftOK D
theorem isDeal_no1 {D : MDeal} (h : ¬ shape1 D) : isDeal D = false := by unfold isDeal; rw [decide_eq_false h]; rfl
theorem isDeal_no2 {D : MDeal} (h : ¬ shape2 D) : isDeal D = false := by unfold isDeal; rw [decide_eq_false h, Bool.and_false]; rfl
theorem isDeal_no3 {D : MDeal} (h : apart (D.hands ++ [D.trick]) = false) : isDeal D = false := by unfold isDeal; rw [h, Bool.and_false]; rfl
theorem isDeal_yes {D : MDeal} (h1 : shape1 D) (h2 : shape2 D) (h3 : apart (D.hands ++ [D.trick]) = true) : isDeal D = leftOK D := by unfold isDeal; rw [decide_eq_true h1, decide_eq_true h2, h3]; rfl

/-- The rows of a slice of slices as values. -/
theorem RdRows.vals {w : World} {v : Value} {zss : List (List Int)} (h : RdRows .i64 w v zss) : ∃ us : List Value, us.length = zss.length ∧ RdVals w v us ∧ (∀ u ∈ us, u.oneCell' = true) ∧ ∀ j (hj : j < zss.length), ∃ (r : Value) (b : Nat), us[j]? = some r ∧ RdAt .i64 w r zss[j] b := by
  obtain ⟨a, cap, rfl, hc, h3⟩ := h
  rcases h3 with rfl | ⟨blk, off, rfl, h5⟩
  · exact ⟨[], rfl, ⟨a, cap, rfl, hc, .inl rfl⟩, by simp, fun j hj => by simp at hj⟩
  · obtain ⟨us, hus⟩ : ∃ us, us = (List.range zss.length).map (fun j => (w.cell? ⟨blk, off + j, none⟩).getD undef) := ⟨_, rfl⟩
    have hl : us.length = zss.length := by rw [hus]; simp
    have hg : ∀ j (hj : j < us.length), w.cell? ⟨blk, off + j, none⟩ = some us[j] := by
      intro j hj
      obtain ⟨r, b, hc', -⟩ := h5 j (by omega)
      simp only [hus, List.getElem_map, List.getElem_range, hc']; rfl
    refine ⟨us, hl, ⟨_, cap, by rw [hl], by rw [hl]; exact hc, .inr ⟨blk, off, rfl, hg⟩⟩, ?_, fun j hj => ?_⟩
    · intro u hu
      obtain ⟨j, hj, rfl⟩ := List.getElem_of_mem hu
      obtain ⟨r, b, hc', p, c, e, -⟩ := h5 j (by omega)
      have := (hg j hj).symm.trans hc'
      rw [Option.some.inj this, e]; rfl
    · obtain ⟨r, b, hc', hr⟩ := h5 j hj
      refine ⟨r, b, ?_, hr⟩
      rw [List.getElem?_eq_getElem (by omega)]
      exact (hg j (by omega)).symm.trans hc'
theorem rows_of_own {w : World} {B : Nat} {E : TypeId} {v : Value} {us : List Value} {zss : List (List Int)} (h : w.ownsRow B E 1 v zss.length us) (hr : ∀ j (hj : j < zss.length), ∃ (r : Value) (b : Nat), us[j]? = some r ∧ RdAt .i64 w r zss[j] b) : RdRows .i64 w v zss := by
  rcases h.2 with ⟨rfl, h0⟩ | ⟨g, cap, cur, rfl, -, hh, hnc, hcm, -, htk⟩
  · obtain rfl := List.length_eq_zero_iff.1 h0
    exact ⟨none, 0, rfl, ⟨Nat.le_refl _, Nat.zero_le _, fun _ => rfl⟩, .inl rfl⟩
  · refine ⟨_, cap, rfl, ⟨hnc, hcm, fun e => by cases e⟩, .inr ⟨g, 0, rfl, fun j hj => ?_⟩⟩
    obtain ⟨r, b, h1, h2⟩ := hr j hj
    refine ⟨r, b, ?_, h2⟩
    rw [← htk, List.getElem?_take_of_lt (by omega), Array.getElem?_toList] at h1
    rw [Nat.zero_add]
    simp only [World.cell?, hh]; exact h1

set_option linter.unusedVariables false in
set_option maxRecDepth 100000 in
set_option maxHeartbeats 2000000 in
theorem isDeal_any (a0 a1 : Addr) (v : Value) (D : MDeal) (w : World) (h : RdDeal w v D) (hf : D.Few) (hS : Sent a0 a1 w) (r : Bool) (hr : isDeal D = r) :
    Calls Tryd.prog 37 #[v] w fun e w' => e = .returned (.bool r) ∧ Below w.heap.size w w' := by
  have hD := h
  obtain ⟨v0, v3, v4, v5, b3, b4, b5, rfl, h0, h3, h4, h5, wf1, wf2, wf6⟩ := h
  obtain ⟨p0, c0, e0, -⟩ := id h0
  obtain ⟨p3, c3, e3, -⟩ := id h3
  obtain ⟨p4, c4, e4, -⟩ := id h4
  obtain ⟨p5, c5, e5, -⟩ := id h5
  subst e0 e3 e4 e5
  have Hr := Lib.hid hr
  have B0 := fun o => (Below.refl w.heap.size w).alloc (Nat.le_refl _) o
  have HD := Lib.hid hD
  have HS := Lib.hid hS
  have H0 := Lib.hid h0
  have H3 := Lib.hid h3
  have bl := bounds_i64 wf1
  have bt := bounds_i64 wf2
  have be := bounds_i64 wf6
  have Hf := Lib.hid hf
  obtain ⟨f0, fs0, f3, f4, f5⟩ := hf
  have Hno1 := Lib.hid (isDeal_no1 (D := D))
  have Hno2 := Lib.hid (isDeal_no2 (D := D))
  unfold shape1 at Hno1
  unfold shape2 at Hno2
  obtain ⟨n, hn⟩ : ∃ n, D.hands.length = n := ⟨_, rfl⟩
  obtain ⟨m, hm⟩ : ∃ m, D.trick.length = m := ⟨_, rfl⟩
  obtain ⟨nw, hnw⟩ : ∃ nw, D.won.length = nw := ⟨_, rfl⟩
  obtain ⟨np, hnp⟩ : ∃ np, D.points.length = np := ⟨_, rfl⟩
  obtain ⟨l, hl⟩ : ∃ l, D.leader = l := ⟨_, rfl⟩
  obtain ⟨t, ht⟩ : ∃ t, D.trump = t := ⟨_, rfl⟩
  obtain ⟨L, hL⟩ : ∃ L, D.left = L := ⟨_, rfl⟩
  have Hn := Lib.hid hn
  have Hm := Lib.hid hm
  have Hw := Lib.hid hnw
  have Hp := Lib.hid hnp
  have Hl := Lib.hid hl
  have Ht := Lib.hid ht
  have HL := Lib.hid hL
  rw [hn, hm, hl, ht, hL] at Hno2
  rw [hn, hnw, hnp] at Hno1
  rw [hn, hm, hnw, hnp, hl, ht, hL] at HD
  rw [hn] at f0 H0
  rw [hm] at f3 H3
  rw [hnw] at f4
  rw [hnp] at f5
  rw [hl] at bl
  rw [ht] at bt
  rw [hL] at be
  rw [hn, hm, hnw, hnp, hl, ht, hL]
  clear hD h0 h3 h4 h5 wf1 wf2 wf6 hn hm hnw hnp hl ht hL hS hr
  have hw1 : IntKind.i64.wrap ((n : Int) - 1) = (n : Int) - 1 := IntWalk.i64_in _ (by omega)
  have HN1 := Lib.hid (fun wx => inR_any (n : Int) 2 4 wx _ rfl)
  have HN2 := Lib.hid (fun wx => inR_any l 0 ((n : Int) - 1) wx _ rfl)
  have HN3 := Lib.hid (fun wx => inR_any t (-1) 3 wx _ rfl)
  have HN4 := Lib.hid (fun wx => inR_any L 0 26 wx _ rfl)
  by_cases g1 : 2 ≤ (n : Int) ∧ (n : Int) ≤ 4
  · rw [decide_eq_true g1] at HN1
    have g1a := g1.1
    have g1b := g1.2
    by_cases g2 : nw = n
    · subst g2
      by_cases g3 : np = nw
      · subst g3
        by_cases g4 : 0 ≤ l ∧ l ≤ (np : Int) - 1
        · rw [decide_eq_true g4] at HN2
          by_cases g5 : -1 ≤ t ∧ t ≤ 3
          · rw [decide_eq_true g5] at HN3
            by_cases g6 : 0 ≤ L ∧ L ≤ 26
            · rw [decide_eq_true g6] at HN4
              by_cases g7 : m < np
              · have g7a : ¬ (np : Int) ≤ (m : Int) := by omega
                have hu := RdRows.vals H0.out
                obtain ⟨us, hul, hv0, hone, hrows⟩ := hu
                obtain ⟨W0, hW0⟩ : ∃ W0, w.alloc (.cells #[.slice p0 np c0, .int .i64 l, .int .i64 t, .slice p3 m c3, .slice p4 np c4, .slice p5 np c5, .int .i64 L] 31) = W0 := ⟨_, rfl⟩
                have hb0 : W0.heap[w.heap.size]? = some (.cells #[.slice p0 np c0, .int .i64 l, .int .i64 t, .slice p3 m c3, .slice p4 np c4, .slice p5 np c5, .int .i64 L] 31 (0, 0)) := by rw [← hW0]; exact heap_alloc_new w _
                have hz0 : W0.heap.size = w.heap.size + 1 := by rw [← hW0]; simp
                obtain ⟨W1, hW1⟩ : ∃ W1, W0.alloc (.cells #[.slice p3 m c3] 23) = W1 := ⟨_, rfl⟩
                have hb1 : W1.heap[w.heap.size + 1]? = some (.cells #[.slice p3 m c3] 23 (0, 0)) := by rw [← hW1, ← hz0]; exact heap_alloc_new W0 _
                have hB1 : Below W0.heap.size W0 W1 := by rw [← hW1]; exact (Below.refl _ _).alloc (Nat.le_refl _) _
                have hz1 : W1.heap.size = w.heap.size + 1 + 1 := by rw [← hW1]; simp [hz0]
                obtain ⟨W2, hW2⟩ : ∃ W2, W1.alloc (.cells #[.slice p0 np c0, .slice (some ⟨w.heap.size + 1, 0, none⟩) 1 1] 22) = W2 := ⟨_, rfl⟩
                have hb2 : W2.heap[w.heap.size + 1 + 1]? = some (.cells #[.slice p0 np c0, .slice (some ⟨w.heap.size + 1, 0, none⟩) 1 1] 22 (0, 0)) := by rw [← hW2, ← hz1]; exact heap_alloc_new W1 _
                have hB2 : Below W1.heap.size W1 W2 := by rw [← hW2]; exact (Below.refl _ _).alloc (Nat.le_refl _) _
                have hBw0 : Below w.heap.size w W0 := by rw [← hW0]; exact B0 _
                have hBw2 : Below w.heap.size w W2 := hBw0.trans ((hB1.mono (by omega)).trans (hB2.mono (by omega)))
                have hb0' : W2.heap[w.heap.size]? = some (.cells #[.slice p0 np c0, .int .i64 l, .int .i64 t, .slice p3 m c3, .slice p4 np c4, .slice p5 np c5, .int .i64 L] 31 (0, 0)) := by rw [hB2.block _ (by omega), hB1.block _ (by omega)]; exact hb0
                have hb1' : W2.heap[w.heap.size + 1]? = some (.cells #[.slice p3 m c3] 23 (0, 0)) := by rw [hB2.block _ (by omega)]; exact hb1
                have q0 : W2.cell? ⟨w.heap.size + 1 + 1, 0, none⟩ = some (.slice p0 np c0) := by simp [World.cell?, hb2]
                have q1 : W2.cell? ⟨w.heap.size + 1 + 1, 0 + 1, none⟩ = some (.slice (some ⟨w.heap.size + 1, 0, none⟩) 1 1) := by simp [World.cell?, hb2]
                have q2 : W2.cell? ⟨w.heap.size + 1, 0, none⟩ = some (.slice p3 m c3) := by simp [World.cell?, hb1']
                have hvb : RdVals W2 (.slice (some ⟨w.heap.size + 1, 0, none⟩) 1 1) [.slice p3 m c3] := ⟨_, 1, rfl, ⟨Nat.le_refl _, by unfold maxLen; decide, fun e => by cases e⟩, .inr ⟨_, 0, rfl, fun j hj => by
                  have hj0 : j = 0 := by simp at hj; exact hj
                  subst hj0; exact q2⟩⟩
                have HC := Lib.hid (catR_any _ _ us [.slice p3 m c3] (w.heap.size + 1 + 1) 0 2 W2 (hv0.below hBw2) hvb q0 q1 (Nat.le_refl _) (by rw [hul, Hn.out]; omega) (by simp) hone (by intro u hu; simp at hu; subst hu; rfl))
                have HRR : Hid (∀ W v', Below w.heap.size w W → W.ownsRow W2.heap.size 23 1 v' (us.length + [Value.slice p3 m c3].length) (us ++ [.slice p3 m c3]) → RdRows .i64 W v' (D.hands ++ [D.trick])) := Lib.hid (fun W v' hW ho => by
                  refine rows_of_own (us := us ++ [.slice p3 m c3]) (B := W2.heap.size) (E := 23) (by rw [List.length_append, ← hul]; exact ho) (fun j hj => ?_)
                  by_cases hjl : j < D.hands.length
                  · obtain ⟨r, b, h1, h2⟩ := hrows j hjl
                    refine ⟨r, b, by rw [List.getElem?_append_left (by omega)]; exact h1, ?_⟩
                    rw [List.getElem_append_left hjl]; exact h2.below hW
                  · have hje : j = D.hands.length := by rw [List.length_append] at hj; simp at hj; omega
                    subst hje
                    refine ⟨.slice p3 m c3, b3, by rw [List.getElem?_append_right (by omega), hul]; simp, ?_⟩
                    rw [List.getElem_append_right (by omega)]
                    simp only [Nat.sub_self, List.getElem_singleton]
                    exact H3.out.below hW)
                have Hb0 := Lib.hid hb0'
                have hlt2 : w.heap.size < W2.heap.size := (Array.getElem?_eq_some_iff.1 hb0').1
                have hsum : sumLen (D.hands ++ [D.trick]) ≤ 4194304 := by
                  have : sumLen (D.hands ++ [D.trick]) = sumLen D.hands + D.trick.length := by simp [sumLen]
                  rw [this, Hm.out]; omega
                have hlen : (D.hands ++ [D.trick]).length ≤ 1048576 := by rw [List.length_append, Hn.out]; simp; omega
                have HH := Lib.hid (fun W (hW : Below w.heap.size w W) => hasWhatIsLeft_any a0 a1 _ D W (HD.out.below hW) Hf.out (by rw [Hn.out]; omega) (by rw [Hn.out]; omega) (by rw [Hw.out, Hn.out]) (by rw [Hp.out, Hn.out]) (by rw [Hl.out]; omega) (by rw [Hl.out]; omega) (by rw [HL.out]; omega) (by rw [HL.out]; omega) (HS.out.below hW (Nat.le_refl _)) _ rfl)
                have HY : Hid (apart (D.hands ++ [D.trick]) = true → isDeal D = leftOK D) := Lib.hid (isDeal_yes (by unfold shape1; rw [Hn.out, Hw.out, Hp.out]; exact ⟨g1, rfl, rfl⟩) (by unfold shape2; rw [Hn.out, Hl.out, Ht.out, HL.out, Hm.out]; exact ⟨g4, g5, g6, g7⟩))
                obtain ⟨lk, hlk⟩ : ∃ lk, leftOK D = lk := ⟨_, rfl⟩
                rw [hlk] at HH HY
                obtain ⟨y0, y1, y2, y3, y4, y5, y6⟩ := SDeal_cells hb0
                clear hul hv0 hone hrows hb0 hb1 hb2 hb0' hb1' q0 q1 q2 hvb hB1 hB2 hBw0 hlk
                go_enter Tryd.func37, Tryd.ntmps37
                go_wp2_with fail
                refine (HN1.out _).mono ?_
                rintro e _w ⟨rfl, rfl⟩
                go_wp2_with fail
                refine (HN2.out _).mono ?_
                rintro e _w ⟨rfl, rfl⟩
                go_wp2_with fail
                refine (HN3.out _).mono ?_
                rintro e _w ⟨rfl, rfl⟩
                go_wp2_with fail
                refine (HN4.out _).mono ?_
                rintro e _w ⟨rfl, rfl⟩
                go_wp2_with fail
                refine HC.out.mono ?_
                rintro e W3 ⟨v', rfl, hown, hB3⟩
                have hBw3 : Below w.heap.size w W3 := hBw2.trans (hB3.mono (Nat.le_of_lt hlt2))
                have hRR := HRR.out W3 v' hBw3 hown
                have HA := Lib.hid (allApart_big v' _ W3 hRR hlen hsum)
                have Hb3 : Hid (W3.heap[w.heap.size]? = _) := Lib.hid ((hB3.block _ hlt2).trans Hb0.out)
                have hlt3 : w.heap.size < W3.heap.size := by have := hB3.size; omega
                clear hown hRR
                go_wp2_with fail
                cases ha : apart (D.hands ++ [D.trick]) with
                | false =>
                  rw [ha] at HA
                  have Hf3 := Lib.hid (isDeal_no3 ha)
                  clear ha
                  refine HA.out.mono ?_
                  rintro e W4 ⟨rfl, hB4⟩
                  have hBw4 : Below w.heap.size w W4 := hBw3.trans (hB4.mono (Nat.le_of_lt hlt3))
                  go_wp2_with fail
                  go_ret
                  exact ⟨by rw [← Hr.out, Hf3.out]; rfl, hBw4⟩
                | true =>
                  rw [ha] at HA
                  have Hf3 := Lib.hid (HY.out ha)
                  clear ha
                  refine HA.out.mono ?_
                  rintro e W4 ⟨rfl, hB4⟩
                  have hBw4 : Below w.heap.size w W4 := hBw3.trans (hB4.mono (Nat.le_of_lt hlt3))
                  obtain ⟨k0, k1, k2, k3, k4, k5, k6⟩ := SDeal_cells ((hB4.block _ hlt3).trans Hb3.out)
                  have HH4 := Lib.hid (HH.out W4 hBw4)
                  go_wp2_with fail
                  refine HH4.out.mono ?_
                  rintro e W5 ⟨rfl, hB5⟩
                  go_wp2_with fail
                  go_ret
                  exact ⟨by rw [← Hr.out, Hf3.out]; rfl, hBw4.trans (hB5.mono hBw4.size)⟩
              · have g7a : (np : Int) ≤ (m : Int) := by omega
                go_enter Tryd.func37, Tryd.ntmps37
                go_wp2_with fail
                refine (HN1.out _).mono ?_
                rintro e _w ⟨rfl, rfl⟩
                go_wp2_with fail
                refine (HN2.out _).mono ?_
                rintro e _w ⟨rfl, rfl⟩
                go_wp2_with fail
                refine (HN3.out _).mono ?_
                rintro e _w ⟨rfl, rfl⟩
                go_wp2_with fail
                refine (HN4.out _).mono ?_
                rintro e _w ⟨rfl, rfl⟩
                go_wp2_with fail
                go_ret
                exact ⟨by rw [← Hr.out, Hno2.out (by intro H; exact g7 H.2.2.2)]; rfl, B0 _⟩
            · rw [decide_eq_false g6] at HN4
              go_enter Tryd.func37, Tryd.ntmps37
              go_wp2_with fail
              refine (HN1.out _).mono ?_
              rintro e _w ⟨rfl, rfl⟩
              go_wp2_with fail
              refine (HN2.out _).mono ?_
              rintro e _w ⟨rfl, rfl⟩
              go_wp2_with fail
              refine (HN3.out _).mono ?_
              rintro e _w ⟨rfl, rfl⟩
              go_wp2_with fail
              refine (HN4.out _).mono ?_
              rintro e _w ⟨rfl, rfl⟩
              go_wp2_with fail
              go_ret
              exact ⟨by rw [← Hr.out, Hno2.out (by intro H; exact g6 H.2.2.1)]; rfl, B0 _⟩
          · rw [decide_eq_false g5] at HN3
            go_enter Tryd.func37, Tryd.ntmps37
            go_wp2_with fail
            refine (HN1.out _).mono ?_
            rintro e _w ⟨rfl, rfl⟩
            go_wp2_with fail
            refine (HN2.out _).mono ?_
            rintro e _w ⟨rfl, rfl⟩
            go_wp2_with fail
            refine (HN3.out _).mono ?_
            rintro e _w ⟨rfl, rfl⟩
            go_wp2_with fail
            go_ret
            exact ⟨by rw [← Hr.out, Hno2.out (by intro H; exact g5 H.2.1)]; rfl, B0 _⟩
        · rw [decide_eq_false g4] at HN2
          go_enter Tryd.func37, Tryd.ntmps37
          go_wp2_with fail
          refine (HN1.out _).mono ?_
          rintro e _w ⟨rfl, rfl⟩
          go_wp2_with fail
          refine (HN2.out _).mono ?_
          rintro e _w ⟨rfl, rfl⟩
          go_wp2_with fail
          go_ret
          exact ⟨by rw [← Hr.out, Hno2.out (by intro H; exact g4 H.1)]; rfl, B0 _⟩
      · have g3a : ¬ ((np : Int) = (nw : Int)) := by omega
        go_enter Tryd.func37, Tryd.ntmps37
        go_wp2_with fail
        refine (HN1.out _).mono ?_
        rintro e _w ⟨rfl, rfl⟩
        go_wp2_with fail
        go_ret
        exact ⟨by rw [← Hr.out, Hno1.out (by intro H; exact g3 H.2.2)]; rfl, B0 _⟩
    · have g2a : ¬ ((nw : Int) = (n : Int)) := by omega
      go_enter Tryd.func37, Tryd.ntmps37
      go_wp2_with fail
      refine (HN1.out _).mono ?_
      rintro e _w ⟨rfl, rfl⟩
      go_wp2_with fail
      go_ret
      exact ⟨by rw [← Hr.out, Hno1.out (by intro H; exact g2 H.2.1)]; rfl, B0 _⟩
  · rw [decide_eq_false g1] at HN1
    go_enter Tryd.func37, Tryd.ntmps37
    go_wp2_with fail
    refine (HN1.out _).mono ?_
    rintro e _w ⟨rfl, rfl⟩
    go_wp2_with fail
    go_ret
    exact ⟨by rw [← Hr.out, Hno1.out (by intro H; exact g1 H.1)]; rfl, B0 _⟩
end Go.Proofs.YtbojhbhniollaaaDoor
namespace Go.Proofs.YtbojhbhniollaaaDoor
open Go.RowKit

def minI (a b : Int) : Int := if b < a then b else a
def maxI (a b : Int) : Int := if a < b then b else a




theorem smin_any (a b : Int) (w : World) :
    Calls Tryd.prog 87 #[.int .i64 a, .int .i64 b] w fun e w' => e = .returned (.int .i64 (minI a b)) ∧ w = w' := by
  by_cases h : b < a
  · have e1 : minI a b = b := if_pos h
    rw [e1]
    clear e1
    go_enter Tryd.func87, Tryd.ntmps87
    go_wp2
    go_ret
    exact ⟨rfl, rfl⟩
  · have e1 : minI a b = a := if_neg h
    rw [e1]
    clear e1
    go_enter Tryd.func87, Tryd.ntmps87
    go_wp2
    go_ret
    exact ⟨rfl, rfl⟩

theorem smax_any (a b : Int) (w : World) :
    Calls Tryd.prog 86 #[.int .i64 a, .int .i64 b] w fun e w' => e = .returned (.int .i64 (maxI a b)) ∧ w = w' := by
  by_cases h : a < b
  · have e1 : maxI a b = b := if_pos h
    rw [e1]
    clear e1
    go_enter Tryd.func86, Tryd.ntmps86
    go_wp2
    go_ret
    exact ⟨rfl, rfl⟩
  · have e1 : maxI a b = a := if_neg h
    rw [e1]
    clear e1
    go_enter Tryd.func86, Tryd.ntmps86
    go_wp2
    go_ret
    exact ⟨rfl, rfl⟩

end Go.Proofs.YtbojhbhniollaaaDoor
