/-
  Several texts in one: Cards: IsCard, SuitOf, RankOf by contract, the program's and the model's. Contracts of the model's functions of chapters 4 and 5: cards and hands. Hands as the bits of one number: bitOf, the two tests, IsHand (the program's), by contract. setOf by contract: a hand as a set of bits; hands that are apart. AllApart by contract, both sides. Patterns: what the signs of a pattern come to, as functions of a card. No program in this text. cardOf and the methods of card. The closures that patterns are made of: what each says of a card.
-/
import Derived.Test.YtijdhpkeojkphaaGreatDoorRows
import Derived.WalkKit
import Derived.WalkLawsBesides
import Derived.WalkSpells
import Derived.LoopTactic
import Derived.Lib.Hide
import Derived.Test.YtijdhpkeojkphaaGreatDoorM4
import Derived.Shelf.Abstract
namespace Go.Proofs.YtijdhpkeojkphaaGreatDoor
open Go.RowKit

def isCard (c : Int) : Bool := decide (0 ≤ c ∧ c ≤ 51)
def suitOf (c : Int) : Int := if isCard c then c / 13 else -1
def rankOf (c : Int) : Int := if isCard c then c % 13 else -1
theorem isCard_t {c : Int} (h : isCard c = true) : 0 ≤ c ∧ c ≤ 51 := by unfold isCard at h; simpa using h
theorem isCard_f {c : Int} (h : isCard c = false) : c < 0 ∨ 51 < c := by unfold isCard at h; simp at h; omega
theorem suit_in {c : Int} (h : isCard c = true) : suitOf c = c / 13 := by unfold suitOf; rw [h]; rfl
theorem rank_in {c : Int} (h : isCard c = true) : rankOf c = c % 13 := by unfold rankOf; rw [h]; rfl
theorem suit_out {c : Int} (h : isCard c = false) : suitOf c = -1 := by unfold suitOf; rw [h]; rfl
theorem rank_out {c : Int} (h : isCard c = false) : rankOf c = -1 := by unfold rankOf; rw [h]; rfl
theorem isCard_yes {c : Int} (h : 0 ≤ c ∧ c ≤ 51) : isCard c = true := by unfold isCard; simpa using h
theorem isCard_no {c : Int} (h : ¬ (0 ≤ c ∧ c ≤ 51)) : isCard c = false := by unfold isCard; simp; omega
theorem sIsCard_r (c : Int) (w : World) (r : Bool) (hr : isCard c = r) :
    Calls Tryz.prog 56 #[.int .i64 c] w fun e w' => e = .returned (.bool r) ∧ w = w' := by
  subst hr
  by_cases h0 : 0 ≤ c
  · by_cases h1 : c ≤ 51
    · have e : isCard c = true := by exact isCard_yes ⟨h0, h1⟩
      rw [e]; clear e
      go_enter Tryz.func56, Tryz.ntmps56
      go_wp2
      go_ret
      exact ⟨rfl, rfl⟩
    · have e : isCard c = false := by exact isCard_no (by omega)
      have hd : decide (c ≤ 51) = false := by simp; omega
      rw [e]; clear e
      go_enter Tryz.func56, Tryz.ntmps56
      go_wp2
      go_ret
      exact ⟨rfl, rfl⟩
  · have e : isCard c = false := by exact isCard_no (by omega)
    rw [e]; clear e
    go_enter Tryz.func56, Tryz.ntmps56
    go_wp2
    go_ret
    exact ⟨rfl, rfl⟩
theorem sSuitOf_r (c : Int) (w : World) (r : Int) (hr : suitOf c = r) :
    Calls Tryz.prog 57 #[.int .i64 c] w fun e w' => e = .returned (.int .i64 r) ∧ w = w' := by
  subst hr
  by_cases h0 : 0 ≤ c
  · by_cases h1 : c ≤ 51
    · have e : suitOf c = c / 13 := by exact suit_in (isCard_yes ⟨h0, h1⟩)
      rw [e]; clear e
      go_enter Tryz.func57, Tryz.ntmps57
      go_wp2
      go_ret
      exact ⟨rfl, rfl⟩
    · have e : suitOf c = -1 := by exact suit_out (isCard_no (by omega))
      have hd : decide (c ≤ 51) = false := by simp; omega
      rw [e]; clear e
      go_enter Tryz.func57, Tryz.ntmps57
      go_wp2
      go_ret
      exact ⟨rfl, rfl⟩
  · have e : suitOf c = -1 := by exact suit_out (isCard_no (by omega))
    rw [e]; clear e
    go_enter Tryz.func57, Tryz.ntmps57
    go_wp2
    go_ret
    exact ⟨rfl, rfl⟩
theorem sRankOf_r (c : Int) (w : World) (r : Int) (hr : rankOf c = r) :
    Calls Tryz.prog 58 #[.int .i64 c] w fun e w' => e = .returned (.int .i64 r) ∧ w = w' := by
  subst hr
  by_cases h0 : 0 ≤ c
  · by_cases h1 : c ≤ 51
    · have e : rankOf c = c % 13 := by exact rank_in (isCard_yes ⟨h0, h1⟩)
      rw [e]; clear e
      go_enter Tryz.func58, Tryz.ntmps58
      go_wp2
      go_ret
      exact ⟨rfl, rfl⟩
    · have e : rankOf c = -1 := by exact rank_out (isCard_no (by omega))
      have hd : decide (c ≤ 51) = false := by simp; omega
      rw [e]; clear e
      go_enter Tryz.func58, Tryz.ntmps58
      go_wp2
      go_ret
      exact ⟨rfl, rfl⟩
  · have e : rankOf c = -1 := by exact rank_out (isCard_no (by omega))
    rw [e]; clear e
    go_enter Tryz.func58, Tryz.ntmps58
    go_wp2
    go_ret
    exact ⟨rfl, rfl⟩
theorem isCard_r (c : Int) (w : World) (r : Bool) (hr : isCard c = r) :
    Calls Tryz.prog 83 #[.int .i64 c] w fun e w' => e = .returned (.bool r) ∧ w = w' := by
  subst hr
  by_cases h0 : 0 ≤ c
  · by_cases h1 : c ≤ 51
    · have e : isCard c = true := by exact isCard_yes ⟨h0, h1⟩
      rw [e]; clear e
      go_enter Tryz.func83, Tryz.ntmps83
      go_wp2
      go_ret
      exact ⟨rfl, rfl⟩
    · have e : isCard c = false := by exact isCard_no (by omega)
      have hd : decide (c ≤ 51) = false := by simp; omega
      rw [e]; clear e
      go_enter Tryz.func83, Tryz.ntmps83
      go_wp2
      go_ret
      exact ⟨rfl, rfl⟩
  · have e : isCard c = false := by exact isCard_no (by omega)
    rw [e]; clear e
    go_enter Tryz.func83, Tryz.ntmps83
    go_wp2
    go_ret
    exact ⟨rfl, rfl⟩
theorem suitOf_r (c : Int) (w : World) (r : Int) (hr : suitOf c = r) :
    Calls Tryz.prog 105 #[.int .i64 c] w fun e w' => e = .returned (.int .i64 r) ∧ w = w' := by
  subst hr
  by_cases h0 : 0 ≤ c
  · by_cases h1 : c ≤ 51
    · have e : suitOf c = c / 13 := by exact suit_in (isCard_yes ⟨h0, h1⟩)
      rw [e]; clear e
      go_enter Tryz.func105, Tryz.ntmps105
      go_wp2
      go_ret
      exact ⟨rfl, rfl⟩
    · have e : suitOf c = -1 := by exact suit_out (isCard_no (by omega))
      have hd : decide (c ≤ 51) = false := by simp; omega
      rw [e]; clear e
      go_enter Tryz.func105, Tryz.ntmps105
      go_wp2
      go_ret
      exact ⟨rfl, rfl⟩
  · have e : suitOf c = -1 := by exact suit_out (isCard_no (by omega))
    rw [e]; clear e
    go_enter Tryz.func105, Tryz.ntmps105
    go_wp2
    go_ret
    exact ⟨rfl, rfl⟩
theorem sIsCard_any (c : Int) (w : World) :
    Calls Tryz.prog 56 #[.int .i64 c] w fun e w' => e = .returned (.bool (isCard c)) ∧ w = w' := sIsCard_r c w _ rfl
end Go.Proofs.YtijdhpkeojkphaaGreatDoor
namespace Go.Proofs.YtijdhpkeojkphaaGreatDoor
open Go.RowKit

def hasI (zs : List Int) (c : Int) : Bool := decide (c ∈ zs)
/-- All are cards, and none is there twice: told from the front, as the model looks. -/
def isHand (zs : List Int) : Bool := decide (∀ j (h : j < zs.length), isCard zs[j] = true ∧ zs[j] ∉ zs.take j)


set_option maxRecDepth 100000 in
theorem sHasCard_any (v : Value) (zs : List Int) (b : Nat) (c : Int) (w : World) (h : RdAt .i64 w v zs b) (hl : zs.length ≤ 1099511627776) :
    Calls Tryz.prog 43 #[v, .int .i64 c] w fun e w' => e = .returned (.bool (hasI zs c)) ∧ w = w' := by
  obtain ⟨a, cap, rfl, -, -, hcell⟩ := h
  obtain ⟨n, hn⟩ : ∃ n, n = zs.length := ⟨_, rfl⟩
  have Hn := Lib.hid hn
  rw [← hn] at hl ⊢
  clear hn
  obtain ⟨r, hr⟩ : ∃ r, r = hasI zs c := ⟨_, rfl⟩
  have Hr := Lib.hid hr
  rw [← hr]
  clear hr
  go_enter Tryz.func43, Tryz.ntmps43
  go_wp2_with fail
  go_loop [5] (fun i => ∃ k : Nat, k ≤ n ∧ i = .int .i64 k ∧ Hid (∀ j (hj : j < zs.length), j < k → zs[j] ≠ c)) (fun i => n - (intOf i).toNat)
  case atStart => exact ⟨0, Nat.zero_le _, rfl, Lib.hid (fun j _ h => by omega)⟩
  case round =>
    obtain ⟨k, hk, rfl, hno⟩ := hrel
    by_cases hlt : k < n
    · have hz : k < zs.length := by rw [← Hn.out]; exact hlt
      rcases hcell with h0 | ⟨off, rfl, hc⟩
      · subst h0; simp at hz
      obtain ⟨y, hy⟩ : ∃ y, Hid (y = zs[k]) := ⟨_, Lib.hid rfl⟩
      have h1 : w.cell? ⟨b, off + k, none⟩ = some (.int .i64 y) := by rw [hc k hz, hy.out]
      clear hc
      by_cases hyc : y = c
      · subst hyc
        have hr1 : Hid (r = true) := Lib.hid (by rw [Hr.out]; unfold hasI; rw [hy.out]; simp)
        go_wp2_with fail
        go_ret
        exact ⟨by rw [hr1.out]; rfl, rfl⟩
      · have hq : (y == c) = false := by simpa using hyc
        have hno2 : Hid (∀ j (hj : j < zs.length), j < k + 1 → zs[j] ≠ c) := Lib.hid (fun j hj h => by
          by_cases e : j = k
          · subst e; rw [← hy.out]; exact hyc
          · exact hno.out j hj (by omega))
        clear hyc
        go_wp2_with fail
        go_round
        case rel => exact ⟨k + 1, by omega, by go_num, hno2⟩
        case measure => simp [intOf]; omega
    · obtain rfl : k = n := by omega
      have hr1 : Hid (r = false) := Lib.hid (by
        rw [Hr.out]; unfold hasI
        simp only [decide_eq_false_iff_not]
        intro hm
        obtain ⟨j, hj, e⟩ := List.getElem_of_mem hm
        exact hno.out j hj (by rw [Hn.out]; exact hj) e)
      go_wp2_with fail
      go_ret
      exact ⟨by rw [hr1.out]; rfl, rfl⟩

theorem isHand_no {zs : List Int} {k : Nat} (hk : k < zs.length) (h : isCard zs[k] = false ∨ hasI (zs.take k) zs[k] = true) : isHand zs = false := by
  unfold isHand
  simp only [decide_eq_false_iff_not]
  intro ha
  obtain ⟨h1, h2⟩ := ha k hk
  rcases h with h | h
  · rw [h] at h1; cases h1
  · unfold hasI at h; simp only [decide_eq_true_eq] at h; exact h2 h
theorem isHand_yes {zs : List Int} (h : ∀ j (hj : j < zs.length), isCard zs[j] = true ∧ hasI (zs.take j) zs[j] = false) : isHand zs = true := by
  unfold isHand
  simp only [decide_eq_true_eq]
  intro j hj
  refine ⟨(h j hj).1, ?_⟩
  have := (h j hj).2
  unfold hasI at this
  simpa using this

set_option maxRecDepth 100000 in
set_option maxHeartbeats 1000000 in
theorem sIsHand_any (v : Value) (zs : List Int) (b : Nat) (w : World) (h : RdAt .i64 w v zs b) (hl : zs.length ≤ 1099511627776) :
    Calls Tryz.prog 54 #[v] w fun e w' => e = .returned (.bool (isHand zs)) ∧ Below w.heap.size w w' := by
  obtain ⟨a, cap, rfl, hcap, hwf, hcell⟩ := h
  obtain ⟨n, hn⟩ : ∃ n, n = zs.length := ⟨_, rfl⟩
  have Hn := Lib.hid hn
  have Hcap := Lib.hid (show zs.length ≤ cap ∧ cap ≤ maxLen from ⟨hcap.1, hcap.2.1⟩)
  have hcap1 : n ≤ cap := by omega
  have hcap2 : cap ≤ 9223372036854775807 := by have := hcap.2.1; unfold maxLen at this; omega
  rw [← hn] at hl ⊢
  clear hn hcap
  obtain ⟨r, hr⟩ : ∃ r, r = isHand zs := ⟨_, rfl⟩
  have Hr := Lib.hid hr
  rw [← hr]
  clear hr
  go_enter Tryz.func54, Tryz.ntmps54
  go_wp2_with fail
  go_loopw [3] (fun i wr => ∃ k : Nat, k ≤ n ∧ i = .int .i64 k ∧ (∃ q, wr = w.drewN q) ∧ Hid (∀ j (hj : j < zs.length), j < k → isCard zs[j] = true ∧ hasI (zs.take j) zs[j] = false)) (fun i _ => n - (intOf i).toNat)
  case atStart => exact ⟨0, Nat.zero_le _, rfl, ⟨0, rfl⟩, Lib.hid (fun j _ h => by omega)⟩
  case round =>
    obtain ⟨k, hk, rfl, hq, hok⟩ := hrel
    have Hq := Lib.hid hq
    clear hq
    by_cases hlt : k < n
    · have hz : k < zs.length := by rw [← Hn.out]; exact hlt
      rcases hcell with h0 | ⟨off, rfl, hc⟩
      · subst h0; simp at hz
      have hrd : ∀ m, RdAt .i64 (wr.drewN m) (.slice (some ⟨b, off, none⟩) k cap) (zs.take k) b := fun m => by
        obtain ⟨q, e⟩ := Hq.out
        subst e
        exact RdAt.take (w := (w.drewN q).drewN m) Hcap.out hwf (fun j hj => hc j hj) k (by omega)
      have Hrd := Lib.hid hrd
      obtain ⟨y, hy⟩ : ∃ y, Hid (y = zs[k]) := ⟨_, Lib.hid rfl⟩
      have h1 : wr.cell? ⟨b, off + k, none⟩ = some (.int .i64 y) := by
        obtain ⟨q, e⟩ := Hq.out
        subst e
        show w.cell? _ = _
        rw [hc k hz, hy.out]
      have hlk : (zs.take k).length ≤ 1099511627776 := by rw [List.length_take]; omega
      clear hc hrd
      cases e1 : isCard y with
      | false =>
        have hr1 : Hid (r = false) := Lib.hid (by rw [Hr.out]; exact isHand_no hz (.inl (by rw [← hy.out]; exact e1)))
        go_wp2_with fail
        go_quiet ((go_at_call 56; exact Calls.quiet_of_same (flip_same (sIsCard_any _ _) (congrArg Value.bool e1))))
        go_wp2_with fail
        go_ret
        exact ⟨by rw [hr1.out]; rfl, by obtain ⟨q, e⟩ := Hq.out; subst e; exact below_drewN (below_drewN (Below.refl _ _) _) _⟩
      | true =>
        cases e2 : hasI (zs.take k) y with
        | true =>
          have hr1 : Hid (r = false) := Lib.hid (by rw [Hr.out]; exact isHand_no hz (.inr (by rw [← hy.out]; exact e2)))
          go_wp2_with fail
          go_quiet (first | (go_at_call 56; exact Calls.quiet_of_same (flip_same (sIsCard_any _ _) (congrArg Value.bool e1))) | (go_at_call 43; exact Calls.quiet_of_same (flip_same (sHasCard_any _ _ _ _ _ (Hrd.out _) hlk) (congrArg Value.bool e2))))
          go_wp2_with fail
          go_ret
          exact ⟨by rw [hr1.out]; rfl, by obtain ⟨q, e⟩ := Hq.out; subst e; exact below_drewN (below_drewN (Below.refl _ _) _) _⟩
        | false =>
          have hok2 : Hid (∀ j (hj : j < zs.length), j < k + 1 → isCard zs[j] = true ∧ hasI (zs.take j) zs[j] = false) := Lib.hid (fun j hj h => by
            by_cases e : j = k
            · subst e; rw [← hy.out]; exact ⟨e1, e2⟩
            · exact hok.out j hj (by omega))
          go_wp2_with fail
          go_quiet (first | (go_at_call 56; exact Calls.quiet_of_same (flip_same (sIsCard_any _ _) (congrArg Value.bool e1))) | (go_at_call 43; exact Calls.quiet_of_same (flip_same (sHasCard_any _ _ _ _ _ (Hrd.out _) hlk) (congrArg Value.bool e2))))
          go_wp2_with fail
          go_roundw
          case rel => exact ⟨k + 1, by omega, by go_num, by obtain ⟨q, e⟩ := Hq.out; subst e; exact ⟨_, World.drewN_drewN _ _ _⟩, hok2⟩
          case measure => simp [intOf]; omega
    · obtain rfl : k = n := by omega
      have hr1 : Hid (r = true) := Lib.hid (by rw [Hr.out]; exact isHand_yes (fun j hj => hok.out j hj (by rw [Hn.out]; exact hj)))
      go_wp2_with fail
      go_ret
      exact ⟨by rw [hr1.out]; rfl, by obtain ⟨q, e⟩ := Hq.out; subst e; exact below_drewN (Below.refl _ _) _⟩

end Go.Proofs.YtijdhpkeojkphaaGreatDoor
namespace Go.Proofs.YtijdhpkeojkphaaGreatDoor
open Go.RowKit

def bitN (c : Int) : Nat := if isCard c then 2 ^ c.toNat else 0
theorem bitN_in {c : Int} (h : isCard c = true) : bitN c = 2 ^ c.toNat := by unfold bitN; rw [h]; rfl
theorem bitN_out {c : Int} (h : isCard c = false) : bitN c = 0 := by unfold bitN; rw [h]; rfl
theorem pow_lt52 {m : Nat} (h : m ≤ 51) : (2 : Nat) ^ m < 2 ^ 52 := Nat.pow_lt_pow_right (by omega) (by omega)
theorem bitN_lt (c : Int) : bitN c < 2 ^ 52 := by
  cases h : isCard c with
  | true =>
    rw [bitN_in h]
    have := isCard_t h
    exact pow_lt52 (by omega)
  | false => rw [bitN_out h]; exact Nat.pos_of_ne_zero (by decide)
theorem u64_nat {n : Nat} (h : n < 2 ^ 52) : IntKind.u64.wrap (n : Int) = (n : Int) := by
  rw [IntKind.wrap_u64]
  have : (2 : Nat) ^ 52 = 4503599627370496 := by decide
  omega
theorem ofInt_nat {a : Nat} (ha : a < 2 ^ 52) : (BitVec.ofInt 64 (a : Int)).toNat = a := by
  rw [BitVec.toNat_ofInt]
  have : (2 : Nat) ^ 52 = 4503599627370496 := by decide
  have h2 : ((2 ^ 64 : Nat) : Int) = 18446744073709551616 := by decide
  rw [h2]; omega
theorem bits_and {a b : Nat} (ha : a < 2 ^ 52) (hb : b < 2 ^ 52) : bits .and .u64 (a : Int) (b : Int) = ((a &&& b : Nat) : Int) := by
  show IntKind.u64.wrap ((BitVec.ofInt 64 (a : Int) &&& BitVec.ofInt 64 (b : Int)).toNat : Nat) = _
  rw [BitVec.toNat_and, ofInt_nat ha, ofInt_nat hb]
  exact u64_nat (Nat.lt_of_le_of_lt Nat.and_le_left ha)
theorem bits_or {a b : Nat} (ha : a < 2 ^ 52) (hb : b < 2 ^ 52) : bits .or .u64 (a : Int) (b : Int) = ((a ||| b : Nat) : Int) := by
  show IntKind.u64.wrap ((BitVec.ofInt 64 (a : Int) ||| BitVec.ofInt 64 (b : Int)).toNat : Nat) = _
  rw [BitVec.toNat_or, ofInt_nat ha, ofInt_nat hb]
  exact u64_nat (Nat.or_lt_two_pow ha hb)
theorem bitOf_any (c : Int) (w : World) :
    Calls Tryz.prog 140 #[.int .i64 c] w fun e w' => e = .returned (.int .u64 (bitN c : Nat)) ∧ w = w' := by
  by_cases h0 : 0 ≤ c
  · by_cases h1 : c ≤ 51
    · have Hr : Hid (((bitN c : Nat) : Int) = IntKind.u64.wrap (2 ^ c.toNat)) := Lib.hid (by
        have e : ((2 : Int) ^ c.toNat) = ((2 ^ c.toNat : Nat) : Int) := by simp
        rw [e, u64_nat (pow_lt52 (by omega)), bitN_in (by unfold isCard; simp; omega)])
      go_enter Tryz.func140, Tryz.ntmps140
      go_wp2
      go_ret
      exact ⟨by rw [Hr.out]; rfl, rfl⟩
    · have Hr : Hid (bitN c = 0) := Lib.hid (bitN_out (by unfold isCard; simp; omega))
      have hd : decide (c ≤ 51) = false := by simp; omega
      go_enter Tryz.func140, Tryz.ntmps140
      go_wp2
      go_ret
      exact ⟨by rw [Hr.out]; rfl, rfl⟩
  · have Hr : Hid (bitN c = 0) := Lib.hid (bitN_out (by unfold isCard; simp; omega))
    go_enter Tryz.func140, Tryz.ntmps140
    go_wp2
    go_ret
    exact ⟨by rw [Hr.out]; rfl, rfl⟩
theorem bitN_ne (c : Int) : ((((bitN c : Nat) : Int)) != 0) = isCard c := by
  cases h : isCard c with
  | true =>
    rw [bitN_in h]
    have : 0 < 2 ^ c.toNat := Nat.pow_pos (by omega)
    simp only [bne_iff_ne, ne_eq]; omega
  | false => rw [bitN_out h]; rfl
theorem hasPlace_any (s c : Int) (w : World) :
    Calls Tryz.prog 138 #[.int .u64 s, .int .i64 c] w fun e w' => e = .returned (.bool (isCard c)) ∧ w = w' := by
  have Hb := Lib.hid (bitOf_any c w)
  have Hn := Lib.hid (bitN_ne c)
  generalize bitN c = m at *
  go_enter Tryz.func138, Tryz.ntmps138
  go_wp2_with fail
  refine Hb.out.mono ?_
  rintro e _w ⟨rfl, rfl⟩
  go_wp2_with fail
  go_ret
  exact ⟨by rw [← Hn.out]; rfl, rfl⟩
theorem lacks_any (m : Nat) (c : Int) (w : World) (hm : m < 2 ^ 52) :
    Calls Tryz.prog 139 #[.int .u64 (m : Nat), .int .i64 c] w fun e w' => e = .returned (.bool (decide (m &&& bitN c = 0))) ∧ w = w' := by
  have Hb := Lib.hid (bitOf_any c w)
  have hand := bits_and hm (bitN_lt c)
  have Hr : Hid (decide (m &&& bitN c = 0) = ((((m &&& bitN c : Nat) : Int)) == 0)) := Lib.hid (by
    by_cases h : m &&& bitN c = 0
    · rw [h]; rfl
    · rw [decide_eq_false h]
      symm
      rw [beq_eq_false_iff_ne]
      intro e; exact h (by omega))
  generalize m &&& bitN c = p at *
  generalize bitN c = q at *
  clear hm
  go_enter Tryz.func139, Tryz.ntmps139
  go_wp2_with fail
  refine Hb.out.mono ?_
  rintro e _w ⟨rfl, rfl⟩
  go_wp2_with fail
  go_ret
  exact ⟨by rw [Hr.out]; rfl, rfl⟩
theorem has_take (zs : List Int) (k : Nat) (h : k < zs.length) (c : Int) : hasI (zs.take (k + 1)) c = (hasI (zs.take k) c || decide (zs[k] = c)) := by
  unfold hasI
  rw [List.take_succ_eq_append_getElem h]
  have e : (c ∈ zs.take k ++ [zs[k]]) ↔ (c ∈ zs.take k ∨ zs[k] = c) := by
    rw [List.mem_append, List.mem_singleton]; exact or_congr Iff.rfl eq_comm
  rw [decide_eq_decide.2 e, Bool.decide_or]
theorem and_bit (m : Nat) {c : Int} (hc : isCard c = true) : decide (m &&& bitN c = 0) = !m.testBit c.toNat := by
  rw [bitN_in hc]
  cases h : m.testBit c.toNat with
  | true =>
    rw [Bool.not_true, decide_eq_false_iff_not]
    intro e
    have h2 : (m &&& 2 ^ c.toNat).testBit c.toNat = true := by
      rw [Nat.testBit_and, h, Nat.testBit_two_pow]; simp
    rw [e, Nat.zero_testBit] at h2
    cases h2
  | false =>
    rw [Bool.not_false, decide_eq_true_eq]
    refine Nat.eq_of_testBit_eq fun j => ?_
    rw [Nat.testBit_and, Nat.testBit_two_pow, Nat.zero_testBit]
    by_cases e : c.toNat = j
    · subst e; rw [h]; rfl
    · simp [e]

set_option maxRecDepth 100000 in
set_option maxHeartbeats 1000000 in
theorem isHand_any (v : Value) (zs : List Int) (b : Nat) (w : World) (h : RdAt .i64 w v zs b) (hl : zs.length ≤ 1099511627776) :
    Calls Tryz.prog 109 #[v] w fun e w' => e = .returned (.bool (isHand zs)) ∧ Below w.heap.size w w' := by
  obtain ⟨a, cap, rfl, -, -, hcell⟩ := h
  obtain ⟨n, hn⟩ : ∃ n, n = zs.length := ⟨_, rfl⟩
  have Hn := Lib.hid hn
  rw [← hn] at hl ⊢
  clear hn
  obtain ⟨r, hr⟩ : ∃ r, r = isHand zs := ⟨_, rfl⟩
  have Hr := Lib.hid hr
  rw [← hr]
  clear hr
  go_enter Tryz.func109, Tryz.ntmps109
  go_wp2_with fail
  go_loopw [3, 10] (fun s i wr => ∃ k m : Nat, k ≤ n ∧ i = .int .i64 k ∧ s = .int .u64 (m : Nat) ∧ Hid (m < 2 ^ 52) ∧ Hid (∀ c : Nat, c < 52 → m.testBit c = hasI (zs.take k) (c : Int)) ∧ Below w.heap.size w wr ∧ Hid (∀ j (hj : j < zs.length), j < k → isCard zs[j] = true ∧ hasI (zs.take j) zs[j] = false)) (fun _ i _ => n - (intOf i).toNat)
  case atStart => exact ⟨0, 0, Nat.zero_le _, rfl, rfl, Lib.hid (by decide), Lib.hid (fun c _ => by simp [hasI]), Below.refl _ _, Lib.hid (fun j _ h => by omega)⟩
  case round =>
    obtain ⟨k, m, hk, rfl, rfl, hm, hbits, hB, hok⟩ := hrel
    by_cases hlt : k < n
    · have hz : k < zs.length := by rw [← Hn.out]; exact hlt
      rcases hcell with h0 | ⟨off, rfl, hc⟩
      · subst h0; simp at hz
      obtain ⟨y, hy⟩ : ∃ y, Hid (y = zs[k]) := ⟨_, Lib.hid rfl⟩
      have h1 : wr.cell? ⟨b, off + k, none⟩ = some (.int .i64 y) := by
        have h1 := hc k hz
        rw [hB.cell (World.block_lt_of_cell? _ _ h1), h1, hy.out]
      clear hc
      have P1 : Hid (∀ W, Calls Tryz.prog 138 #[.int .u64 (m : Nat), .int .i64 y] W fun e w' => e = .returned (.bool (isCard y)) ∧ W = w') := Lib.hid (fun W => hasPlace_any _ y W)
      have P2 : Hid (∀ W, Calls Tryz.prog 139 #[.int .u64 (m : Nat), .int .i64 y] W fun e w' => e = .returned (.bool (decide (m &&& bitN y = 0))) ∧ W = w') := Lib.hid (fun W => lacks_any m y W hm.out)
      have P3 : Hid (∀ W, Calls Tryz.prog 140 #[.int .i64 y] W fun e w' => e = .returned (.int .u64 (bitN y : Nat)) ∧ W = w') := Lib.hid (fun W => bitOf_any y W)
      have hsz := hB.size
      cases e1 : isCard y with
      | false =>
        have hr1 : Hid (r = false) := Lib.hid (by rw [Hr.out]; exact isHand_no hz (.inl (by rw [← hy.out]; exact e1)))
        have E1 := Lib.hid e1
        clear e1
        go_wp2_with fail
        refine wp_loop_rounds 3 ?_
        rw [rounds_succ]
        go_wp2_with fail
        refine (P1.out _).mono ?_
        rintro e _w ⟨rfl, rfl⟩
        rw [E1.out]
        go_wp2_with fail
        go_ret
        exact ⟨by rw [hr1.out]; rfl, hB.alloc hsz _⟩
      | true =>
        have hyb := isCard_t e1
        have E1 := Lib.hid e1
        have HA := Lib.hid (and_bit m e1)
        have Hbn := Lib.hid (bitN_in e1)
        have hbt : m.testBit y.toNat = hasI (zs.take k) y := by
          have := hbits.out y.toNat (by omega)
          rw [show ((y.toNat : Nat) : Int) = y by omega] at this
          exact this
        clear e1
        cases e2 : hasI (zs.take k) y with
        | true =>
          have hr1 : Hid (r = false) := Lib.hid (by rw [Hr.out]; exact isHand_no hz (.inr (by rw [← hy.out]; exact e2)))
          have HA2 : Hid (decide (m &&& bitN y = 0) = false) := Lib.hid (by rw [HA.out, hbt, e2]; rfl)
          clear e2 hbt hyb
          go_wp2_with fail
          refine wp_loop_rounds 3 ?_
          rw [rounds_succ]
          go_wp2_with fail
          refine (P1.out _).mono ?_
          rintro e _w ⟨rfl, rfl⟩
          rw [E1.out]
          go_wp2_with fail
          rw [rounds_succ]
          go_wp2_with fail
          refine (P2.out _).mono ?_
          rintro e _w ⟨rfl, rfl⟩
          rw [HA2.out]
          go_wp2_with fail
          go_ret
          exact ⟨by rw [hr1.out]; rfl, hB.alloc hsz _⟩
        | false =>
          have HA2 : Hid (decide (m &&& bitN y = 0) = true) := Lib.hid (by rw [HA.out, hbt, e2]; rfl)
          have hok2 : Hid (∀ j (hj : j < zs.length), j < k + 1 → isCard zs[j] = true ∧ hasI (zs.take j) zs[j] = false) := Lib.hid (fun j hj h => by
            by_cases e : j = k
            · subst e; rw [← hy.out]; exact ⟨E1.out, e2⟩
            · exact hok.out j hj (by omega))
          have hor := bits_or hm.out (bitN_lt y)
          have hm2 : Hid (m ||| bitN y < 2 ^ 52) := Lib.hid (Nat.or_lt_two_pow hm.out (bitN_lt y))
          have hb2 : Hid (∀ c : Nat, c < 52 → (m ||| bitN y).testBit c = hasI (zs.take (k + 1)) (c : Int)) := Lib.hid (fun c hc => by
            rw [Nat.testBit_or, hbits.out c hc, has_take zs k hz, ← hy.out, Hbn.out, Nat.testBit_two_pow]
            congr 1
            by_cases e : y = (c : Int)
            · subst e; simp
            · simp only [e, decide_false, decide_eq_false_iff_not]; omega)
          clear e2 hbt hyb
          generalize m ||| bitN y = m2 at *
          go_wp2_with fail
          refine wp_loop_rounds 3 ?_
          rw [rounds_succ]
          go_wp2_with fail
          refine (P1.out _).mono ?_
          rintro e _w ⟨rfl, rfl⟩
          rw [E1.out]
          go_wp2_with fail
          rw [rounds_succ]
          go_wp2_with fail
          refine (P2.out _).mono ?_
          rintro e _w ⟨rfl, rfl⟩
          rw [HA2.out]
          go_wp2_with fail
          rw [rounds_succ]
          go_wp2_with fail
          refine (P3.out _).mono ?_
          rintro e _w ⟨rfl, rfl⟩
          generalize bitN y = q at *
          go_wp2_with fail
          go_roundw
          case rel => exact ⟨k + 1, m2, by omega, by go_num, rfl, hm2, hb2, hB.alloc hsz _, hok2⟩
          case measure => simp [intOf]; omega
    · obtain rfl : k = n := by omega
      have hr1 : Hid (r = true) := Lib.hid (by rw [Hr.out]; exact isHand_yes (fun j hj => hok.out j hj (by rw [Hn.out]; exact hj)))
      go_wp2_with fail
      go_ret
      exact ⟨by rw [hr1.out]; rfl, hB⟩
end Go.Proofs.YtijdhpkeojkphaaGreatDoor
namespace Go.Proofs.YtijdhpkeojkphaaGreatDoor
open Go.RowKit

def setN (zs : List Int) : Nat := zs.foldl (fun s c => s ||| bitN c) 0
theorem setN_snoc (zs : List Int) (c : Int) : setN (zs ++ [c]) = setN zs ||| bitN c := by simp [setN]
theorem setN_lt (zs : List Int) : setN zs < 2 ^ 52 := by
  suffices h : ∀ (l : List Int) (m : Nat), m < 2 ^ 52 → l.foldl (fun s c => s ||| bitN c) m < 2 ^ 52 from h zs 0 (by decide)
  intro l
  induction l with
  | nil => exact fun m h => h
  | cons x l ih => exact fun m h => ih _ (Nat.or_lt_two_pow h (bitN_lt x))
theorem bitN_bit (c : Int) (j : Nat) : (bitN c).testBit j = decide (isCard c = true ∧ c = (j : Int)) := by
  cases h : isCard c with
  | true =>
    have hc := isCard_t h
    rw [bitN_in h, Nat.testBit_two_pow]
    by_cases e : c = (j : Int)
    · simp [e]
    · have : c.toNat ≠ j := by omega
      simp [e, this]
  | false => rw [bitN_out h, Nat.zero_testBit]; simp
theorem foldl_bit (l : List Int) (m j : Nat) : (l.foldl (fun s c => s ||| bitN c) m).testBit j = (m.testBit j || decide (isCard (j : Int) = true ∧ (j : Int) ∈ l)) := by
  induction l generalizing m with
  | nil => simp
  | cons x l ih =>
    rw [List.foldl_cons, ih, Nat.testBit_or, bitN_bit]
    by_cases e : x = (j : Int)
    · subst e
      cases h : isCard (j : Int) <;> simp
    · have e2 : ¬ (j : Int) = x := fun h => e h.symm
      simp [e, e2]
theorem setN_bit (zs : List Int) (j : Nat) : (setN zs).testBit j = decide (isCard (j : Int) = true ∧ (j : Int) ∈ zs) := by
  unfold setN; rw [foldl_bit]; simp
theorem setN_app (A B : List Int) : setN (A ++ B) = setN A ||| setN B := by
  refine Nat.eq_of_testBit_eq fun j => ?_
  rw [Nat.testBit_or, setN_bit, setN_bit, setN_bit]
  cases h : isCard (j : Int) <;> simp
theorem isHand_iff (zs : List Int) : isHand zs = true ↔ (∀ x ∈ zs, isCard x = true) ∧ zs.Nodup := by
  unfold isHand
  simp only [decide_eq_true_eq]
  constructor
  · intro h
    refine ⟨fun x hx => ?_, ?_⟩
    · obtain ⟨j, hj, rfl⟩ := List.getElem_of_mem hx
      exact (h j hj).1
    · rw [List.nodup_iff_pairwise_ne, List.pairwise_iff_getElem]
      intro i j hi hj hij e
      refine (h j hj).2 ?_
      rw [← e]
      exact List.mem_take_iff_getElem.2 ⟨i, by omega, rfl⟩
  · rintro ⟨h1, h2⟩ j hj
    refine ⟨h1 _ (List.getElem_mem hj), fun hm => ?_⟩
    obtain ⟨i, hi, e⟩ := List.mem_take_iff_getElem.1 hm
    rw [List.nodup_iff_pairwise_ne, List.pairwise_iff_getElem] at h2
    exact h2 i j (by omega) hj (by omega) e
theorem isHand_app {A B : List Int} (hA : isHand A = true) : isHand (A ++ B) = (isHand B && decide (setN A &&& setN B = 0)) := by
  obtain ⟨a1, a2⟩ := (isHand_iff A).1 hA
  have key : (setN A &&& setN B = 0 ∧ isHand B = true) ↔ isHand (A ++ B) = true := by
    rw [isHand_iff, isHand_iff, List.nodup_append]
    constructor
    · rintro ⟨h, b1, b2⟩
      refine ⟨fun x hx => (List.mem_append.1 hx).elim (a1 x) (b1 x), a2, b2, fun x hx y hy e => ?_⟩
      subst e
      have hc := isCard_t (a1 x hx)
      have h3 : (setN A &&& setN B).testBit x.toNat = true := by
        have e2 : ((x.toNat : Nat) : Int) = x := by omega
        rw [Nat.testBit_and, setN_bit, setN_bit, e2]; simp [a1 x hx, hx, hy]
      rw [h, Nat.zero_testBit] at h3
      cases h3
    · rintro ⟨h1, -, h3, h4⟩
      refine ⟨?_, fun x hx => h1 x (List.mem_append_right _ hx), h3⟩
      refine Nat.eq_of_testBit_eq fun j => ?_
      rw [Nat.testBit_and, setN_bit, setN_bit, Nat.zero_testBit]
      by_cases hj : (j : Int) ∈ A
      · by_cases hj2 : (j : Int) ∈ B
        · exact absurd rfl (h4 _ hj _ hj2)
        · simp [hj2]
      · simp [hj]
  cases h : isHand (A ++ B) with
  | true =>
    obtain ⟨h1, h2⟩ := key.2 h
    rw [h1, h2]; rfl
  | false =>
    cases h2 : isHand B with
    | false => rfl
    | true =>
      have : ¬ setN A &&& setN B = 0 := fun e => by
        have := key.1 ⟨e, h2⟩
        rw [h] at this; cases this
      simp [this]
theorem isHand_pre {A B : List Int} (hA : isHand A = false) : isHand (A ++ B) = false := by
  cases h : isHand (A ++ B) with
  | false => rfl
  | true =>
    exfalso
    obtain ⟨h1, h2⟩ := (isHand_iff _).1 h
    have : isHand A = true := (isHand_iff A).2 ⟨fun x hx => h1 x (List.mem_append_left _ hx), (List.nodup_append.1 h2).1⟩
    rw [hA] at this; cases this

end Go.Proofs.YtijdhpkeojkphaaGreatDoor
namespace Go.Proofs.YtijdhpkeojkphaaGreatDoor
open Go.RowKit

def apart (zss : List (List Int)) : Bool := isHand zss.flatten
theorem flat_take (zss : List (List Int)) (k : Nat) (h : k < zss.length) : (zss.take (k + 1)).flatten = (zss.take k).flatten ++ zss[k] := by
  rw [List.take_succ_eq_append_getElem h, List.flatten_append]; simp
theorem flat_pre (zss : List (List Int)) (k : Nat) : zss.flatten = (zss.take k).flatten ++ (zss.drop k).flatten := by
  rw [← List.flatten_append, List.take_append_drop]
theorem flat_len (zss : List (List Int)) : zss.flatten.length = sumLen zss := by unfold sumLen; rw [List.length_flatten]
theorem apart_no {zss : List (List Int)} {k : Nat} (h : isHand (zss.take k).flatten = false) : apart zss = false := by
  unfold apart; rw [flat_pre zss k]; exact isHand_pre h

end Go.Proofs.YtijdhpkeojkphaaGreatDoor
namespace Go.Proofs.YtijdhpkeojkphaaGreatDoor
set_option linter.unusedVariables false
set_option linter.unusedSimpArgs false

def leafF (s : Int) : Option (Int → Bool) :=
  if 100 ≤ s ∧ s ≤ 103 then some fun c => decide (c / 13 = s - 100)
  else if 200 ≤ s ∧ s ≤ 212 then some fun c => decide (c % 13 = s - 200)
  else if 300 ≤ s ∧ s ≤ 312 then some fun c => decide (s - 300 ≤ c % 13)
  else if s = 400 then some fun c => decide (c / 13 = 1) || decide (c / 13 = 2)
  else none
def getF (st : List (Int → Bool)) (i : Nat) : Int → Bool := st.getD i fun _ => false
def notF (f : Int → Bool) : Int → Bool := fun c => !f c
def andF (f g : Int → Bool) : Int → Bool := fun c => f c && g c
def orF (f g : Int → Bool) : Int → Bool := fun c => f c || g c
def stepP (st : List (Int → Bool)) (s : Int) : Option (List (Int → Bool)) :=
  match leafF s with
  | some f => some (st ++ [f])
  | none =>
    if s = -1 ∧ 1 ≤ st.length then some (st.take (st.length - 1) ++ [notF (getF st (st.length - 1))])
    else if s = -2 ∧ 2 ≤ st.length then some (st.take (st.length - 2) ++ [andF (getF st (st.length - 2)) (getF st (st.length - 1))])
    else if s = -3 ∧ 2 ≤ st.length then some (st.take (st.length - 2) ++ [orF (getF st (st.length - 2)) (getF st (st.length - 1))])
    else none
def workP (st : List (Int → Bool)) : List Int → Option (List (Int → Bool))
  | [] => some st
  | s :: p => match stepP st s with
    | none => none
    | some st' => workP st' p
theorem workP_append (p q : List Int) : ∀ st, workP st (p ++ q) = (workP st p).bind fun st' => workP st' q := by
  induction p with
  | nil => intro st; rfl
  | cons s p ih =>
    intro st
    simp only [List.cons_append, workP]
    cases stepP st s with
    | none => rfl
    | some st' => exact ih st'
def isPat (p : List Int) : Bool := match workP [] p with
  | some [_] => decide (p.length ≤ 20)
  | _ => false
def patF (p : List Int) : Int → Bool := match workP [] p with
  | some [f] => f
  | _ => fun _ => false
theorem work_next (p : List Int) (k : Nat) (h : k < p.length) (st : List (Int → Bool)) (hs : workP [] (p.take k) = some st) : workP [] (p.take (k + 1)) = stepP st p[k] := by
  rw [List.take_succ_eq_append_getElem h, workP_append, hs]
  show workP st [p[k]] = _
  simp only [workP]
  cases stepP st p[k] <;> rfl
theorem work_none (p : List Int) (k : Nat) (h : workP [] (p.take k) = none) : workP [] p = none := by
  rw [← List.take_append_drop k p, workP_append, h]; rfl
theorem pat_none (p : List Int) (h : workP [] p = none) : isPat p = false := by unfold isPat; rw [h]
theorem pat_bad (p : List Int) (k : Nat) (h : k < p.length) (st : List (Int → Bool)) (hs : workP [] (p.take k) = some st) (hn : stepP st p[k] = none) : isPat p = false :=
  pat_none p (work_none p (k + 1) (by rw [work_next p k h st hs, hn]))
theorem pat_end (p : List Int) (st : List (Int → Bool)) (hs : workP [] p = some st) : isPat p = (decide (st.length = 1) && decide (p.length ≤ 20)) := by
  unfold isPat
  rw [hs]
  match st with
  | [] => rfl
  | [f] => rfl
  | f :: g :: l => simp
theorem pat_some (p : List Int) (h : isPat p = true) : ∃ f, workP [] p = some [f] ∧ patF p = f ∧ p.length ≤ 20 := by
  unfold isPat at h
  unfold patF
  split at h
  · rename_i f e; exact ⟨f, e, rfl, by simpa using h⟩
  · cases h
/-- What a sign does: by its kind. -/
def leaf (s : Int) : Bool := (leafF s).isSome
theorem leaf_iff (s : Int) : leaf s = decide ((100 ≤ s ∧ s ≤ 103) ∨ (200 ≤ s ∧ s ≤ 212) ∨ (300 ≤ s ∧ s ≤ 312) ∨ s = 400) := by
  unfold leaf leafF
  by_cases h1 : 100 ≤ s ∧ s ≤ 103
  · simp [h1]
  by_cases h2 : 200 ≤ s ∧ s ≤ 212
  · simp [h1, h2]
  by_cases h3 : 300 ≤ s ∧ s ≤ 312
  · simp [h1, h2, h3]
  by_cases h4 : s = 400
  · simp [h1, h2, h3, h4]
  · simp [h1, h2, h3, h4]
theorem step_leaf (st : List (Int → Bool)) (s : Int) (f : Int → Bool) (h : leafF s = some f) : stepP st s = some (st ++ [f]) := by unfold stepP; rw [h]
theorem leaf_none (s : Int) (h : leaf s = false) : leafF s = none := by
  unfold leaf at h
  cases e : leafF s with
  | none => rfl
  | some f => rw [e] at h; cases h
theorem leaf_some (s : Int) (h : leaf s = true) : ∃ f, leafF s = some f := by
  unfold leaf at h
  cases e : leafF s with
  | none => rw [e] at h; cases h
  | some f => exact ⟨f, rfl⟩
theorem leafF_neg (s : Int) (h : s < 0) : leafF s = none := by
  unfold leafF
  rw [if_neg (by omega), if_neg (by omega), if_neg (by omega), if_neg (by omega)]
theorem step_not (st : List (Int → Bool)) (h : 1 ≤ st.length) : stepP st (-1) = some (st.take (st.length - 1) ++ [notF (getF st (st.length - 1))]) := by
  unfold stepP; rw [leafF_neg _ (by omega)]; dsimp only; rw [if_pos ⟨rfl, h⟩]
theorem step_and (st : List (Int → Bool)) (h : 2 ≤ st.length) : stepP st (-2) = some (st.take (st.length - 2) ++ [andF (getF st (st.length - 2)) (getF st (st.length - 1))]) := by
  unfold stepP; rw [leafF_neg _ (by omega)]; dsimp only; rw [if_neg (by omega), if_pos ⟨rfl, h⟩]
theorem step_or (st : List (Int → Bool)) (h : 2 ≤ st.length) : stepP st (-3) = some (st.take (st.length - 2) ++ [orF (getF st (st.length - 2)) (getF st (st.length - 1))]) := by
  unfold stepP; rw [leafF_neg _ (by omega)]; dsimp only; rw [if_neg (by omega), if_neg (by omega), if_pos ⟨rfl, h⟩]
theorem step_bad (st : List (Int → Bool)) (s : Int) (hl : leaf s = false) (h1 : ¬ (s = -1 ∧ 1 ≤ st.length)) (h2 : ¬ (s = -2 ∧ 2 ≤ st.length)) (h3 : ¬ (s = -3 ∧ 2 ≤ st.length)) : stepP st s = none := by
  unfold stepP; rw [leaf_none _ hl]; dsimp only; rw [if_neg h1, if_neg h2, if_neg h3]
theorem step_len (st st' : List (Int → Bool)) (s : Int) (h : stepP st s = some st') : st'.length ≤ st.length + 1 := by
  unfold stepP at h
  split at h
  · cases h; simp
  · split at h
    · cases h; simp <;> omega
    · split at h
      · cases h; simp <;> omega
      · split at h
        · cases h; simp <;> omega
        · cases h

end Go.Proofs.YtijdhpkeojkphaaGreatDoor
namespace Go.Proofs.YtijdhpkeojkphaaGreatDoor
open Go.RowKit

theorem made4 : (madeCells #[Value.int .i64 0] 4).toList = [.int .i64 0, .int .i64 0, .int .i64 0, .int .i64 0] := by simp [madeCells, List.range, List.range.loop]
theorem cardOf_in (c : Int) (w : World) (h : isCard c = true) :
    Calls Tryz.prog 64 #[.int .i64 c] w fun e w' => e = .returned (.tuple #[.int .u8 c, .bool true]) ∧ w = w' := by
  have HC := Lib.hid (isCard_r c w _ h)
  obtain ⟨h0, h1⟩ := isCard_t h
  have hw : IntKind.u8.wrap c = c := by rw [IntKind.wrap_u8]; omega
  clear h
  go_enter Tryz.func64, Tryz.ntmps64
  go_wp2_with fail
  refine HC.out.mono ?_
  rintro e _w ⟨rfl, rfl⟩
  go_wp2_with fail
  go_ret2
  exact ⟨rfl, rfl⟩
theorem cardOf_out (c : Int) (w : World) (h : isCard c = false) :
    Calls Tryz.prog 64 #[.int .i64 c] w fun e w' => e = .returned (.tuple #[.int .u8 0, .bool false]) ∧ w = w' := by
  have HC := Lib.hid (isCard_r c w _ h)
  clear h
  go_enter Tryz.func64, Tryz.ntmps64
  go_wp2_with fail
  refine HC.out.mono ?_
  rintro e _w ⟨rfl, rfl⟩
  go_wp2_with fail
  go_ret2
  exact ⟨rfl, rfl⟩
theorem kSuit_r (c : Int) (w : World) (h0 : 0 ≤ c) (h1 : c ≤ 51) (r : Int) (hr : c / 13 = r) :
    Calls Tryz.prog 102 #[.int .u8 c] w fun e w' => e = .returned (.int .i64 r) ∧ w = w' := by
  subst hr
  go_enter Tryz.func102, Tryz.ntmps102
  go_wp2
  go_ret
  exact ⟨rfl, rfl⟩
theorem kRank_r (c : Int) (w : World) (h0 : 0 ≤ c) (h1 : c ≤ 51) (r : Int) (hr : c % 13 = r) :
    Calls Tryz.prog 103 #[.int .u8 c] w fun e w' => e = .returned (.int .i64 r) ∧ w = w' := by
  subst hr
  go_enter Tryz.func103, Tryz.ntmps103
  go_wp2
  go_ret
  exact ⟨rfl, rfl⟩
end Go.Proofs.YtijdhpkeojkphaaGreatDoor
namespace Go.Proofs.YtijdhpkeojkphaaGreatDoor
open Go.RowKit
set_option linter.unusedVariables false
set_option linter.unusedSimpArgs false

/-- Every block from L on is as it was. -/
def Keeps (L : Nat) (w w' : World) : Prop := w.heap.size ≤ w'.heap.size ∧ ∀ k, L ≤ k → k < w.heap.size → w'.heap[k]? = w.heap[k]?
theorem Keeps.refl (L : Nat) (w : World) : Keeps L w w := ⟨Nat.le_refl _, fun _ _ _ => rfl⟩
theorem Keeps.trans {L : Nat} {a b c : World} (h : Keeps L a b) (k : Keeps L b c) : Keeps L a c := ⟨Nat.le_trans h.1 k.1, fun i h1 h2 => (k.2 i h1 (Nat.lt_of_lt_of_le h2 h.1)).trans (h.2 i h1 h2)⟩
theorem Keeps.weaken {L M : Nat} {a b : World} (h : Keeps L a b) (hl : L ≤ M) : Keeps M a b := ⟨h.1, fun i h1 h2 => h.2 i (Nat.le_trans hl h1) h2⟩
theorem Below.keeps {L : Nat} {w w' : World} (b : Below w.heap.size w w') : Keeps L w w' := ⟨b.size, fun k _ h => b.block k h⟩
/-- The function value v says of each card what f says, as long as the blocks from L on stay as they are. -/
def Means (L : Nat) (w : World) (v : Value) (f : Int → Bool) : Prop :=
  ∃ (n : Nat) (caps : Array Value), v = .func (.func n) #[] caps ∧ Enters Tryz.prog n ∧ ∀ w', Keeps L w w' → ∀ c, 0 ≤ c → c ≤ 51 → Calls Tryz.prog n (#[.int .u8 c] ++ caps) w' fun e w'' => e = .returned (.bool (f c)) ∧ Below w'.heap.size w' w''
theorem Means.keep {L : Nat} {w w1 : World} {v : Value} {f : Int → Bool} (h : Means L w v f) (b : Keeps L w w1) : Means L w1 v f := by
  obtain ⟨n, caps, e, he, hc⟩ := h
  exact ⟨n, caps, e, he, fun w' b' => hc w' (b.trans b')⟩
theorem Means.below {L : Nat} {w w1 : World} {v : Value} {f : Int → Bool} (h : Means L w v f) (b : Below w.heap.size w w1) : Means L w1 v f := h.keep (Below.keeps b)
theorem Means.weaken {L M : Nat} {w : World} {v : Value} {f : Int → Bool} (h : Means L w v f) (hl : M ≤ L) : Means M w v f := by
  obtain ⟨n, caps, e, he, hc⟩ := h
  exact ⟨n, caps, e, he, fun w' b' => hc w' (b'.weaken hl)⟩
theorem patCell {w : World} {b : Nat} {v : Value} {t : TypeId} (h : w.heap[b]? = some (.cells #[v] t (0, 0))) : w.cell? ⟨b, 0, none⟩ = some v := by
  simp [World.cell?, h]
theorem patNew (w : World) (o : Obj) : (w.alloc o).heap[w.heap.size]? = some o := by
  show (w.heap.push o)[w.heap.size]? = _
  rw [Array.getElem?_push, if_pos rfl]

theorem ent1 : Enters Tryz.prog 125 := enters_of Tryz.func125 (by kernel_rfl) rfl
set_option maxRecDepth 100000 in
theorem says1 (n c : Int) (b : Nat) (w : World) (hc : w.cell? ⟨b, 0, none⟩ = some (.int .i64 n)) (h0 : 0 ≤ c) (h1 : c ≤ 51) :
    Calls Tryz.prog 125 #[.int .u8 c, .pointer (some ⟨b, 0, none⟩)] w fun e w' => e = .returned (.bool (decide (c / 13 = n))) ∧ Below w.heap.size w w' := by
  obtain ⟨r, hr⟩ : ∃ r, r = c / 13 := ⟨_, rfl⟩
  have HK := Lib.hid (fun wx => kSuit_r c wx h0 h1 r hr.symm)
  rw [← hr]
  clear hr
  cases hq : decide (r = n) with
  | true =>
    have e : (r == n) = true := by simpa using hq
    clear hq
    go_enter Tryz.func125, Tryz.ntmps125
    go_wp2_with fail
    go_quiet ((go_at_call 102; exact Calls.quiet_of_same (flip_same (HK.out _) rfl)))
    go_wp2_with fail
    go_ret
    exact ⟨rfl, below_drewN (Below.refl _ _) _⟩
  | false =>
    have e : (r == n) = false := by simpa using hq
    clear hq
    go_enter Tryz.func125, Tryz.ntmps125
    go_wp2_with fail
    go_quiet ((go_at_call 102; exact Calls.quiet_of_same (flip_same (HK.out _) rfl)))
    go_wp2_with fail
    go_ret
    exact ⟨rfl, below_drewN (Below.refl _ _) _⟩
set_option maxRecDepth 100000 in
theorem mk1_any {L : Nat} (n : Int) (tv : Value) (w : World) (hL : L ≤ w.heap.size) :
    Calls Tryz.prog 124 #[.int .i64 n, tv] w fun e w' => ∃ v, e = .returned v ∧ Means L w' v (fun c => decide (c / 13 = n)) ∧ Below w.heap.size w w' := by
  have hmf : ∀ (fn : Fn) (first cap : Array Value) (w : World), (Instr.makeFunc fn first cap).run Tryz.prog w = .ok (.func fn first cap) w := fun _ _ _ _ => rfl
  go_enter Tryz.func124, Tryz.ntmps124
  go_wp2
  go_ret
  refine ⟨_, rfl, ⟨_, _, rfl, ent1, fun w' hb c h0 h1 => says1 n c _ w' ?_ h0 h1⟩, (Below.refl _ _).alloc (Nat.le_refl _) _⟩
  exact patCell ((hb.2 _ hL (by simp)).trans (patNew _ _))
theorem ent2 : Enters Tryz.prog 127 := enters_of Tryz.func127 (by kernel_rfl) rfl
set_option maxRecDepth 100000 in
theorem says2 (n c : Int) (b : Nat) (w : World) (hc : w.cell? ⟨b, 0, none⟩ = some (.int .i64 n)) (h0 : 0 ≤ c) (h1 : c ≤ 51) :
    Calls Tryz.prog 127 #[.int .u8 c, .pointer (some ⟨b, 0, none⟩)] w fun e w' => e = .returned (.bool (decide (c % 13 = n))) ∧ Below w.heap.size w w' := by
  obtain ⟨r, hr⟩ : ∃ r, r = c % 13 := ⟨_, rfl⟩
  have HK := Lib.hid (fun wx => kRank_r c wx h0 h1 r hr.symm)
  rw [← hr]
  clear hr
  cases hq : decide (r = n) with
  | true =>
    have e : (r == n) = true := by simpa using hq
    clear hq
    go_enter Tryz.func127, Tryz.ntmps127
    go_wp2_with fail
    go_quiet ((go_at_call 103; exact Calls.quiet_of_same (flip_same (HK.out _) rfl)))
    go_wp2_with fail
    go_ret
    exact ⟨rfl, below_drewN (Below.refl _ _) _⟩
  | false =>
    have e : (r == n) = false := by simpa using hq
    clear hq
    go_enter Tryz.func127, Tryz.ntmps127
    go_wp2_with fail
    go_quiet ((go_at_call 103; exact Calls.quiet_of_same (flip_same (HK.out _) rfl)))
    go_wp2_with fail
    go_ret
    exact ⟨rfl, below_drewN (Below.refl _ _) _⟩
set_option maxRecDepth 100000 in
theorem mk2_any {L : Nat} (n : Int) (tv : Value) (w : World) (hL : L ≤ w.heap.size) :
    Calls Tryz.prog 126 #[.int .i64 n, tv] w fun e w' => ∃ v, e = .returned v ∧ Means L w' v (fun c => decide (c % 13 = n)) ∧ Below w.heap.size w w' := by
  have hmf : ∀ (fn : Fn) (first cap : Array Value) (w : World), (Instr.makeFunc fn first cap).run Tryz.prog w = .ok (.func fn first cap) w := fun _ _ _ _ => rfl
  go_enter Tryz.func126, Tryz.ntmps126
  go_wp2
  go_ret
  refine ⟨_, rfl, ⟨_, _, rfl, ent2, fun w' hb c h0 h1 => says2 n c _ w' ?_ h0 h1⟩, (Below.refl _ _).alloc (Nat.le_refl _) _⟩
  exact patCell ((hb.2 _ hL (by simp)).trans (patNew _ _))
theorem ent3 : Enters Tryz.prog 129 := enters_of Tryz.func129 (by kernel_rfl) rfl
set_option maxRecDepth 100000 in
theorem says3 (n c : Int) (b : Nat) (w : World) (hc : w.cell? ⟨b, 0, none⟩ = some (.int .i64 n)) (h0 : 0 ≤ c) (h1 : c ≤ 51) :
    Calls Tryz.prog 129 #[.int .u8 c, .pointer (some ⟨b, 0, none⟩)] w fun e w' => e = .returned (.bool (decide (n ≤ c % 13))) ∧ Below w.heap.size w w' := by
  obtain ⟨r, hr⟩ : ∃ r, r = c % 13 := ⟨_, rfl⟩
  have HK := Lib.hid (fun wx => kRank_r c wx h0 h1 r hr.symm)
  rw [← hr]
  clear hr
  cases hq : decide (n ≤ r) with
  | true =>
    have e : decide (n ≤ r) = true := by simpa using hq
    clear hq
    go_enter Tryz.func129, Tryz.ntmps129
    go_wp2_with fail
    go_quiet ((go_at_call 103; exact Calls.quiet_of_same (flip_same (HK.out _) rfl)))
    go_wp2_with fail
    go_ret
    exact ⟨rfl, below_drewN (Below.refl _ _) _⟩
  | false =>
    have e : decide (n ≤ r) = false := by simpa using hq
    clear hq
    go_enter Tryz.func129, Tryz.ntmps129
    go_wp2_with fail
    go_quiet ((go_at_call 103; exact Calls.quiet_of_same (flip_same (HK.out _) rfl)))
    go_wp2_with fail
    go_ret
    exact ⟨rfl, below_drewN (Below.refl _ _) _⟩
set_option maxRecDepth 100000 in
theorem mk3_any {L : Nat} (n : Int) (tv : Value) (w : World) (hL : L ≤ w.heap.size) :
    Calls Tryz.prog 128 #[.int .i64 n, tv] w fun e w' => ∃ v, e = .returned v ∧ Means L w' v (fun c => decide (n ≤ c % 13)) ∧ Below w.heap.size w w' := by
  have hmf : ∀ (fn : Fn) (first cap : Array Value) (w : World), (Instr.makeFunc fn first cap).run Tryz.prog w = .ok (.func fn first cap) w := fun _ _ _ _ => rfl
  go_enter Tryz.func128, Tryz.ntmps128
  go_wp2
  go_ret
  refine ⟨_, rfl, ⟨_, _, rfl, ent3, fun w' hb c h0 h1 => says3 n c _ w' ?_ h0 h1⟩, (Below.refl _ _).alloc (Nat.le_refl _) _⟩
  exact patCell ((hb.2 _ hL (by simp)).trans (patNew _ _))
theorem ent4 : Enters Tryz.prog 131 := enters_of Tryz.func131 (by kernel_rfl) rfl
set_option maxRecDepth 100000 in
theorem says4 (c : Int) (w : World) (h0 : 0 ≤ c) (h1 : c ≤ 51) :
    Calls Tryz.prog 131 #[.int .u8 c] w fun e w' => e = .returned (.bool (decide (c / 13 = 1) || decide (c / 13 = 2))) ∧ Below w.heap.size w w' := by
  obtain ⟨r, hr⟩ : ∃ r, r = c / 13 := ⟨_, rfl⟩
  have HK := Lib.hid (fun wx => kSuit_r c wx h0 h1 r hr.symm)
  rw [← hr]
  clear hr
  by_cases h : r = 1
  · subst h
    go_enter Tryz.func131, Tryz.ntmps131
    go_wp2_with fail
    refine (HK.out _).mono ?_
    rintro e _w ⟨rfl, rfl⟩
    go_wp2_with fail
    go_ret
    exact ⟨rfl, Below.refl _ _⟩
  · have e1 : (r == 1) = false := by simpa using h
    have e2 : decide (r = 1) = false := by simpa using h
    rw [e2]
    cases e3 : decide (r = 2) with
    | true =>
      have e4 : (r == 2) = true := by simpa using e3
      clear e3 e2 h
      go_enter Tryz.func131, Tryz.ntmps131
      go_wp2_with fail
      refine (HK.out _).mono ?_
      rintro e _w ⟨rfl, rfl⟩
      go_wp2_with fail
      refine (HK.out _).mono ?_
      rintro e _w ⟨rfl, rfl⟩
      go_wp2_with fail
      go_ret
      exact ⟨rfl, Below.refl _ _⟩
    | false =>
      have e4 : (r == 2) = false := by simpa using e3
      clear e3 e2 h
      go_enter Tryz.func131, Tryz.ntmps131
      go_wp2_with fail
      refine (HK.out _).mono ?_
      rintro e _w ⟨rfl, rfl⟩
      go_wp2_with fail
      refine (HK.out _).mono ?_
      rintro e _w ⟨rfl, rfl⟩
      go_wp2_with fail
      go_ret
      exact ⟨rfl, Below.refl _ _⟩
set_option maxRecDepth 100000 in
theorem mk4_any {L : Nat} (n : Int) (tv : Value) (w : World) (hL : L ≤ w.heap.size) :
    Calls Tryz.prog 130 #[.int .i64 n, tv] w fun e w' => ∃ v, e = .returned v ∧ Means L w' v (fun c => decide (c / 13 = 1) || decide (c / 13 = 2)) ∧ Below w.heap.size w w' := by
  go_enter Tryz.func130, Tryz.ntmps130
  go_wp2
  go_ret
  exact ⟨_, rfl, ⟨_, _, rfl, ent4, fun w' hb c h0 h1 => says4 c w' h0 h1⟩, Below.refl _ _⟩
theorem ent5 : Enters Tryz.prog 133 := enters_of Tryz.func133 (by kernel_rfl) rfl
set_option maxRecDepth 100000 in
theorem says5 {L : Nat} (f : Int → Bool) (v0 : Value) (c : Int) (b g off n cap : Nat) (w : World) (hc : w.cell? ⟨b, 0, none⟩ = some (.slice (some ⟨g, off, none⟩) n cap)) (hn : 1 ≤ n) (hn2 : n ≤ 1048576) (hg : w.cell? ⟨g, off, none⟩ = some v0) (hm : Means L w v0 f) (h0 : 0 ≤ c) (h1 : c ≤ 51) :
    Calls Tryz.prog 133 #[.int .u8 c, .pointer (some ⟨b, 0, none⟩)] w fun e w' => e = .returned (.bool (notF f c)) ∧ Below w.heap.size w w' := by
  obtain ⟨k, caps, rfl, hE, hM⟩ := hm
  have HM := Lib.hid (hM w (Keeps.refl _ _) c h0 h1)
  unfold notF
  generalize f c = r at *
  clear hM
  unfold Enters at hE
  go_enter Tryz.func133, Tryz.ntmps133
  go_wp2_with fail
  refine HM.out.mono ?_
  rintro e w1 ⟨rfl, B⟩
  go_wp2_with fail
  go_ret
  exact ⟨rfl, B⟩
theorem ent6 : Enters Tryz.prog 135 := enters_of Tryz.func135 (by kernel_rfl) rfl
set_option maxRecDepth 100000 in
theorem says6 {L : Nat} (f f' : Int → Bool) (v0 v1 : Value) (c : Int) (b g off n cap : Nat) (w : World) (hc : w.cell? ⟨b, 0, none⟩ = some (.slice (some ⟨g, off, none⟩) n cap)) (hn : 2 ≤ n) (hn2 : n ≤ 1048576) (hg : w.cell? ⟨g, off, none⟩ = some v0) (hg' : w.cell? ⟨g, off + 1, none⟩ = some v1) (hm : Means L w v0 f) (hm' : Means L w v1 f') (h0 : 0 ≤ c) (h1 : c ≤ 51) :
    Calls Tryz.prog 135 #[.int .u8 c, .pointer (some ⟨b, 0, none⟩)] w fun e w' => e = .returned (.bool (andF f f' c)) ∧ Below w.heap.size w w' := by
  have HC' := Lib.hid (fun wx (bx : Below w.heap.size w wx) => (⟨(bx.cell (World.block_lt_of_cell? _ _ hc)).trans hc, (bx.cell (World.block_lt_of_cell? _ _ hg')).trans hg'⟩ : wx.cell? ⟨b, 0, none⟩ = some (.slice (some ⟨g, off, none⟩) n cap) ∧ wx.cell? ⟨g, off + 1, none⟩ = some v1))
  obtain ⟨k, caps, rfl, hE, hM⟩ := hm
  obtain ⟨k', caps', rfl, hE', hM'⟩ := hm'
  have HM := Lib.hid (hM w (Keeps.refl _ _) c h0 h1)
  have HM' := Lib.hid (fun wx (bx : Below w.heap.size w wx) => hM' wx (Below.keeps bx) c h0 h1)
  unfold andF
  generalize f c = r at *
  generalize f' c = r' at *
  clear hM hM' hg'
  unfold Enters at hE hE'
  cases r with
  | false =>
    go_enter Tryz.func135, Tryz.ntmps135
    go_wp2_with fail
    refine HM.out.mono ?_
    rintro e w1 ⟨rfl, B⟩
    go_wp2_with fail
    go_ret
    exact ⟨rfl, B⟩
  | true =>
    go_enter Tryz.func135, Tryz.ntmps135
    go_wp2_with fail
    refine HM.out.mono ?_
    rintro e w1 ⟨rfl, B⟩
    obtain ⟨d1, d2⟩ := HC'.out w1 B
    go_wp2_with fail
    refine (HM'.out w1 B).mono ?_
    rintro e w2 ⟨rfl, B2⟩
    go_wp2_with fail
    go_ret
    exact ⟨rfl, B.trans (B2.mono B.size)⟩
theorem ent7 : Enters Tryz.prog 137 := enters_of Tryz.func137 (by kernel_rfl) rfl
set_option maxRecDepth 100000 in
theorem says7 {L : Nat} (f f' : Int → Bool) (v0 v1 : Value) (c : Int) (b g off n cap : Nat) (w : World) (hc : w.cell? ⟨b, 0, none⟩ = some (.slice (some ⟨g, off, none⟩) n cap)) (hn : 2 ≤ n) (hn2 : n ≤ 1048576) (hg : w.cell? ⟨g, off, none⟩ = some v0) (hg' : w.cell? ⟨g, off + 1, none⟩ = some v1) (hm : Means L w v0 f) (hm' : Means L w v1 f') (h0 : 0 ≤ c) (h1 : c ≤ 51) :
    Calls Tryz.prog 137 #[.int .u8 c, .pointer (some ⟨b, 0, none⟩)] w fun e w' => e = .returned (.bool (orF f f' c)) ∧ Below w.heap.size w w' := by
  have HC' := Lib.hid (fun wx (bx : Below w.heap.size w wx) => (⟨(bx.cell (World.block_lt_of_cell? _ _ hc)).trans hc, (bx.cell (World.block_lt_of_cell? _ _ hg')).trans hg'⟩ : wx.cell? ⟨b, 0, none⟩ = some (.slice (some ⟨g, off, none⟩) n cap) ∧ wx.cell? ⟨g, off + 1, none⟩ = some v1))
  obtain ⟨k, caps, rfl, hE, hM⟩ := hm
  obtain ⟨k', caps', rfl, hE', hM'⟩ := hm'
  have HM := Lib.hid (hM w (Keeps.refl _ _) c h0 h1)
  have HM' := Lib.hid (fun wx (bx : Below w.heap.size w wx) => hM' wx (Below.keeps bx) c h0 h1)
  unfold orF
  generalize f c = r at *
  generalize f' c = r' at *
  clear hM hM' hg'
  unfold Enters at hE hE'
  cases r with
  | true =>
    go_enter Tryz.func137, Tryz.ntmps137
    go_wp2_with fail
    refine HM.out.mono ?_
    rintro e w1 ⟨rfl, B⟩
    go_wp2_with fail
    go_ret
    exact ⟨rfl, B⟩
  | false =>
    go_enter Tryz.func137, Tryz.ntmps137
    go_wp2_with fail
    refine HM.out.mono ?_
    rintro e w1 ⟨rfl, B⟩
    obtain ⟨d1, d2⟩ := HC'.out w1 B
    go_wp2_with fail
    refine (HM'.out w1 B).mono ?_
    rintro e w2 ⟨rfl, B2⟩
    go_wp2_with fail
    go_ret
    exact ⟨rfl, B.trans (B2.mono B.size)⟩

/-- The value v is a pile of such functions. -/
def PileF (L : Nat) (w : World) (v : Value) (st : List (Int → Bool)) : Prop :=
  ∃ (a : Option Addr) (cap : Nat), v = .slice a st.length cap ∧ st.length ≤ cap ∧ cap ≤ maxLen ∧ (st = [] ∨ ∃ b off, a = some ⟨b, off, none⟩ ∧ L ≤ b ∧ ∀ j, j < st.length → ∃ x, w.cell? ⟨b, off + j, none⟩ = some x ∧ Means L w x (getF st j))
theorem PileF.keep {L : Nat} {w w1 : World} {v : Value} {st : List (Int → Bool)} (h : PileF L w v st) (b : Keeps L w w1) : PileF L w1 v st := by
  obtain ⟨a, cap, rfl, h1, h2, h3⟩ := h
  refine ⟨a, cap, rfl, h1, h2, h3.imp id ?_⟩
  rintro ⟨g, off, e, hg, hc⟩
  refine ⟨g, off, e, hg, fun j hj => ?_⟩
  obtain ⟨x, hx, hm⟩ := hc j hj
  exact ⟨x, (World.cell?_of_block (w := w) (b.2 g hg (World.block_lt_of_cell? _ _ hx))).trans hx, hm.keep b⟩
theorem PileF.below {L : Nat} {w w1 : World} {v : Value} {st : List (Int → Bool)} (h : PileF L w v st) (b : Below w.heap.size w w1) : PileF L w1 v st := h.keep (Below.keeps b)
set_option maxRecDepth 100000 in
theorem mk5_any {L : Nat} (n : Int) (tv : Value) (st : List (Int → Bool)) (w : World) (hL : L ≤ w.heap.size) (h : PileF L w tv st) (hs : 1 ≤ st.length) (hs2 : st.length ≤ 1048576) :
    Calls Tryz.prog 132 #[.int .i64 n, tv] w fun e w' => ∃ v, e = .returned v ∧ Means L w' v (notF (getF st 0)) ∧ Below w.heap.size w w' := by
  have hmf : ∀ (fn : Fn) (first cap : Array Value) (w : World), (Instr.makeFunc fn first cap).run Tryz.prog w = .ok (.func fn first cap) w := fun _ _ _ _ => rfl
  have h00 := h
  obtain ⟨a, cap, rfl, -, -, h3⟩ := h
  rcases h3 with h3 | ⟨b, off, rfl, -⟩
  · subst h3; simp at hs
  go_enter Tryz.func132, Tryz.ntmps132
  go_wp2
  go_ret
  refine ⟨_, rfl, ⟨_, _, rfl, ent5, fun w' hb c h0 h1 => ?_⟩, (Below.refl _ _).alloc (Nat.le_refl _) _⟩
  have hp := (h00.below ((Below.refl w.heap.size w).alloc (Nat.le_refl _) _)).keep hb
  obtain ⟨a', cap', e, -, -, h3⟩ := hp
  rcases h3 with h3 | ⟨b', off', rfl, hLb, hcs⟩
  · subst h3; simp at hs
  simp only [Value.slice.injEq, Option.some.injEq, Addr.mk.injEq, and_true, true_and] at e
  obtain ⟨⟨rfl, rfl⟩, rfl⟩ := e
  obtain ⟨x0, hx0, hm0⟩ := hcs 0 (by omega)
  exact says5 _ _ c _ b off _ cap w' (patCell ((hb.2 _ hL (by simp)).trans (patNew _ _))) hs hs2 hx0 hm0 h0 h1
set_option maxRecDepth 100000 in
theorem mk6_any {L : Nat} (n : Int) (tv : Value) (st : List (Int → Bool)) (w : World) (hL : L ≤ w.heap.size) (h : PileF L w tv st) (hs : 2 ≤ st.length) (hs2 : st.length ≤ 1048576) :
    Calls Tryz.prog 134 #[.int .i64 n, tv] w fun e w' => ∃ v, e = .returned v ∧ Means L w' v (andF (getF st 0) (getF st 1)) ∧ Below w.heap.size w w' := by
  have hmf : ∀ (fn : Fn) (first cap : Array Value) (w : World), (Instr.makeFunc fn first cap).run Tryz.prog w = .ok (.func fn first cap) w := fun _ _ _ _ => rfl
  have h00 := h
  obtain ⟨a, cap, rfl, -, -, h3⟩ := h
  rcases h3 with h3 | ⟨b, off, rfl, -⟩
  · subst h3; simp at hs
  go_enter Tryz.func134, Tryz.ntmps134
  go_wp2
  go_ret
  refine ⟨_, rfl, ⟨_, _, rfl, ent6, fun w' hb c h0 h1 => ?_⟩, (Below.refl _ _).alloc (Nat.le_refl _) _⟩
  have hp := (h00.below ((Below.refl w.heap.size w).alloc (Nat.le_refl _) _)).keep hb
  obtain ⟨a', cap', e, -, -, h3⟩ := hp
  rcases h3 with h3 | ⟨b', off', rfl, hLb, hcs⟩
  · subst h3; simp at hs
  simp only [Value.slice.injEq, Option.some.injEq, Addr.mk.injEq, and_true, true_and] at e
  obtain ⟨⟨rfl, rfl⟩, rfl⟩ := e
  obtain ⟨x0, hx0, hm0⟩ := hcs 0 (by omega)
  obtain ⟨x1, hx1, hm1⟩ := hcs 1 (by omega)
  exact says6 _ _ _ _ c _ b off _ cap w' (patCell ((hb.2 _ hL (by simp)).trans (patNew _ _))) hs hs2 hx0 hx1 hm0 hm1 h0 h1
set_option maxRecDepth 100000 in
theorem mk7_any {L : Nat} (n : Int) (tv : Value) (st : List (Int → Bool)) (w : World) (hL : L ≤ w.heap.size) (h : PileF L w tv st) (hs : 2 ≤ st.length) (hs2 : st.length ≤ 1048576) :
    Calls Tryz.prog 136 #[.int .i64 n, tv] w fun e w' => ∃ v, e = .returned v ∧ Means L w' v (orF (getF st 0) (getF st 1)) ∧ Below w.heap.size w w' := by
  have hmf : ∀ (fn : Fn) (first cap : Array Value) (w : World), (Instr.makeFunc fn first cap).run Tryz.prog w = .ok (.func fn first cap) w := fun _ _ _ _ => rfl
  have h00 := h
  obtain ⟨a, cap, rfl, -, -, h3⟩ := h
  rcases h3 with h3 | ⟨b, off, rfl, -⟩
  · subst h3; simp at hs
  go_enter Tryz.func136, Tryz.ntmps136
  go_wp2
  go_ret
  refine ⟨_, rfl, ⟨_, _, rfl, ent7, fun w' hb c h0 h1 => ?_⟩, (Below.refl _ _).alloc (Nat.le_refl _) _⟩
  have hp := (h00.below ((Below.refl w.heap.size w).alloc (Nat.le_refl _) _)).keep hb
  obtain ⟨a', cap', e, -, -, h3⟩ := hp
  rcases h3 with h3 | ⟨b', off', rfl, hLb, hcs⟩
  · subst h3; simp at hs
  simp only [Value.slice.injEq, Option.some.injEq, Addr.mk.injEq, and_true, true_and] at e
  obtain ⟨⟨rfl, rfl⟩, rfl⟩ := e
  obtain ⟨x0, hx0, hm0⟩ := hcs 0 (by omega)
  obtain ⟨x1, hx1, hm1⟩ := hcs 1 (by omega)
  exact says7 _ _ _ _ c _ b off _ cap w' (patCell ((hb.2 _ hL (by simp)).trans (patNew _ _))) hs hs2 hx0 hx1 hm0 hm1 h0 h1
end Go.Proofs.YtijdhpkeojkphaaGreatDoor
