/-
  The hands of five, the program's small ones: packKey, kind, isOfOneSuit, topOfStraight.
-/
import Derived.Test.YtcafbnddbddijaaFiveT
import Derived.BigQuiet
import Derived.IntWalk
namespace Go.Proofs.Ytcafbnddbddijaa
open Go.RowKit
set_option linter.unusedVariables false
set_option linter.unusedSimpArgs false

theorem beq_nat (a c : Nat) : Nat.beq a c = ((a : Int) == (c : Int)) := by
  by_cases h : a = c
  · subst h; simp
  · have h1 : ((a : Int) == (c : Int)) = false := by simp; omega
    rw [h1]
    cases e : Nat.beq a c with
    | false => rfl
    | true => exact absurd (Nat.eq_of_beq_eq_true e) h
def packN (k : Nat) (R : List Nat) : Nat → Nat
  | 0 => k
  | p + 1 => packN k R p * 16 + (if p < R.length then R.getD p 0 + 1 else 0)
theorem pack_eq (k : Nat) (R : List Nat) : fivePack k R = packN k R 5 := rfl
theorem packN_lt {k : Nat} {R : List Nat} (hk : k ≤ 8) (hR : ∀ x ∈ R, x < 13) : ∀ p, packN k R p < 9 * 16 ^ p
  | 0 => by simp [packN]; omega
  | p + 1 => by
    have ih := packN_lt hk hR p
    have hd : (if p < R.length then R.getD p 0 + 1 else 0) < 16 := by
      split
      · rename_i h
        have : R.getD p 0 = R[p] := by simp [h]
        rw [this]
        have := hR _ (List.getElem_mem h)
        omega
      · omega
    rw [packN, Nat.pow_succ]
    omega
theorem packN_bd {k : Nat} {R : List Nat} (hk : k ≤ 8) (hR : ∀ x ∈ R, x < 13) {p : Nat} (hp : p ≤ 5) : packN k R p < 9 * 1048576 := by
  have h1 := packN_lt hk hR p
  have h2 : (16 : Nat) ^ p ≤ 16 ^ 5 := Nat.pow_le_pow_right (by omega) hp
  have h3 : (16 : Nat) ^ 5 = 1048576 := rfl
  omega

theorem ofInt32_nat {a : Nat} (ha : a < 4294967296) : (BitVec.ofInt 32 (a : Int)).toNat = a := by
  rw [BitVec.toNat_ofInt]
  have h2 : ((2 ^ 32 : Nat) : Int) = 4294967296 := by decide
  rw [h2]; omega
theorem or16 {q y : Nat} (hq : q < 9437184) (hy : y < 13) : bits .or .u32 ((q : Int) * 16) ((y : Int) + 1) = ((q * 16 + (y + 1) : Nat) : Int) := by
  have e1 : ((q : Int) * 16) = ((q * 16 : Nat) : Int) := by omega
  have e2 : ((y : Int) + 1) = ((y + 1 : Nat) : Int) := by omega
  rw [e1, e2]
  show IntKind.u32.wrap ((BitVec.ofInt 32 ((q * 16 : Nat) : Int) ||| BitVec.ofInt 32 ((y + 1 : Nat) : Int)).toNat : Nat) = _
  rw [BitVec.toNat_or, ofInt32_nat (by omega), ofInt32_nat (by omega)]
  have h := Nat.shiftLeft_add_eq_or_of_lt (i := 4) (b := y + 1) (by omega) q
  rw [Nat.shiftLeft_eq, show (2 : Nat) ^ 4 = 16 from rfl] at h
  rw [← h]
  unfold IntKind.wrap; simp [IntKind.bits, IntKind.signed]; omega

set_option maxRecDepth 100000 in
set_option maxHeartbeats 1000000 in
theorem packKey_any (v : Value) (R : List Nat) (b k : Nat) (w : World) (h : RdAt .i64 w v (ofN R) b) (hl : R.length ≤ 5) (hk : k ≤ 8) (hR : ∀ x ∈ R, x < 13) :
    Calls Try.prog 63 #[.int .i64 k, v] w fun e w' => e = .returned (.int .u32 (fivePack k R : Nat)) ∧ w = w' := by
  obtain ⟨a, cap, rfl, -, -, hcell⟩ := h
  rw [ofN_len]
  obtain ⟨n, hn⟩ : ∃ n, n = R.length := ⟨_, rfl⟩
  have Hn := Lib.hid hn
  have Hb := Lib.hid (fun p (hp : p ≤ 5) => packN_bd hk hR hp)
  have Hc : Hid (∀ j, j < n → ∃ off, a = some ⟨b, off, none⟩ ∧ w.cell? ⟨b, off + j, none⟩ = some (.int .i64 (R.getD j 0 : Nat)) ∧ R.getD j 0 < 13) := Lib.hid (fun j hj => by
    rw [hn] at hj
    rcases hcell with h0 | ⟨off, rfl, hc⟩
    · have := ofN_len R; rw [h0] at this; simp at this; omega
    · refine ⟨off, rfl, by rw [hc j (by rw [ofN_len]; exact hj), ofN_at], ?_⟩
      have : R.getD j 0 = R[j] := by simp [hj]
      rw [this]; exact hR _ (List.getElem_mem hj))
  rw [← hn] at hl ⊢
  clear hn hcell hR
  obtain ⟨r, hr⟩ : ∃ r, r = fivePack k R := ⟨_, rfl⟩
  have Hr := Lib.hid hr
  rw [← hr]
  clear hr
  have hw1 : IntKind.u32.wrap (k : Int) = (k : Int) := by unfold IntKind.wrap; simp [IntKind.bits, IntKind.signed]; omega
  go_enter Try.func63, Try.ntmps63
  go_wp2_with fail
  go_loop [5, 6, 9] (fun key _ i => ∃ p q : Nat, p ≤ 5 ∧ i = .int .i64 p ∧ key = .int .u32 q ∧ Hid (q = packN k R p)) (fun _ _ i => 5 - (intOf i).toNat)
  case atStart => exact ⟨0, k, Nat.zero_le _, rfl, rfl, Lib.hid rfl⟩
  case round =>
    obtain ⟨p, q, hp, rfl, rfl, hq⟩ := hrel
    by_cases hlt : p < 5
    · have hb := Hb.out p hp
      rw [← hq.out] at hb
      by_cases hpn : p < n
      · obtain ⟨off, rfl, hc, hy⟩ := Hc.out p hpn
        obtain ⟨y, hye⟩ : ∃ y, Hid (y = R.getD p 0) := ⟨_, Lib.hid rfl⟩
        rw [← hye.out] at hc hy
        go_wp2_with fail
        go_round
        case rel => exact ⟨p + 1, q * 16 + (y + 1), by omega, by go_num, by rw [or16 hb hy], Lib.hid (by rw [packN, hq.out, if_pos (by rw [← Hn.out]; exact hpn), hye.out])⟩
        case measure => simp [intOf]; omega
      · go_wp2_with fail
        go_round
        case rel => exact ⟨p + 1, q * 16, by omega, by go_num, by go_num, Lib.hid (by rw [packN, hq.out, if_neg (by rw [← Hn.out]; exact hpn)]; rfl)⟩
        case measure => simp [intOf]; omega
    · obtain rfl : p = 5 := by omega
      go_wp2_with fail
      go_ret
      exact ⟨by rw [Hr.out, pack_eq, ← hq.out]; rfl, rfl⟩

theorem kind5_any (K : Nat) (w : World) (h : K < 4294967296) :
    Calls Try.prog 42 #[.int .u32 (K : Nat)] w fun e w' => e = .returned (.int .i64 (K / 1048576 : Nat)) ∧ w = w' := by
  go_enter Try.func42, Try.ntmps42
  go_wp2_with fail
  go_ret
  exact ⟨by go_num, rfl⟩

set_option maxRecDepth 100000 in
set_option maxHeartbeats 1000000 in
theorem oneSuit_q (v : Value) (zs : List Int) (b : Nat) (w : World) (h : RdAt .i64 w v zs b) (hl : zs.length = 5) :
    Calls Try.prog 65 #[v] w fun e w' => e = .returned (.bool (oneSuit zs)) ∧ ∃ q, w' = w.drewN q := by
  obtain ⟨a, cap, rfl, -, -, hcell⟩ := h
  obtain ⟨off, rfl, hc⟩ : ∃ off, a = some ⟨b, off, none⟩ ∧ ∀ j, j < 5 → w.cell? ⟨b, off + j, none⟩ = some (.int .i64 (zs.getD j 0)) := by
    rcases hcell with h0 | ⟨off, rfl, hc⟩
    · rw [h0] at hl; simp at hl
    · exact ⟨off, rfl, fun j hj => by rw [hc j (by rw [hl]; exact hj)]; simp [hl, hj]⟩
  have hgd : ∀ j (hj : j < zs.length), zs.getD j 0 = zs[j] := fun j hj => by simp [hj]
  have Hg := Lib.hid hgd
  have Hc := Lib.hid hc
  have Hl := Lib.hid hl
  rw [hl]
  clear hcell hl hc hgd
  obtain ⟨r, hr⟩ : ∃ r, r = oneSuit zs := ⟨_, rfl⟩
  have Hr := Lib.hid hr
  rw [← hr]
  clear hr
  obtain ⟨x0, hx0⟩ : ∃ x0, Hid (x0 = zs.getD 0 0) := ⟨_, Lib.hid rfl⟩
  obtain ⟨s0, Hs0⟩ : ∃ s0, Hid (suitOf x0 = s0) := ⟨_, Lib.hid rfl⟩
  go_enter Try.func65, Try.ntmps65
  go_wp2_with fail
  go_loopw [4, 7] (fun _ i wr => ∃ k : Nat, k ≤ 5 ∧ i = .int .i64 k ∧ Hid (∃ q, wr = w.drewN q) ∧ Hid (∀ j, j < k → suitOf (zs.getD j 0) = s0)) (fun _ i _ => 5 - (intOf i).toNat)
  case atStart => exact ⟨0, Nat.zero_le _, rfl, Lib.hid ⟨0, rfl⟩, Lib.hid fun j hj => absurd hj (Nat.not_lt_zero j)⟩
  case round =>
    obtain ⟨k, hk, rfl, hw, hall⟩ := hrel
    have hcw : ∀ a, wr.cell? a = w.cell? a := fun a => by obtain ⟨q, e⟩ := hw.out; rw [e]; rfl
    by_cases hlt : k < 5
    · obtain ⟨y, hy⟩ : ∃ y, Hid (y = zs.getD k 0) := ⟨_, Lib.hid rfl⟩
      have h1 : wr.cell? ⟨b, off + k, none⟩ = some (.int .i64 (zs.getD k 0)) := by rw [hcw]; exact Hc.out k hlt
      have h0 : wr.cell? ⟨b, off, none⟩ = some (.int .i64 (zs.getD 0 0)) := by rw [hcw]; exact Hc.out 0 (by omega)
      clear hcw
      rw [← hy.out] at h1
      rw [← hx0.out] at h0
      obtain ⟨s, Hs⟩ : ∃ s, Hid (suitOf y = s) := ⟨_, Lib.hid rfl⟩
      by_cases hse : s = s0
      · have hq : (s == s0) = true := by simpa using hse
        have hq2 : (s != s0) = false := by simpa using hse
        have hall2 : Hid (∀ j, j < k + 1 → suitOf (zs.getD j 0) = s0) := Lib.hid (fun j hj => by
          by_cases e : j = k
          · subst e; rw [← hy.out, Hs.out]; exact hse
          · exact hall.out j (by omega))
        clear hse
        go_wp2_with fail
        go_quiet ((first | (go_at_call 77; exact Calls.quiet_of_same (flip_same (suitOf_r _ _ _ Hs.out) rfl)) | (go_at_call 77; exact Calls.quiet_of_same (flip_same (suitOf_r _ _ _ Hs0.out) rfl))))
        go_wp2_with fail
        go_roundw
        case rel => exact ⟨k + 1, by omega, by go_num, Lib.hid (by obtain ⟨q, e⟩ := hw.out; exact ⟨_, by rw [e, World.drewN_drewN]⟩), hall2⟩
        case measure => simp [intOf]; omega
      · have hq : (s == s0) = false := by simpa using hse
        have hq2 : (s != s0) = true := by simpa using hse
        have hr1 : Hid (r = false) := Lib.hid (by
          rw [Hr.out]
          have hk5 : k < zs.length := by rw [Hl.out]; exact hlt
          exact oneSuit_no hk5 (by rw [← Hg.out k hk5, ← hy.out, ← hx0.out, Hs.out, Hs0.out]; exact hse))
        clear hse
        go_wp2_with fail
        go_quiet ((first | (go_at_call 77; exact Calls.quiet_of_same (flip_same (suitOf_r _ _ _ Hs.out) rfl)) | (go_at_call 77; exact Calls.quiet_of_same (flip_same (suitOf_r _ _ _ Hs0.out) rfl))))
        go_wp2_with fail
        go_ret
        obtain ⟨q, e⟩ := hw.out
        exact ⟨by rw [hr1.out]; rfl, _, by rw [e, World.drewN_drewN]⟩
    · obtain rfl : k = 5 := by omega
      have hr1 : Hid (r = true) := Lib.hid (by
        rw [Hr.out]
        exact oneSuit_yes fun j hj => by
          rw [← Hg.out j hj, hall.out j (by rw [← Hl.out]; exact hj), ← hx0.out]; exact Hs0.out.symm)
      go_wp2_with fail
      go_ret
      obtain ⟨q, e⟩ := hw.out
      exact ⟨by rw [hr1.out]; rfl, _, e⟩

set_option maxRecDepth 100000 in
set_option maxHeartbeats 1000000 in
theorem topOf_q (v : Value) (R : List Nat) (b : Nat) (w : World) (h : RdAt .i64 w v (ofN R) b) (hl : R.length = 5) (hR : ∀ x ∈ R, x < 13) :
    Calls Try.prog 76 #[v] w fun e w' => e = .returned (.tuple #[.int .i64 ((fiveTop R).1 : Nat), .bool (fiveTop R).2]) ∧ ∃ q, w' = w.drewN q := by
  obtain ⟨a, cap, rfl, -, -, hcell⟩ := h
  have hln : (ofN R).length = 5 := by rw [ofN_len, hl]
  obtain ⟨off, rfl, hc⟩ : ∃ off, a = some ⟨b, off, none⟩ ∧ ∀ j, j < 5 → w.cell? ⟨b, off + j, none⟩ = some (.int .i64 (R.getD j 0 : Nat)) := by
    rcases hcell with h0 | ⟨off, rfl, hc⟩
    · rw [h0] at hln; simp at hln
    · exact ⟨off, rfl, fun j hj => by rw [hc j (by rw [hln]; exact hj), ofN_at]⟩
  have hb : ∀ j, j < 5 → R.getD j 0 < 13 := fun j hj => by
    have hj2 : j < R.length := by rw [hl]; exact hj
    have : R.getD j 0 = R[j] := by simp [hj2]
    rw [this]; exact hR _ (List.getElem_mem hj2)
  have c0 : w.cell? ⟨b, off, none⟩ = some (.int .i64 (R.getD 0 0 : Nat)) := hc 0 (by omega)
  have c1 := hc 1 (by omega)
  have c4 := hc 4 (by omega)
  have b0 := hb 0 (by omega)
  have b1 := hb 1 (by omega)
  have b4 := hb 4 (by omega)
  have e : fiveTop R = if Nat.beq (R.getD 0 0) (R.getD 4 0 + 4) then (R.getD 0 0, true) else (R.getD 1 0, Nat.beq (R.getD 0 0) 12 && Nat.beq (R.getD 1 0) 3) := rfl
  rw [hln]
  generalize fiveTop R = T at e ⊢
  generalize R.getD 0 0 = x at *
  generalize R.getD 1 0 = y at *
  generalize R.getD 4 0 = z at *
  clear hcell hl hc hR hb hln
  by_cases hs : x = z + 4
  · have e1 : T = (x, true) := by rw [e, hs, Nat.beq_refl]; rfl
    subst e1
    have hq : (((x : Int) - (z : Int)) == 4) = true := by simp; omega
    have hq' : ((x : Int) - (z : Int)) = 4 := by omega
    clear e hs
    go_enter Try.func76, Try.ntmps76
    go_wp2_with fail
    go_quiet (fail)
    go_wp2_with fail
    go_ret2
    exact ⟨rfl, _, rfl⟩
  · have hq : (((x : Int) - (z : Int)) == 4) = false := by simp; omega
    have hnb : Nat.beq x (z + 4) = false := by
      cases h : Nat.beq x (z + 4) with
      | false => rfl
      | true => exact absurd (Nat.eq_of_beq_eq_true h) hs
    obtain ⟨p, hp⟩ : ∃ p, ((x : Int) == 12) = p := ⟨_, rfl⟩
    obtain ⟨p2, hp2⟩ : ∃ p, ((y : Int) == 3) = p := ⟨_, rfl⟩
    have e1 : Hid (T = (y, p && p2)) := Lib.hid (by
      have i1 : Nat.beq x 12 = ((x : Int) == 12) := beq_nat x 12
      have i2 : Nat.beq y 3 = ((y : Int) == 3) := beq_nat y 3
      rw [e, hnb, i1, i2, hp, hp2]; rfl)
    clear e hs hnb
    cases p <;> cases p2
    all_goals
      go_enter Try.func76, Try.ntmps76
      go_wp2_with fail
      go_quiet (fail)
      go_wp2_with fail
      go_ret2
      exact ⟨by rw [e1.out]; rfl, _, rfl⟩
end Go.Proofs.Ytcafbnddbddijaa
