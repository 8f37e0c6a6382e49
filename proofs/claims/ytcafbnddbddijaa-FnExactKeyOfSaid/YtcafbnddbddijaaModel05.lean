/-
  Contracts of the model's functions of chapters 4 and 5: cards and hands.
-/
import Derived.Test.YtcafbnddbddijaaMarksI
import Derived.Test.YtcafbnddbddijaaCard
namespace Go.Proofs.Ytcafbnddbddijaa
open Go.RowKit
set_option linter.unusedVariables false
set_option linter.unusedSimpArgs false

def hasI (zs : List Int) (c : Int) : Bool := decide (c ∈ zs)
/-- All are cards, and none is there twice: told from the front, as the model looks. -/
def isHand (zs : List Int) : Bool := decide (∀ j (h : j < zs.length), isCard zs[j] = true ∧ zs[j] ∉ zs.take j)


set_option maxRecDepth 100000 in
theorem sHasCard_any (v : Value) (zs : List Int) (b : Nat) (c : Int) (w : World) (h : RdAt .i64 w v zs b) (hl : zs.length ≤ 1099511627776) :
    Calls Try.prog 53 #[v, .int .i64 c] w fun e w' => e = .returned (.bool (hasI zs c)) ∧ w = w' := by
  obtain ⟨a, cap, rfl, -, -, hcell⟩ := h
  obtain ⟨n, hn⟩ : ∃ n, n = zs.length := ⟨_, rfl⟩
  have Hn := Lib.hid hn
  rw [← hn] at hl ⊢
  clear hn
  obtain ⟨r, hr⟩ : ∃ r, r = hasI zs c := ⟨_, rfl⟩
  have Hr := Lib.hid hr
  rw [← hr]
  clear hr
  go_enter Try.func53, Try.ntmps53
  go_wp2_with fail
  go_loop [5] (fun i => ∃ k : Nat, k ≤ n ∧ i = .int .i64 k ∧ Hid (∀ j (hj : j < zs.length), j < k → zs[j] ≠ c)) (fun i => n - (intOf i).toNat)
  case atStart => exact ⟨0, Nat.zero_le _, rfl, Lib.hid (fun j _ h => by omega)⟩
  case round =>
    obtain ⟨k, hk, rfl, hno⟩ := hrel
    by_cases hlt : k < n
    · have hz : k < zs.length := by rw [← Hn.out]; exact hlt
      rcases hcell with h0 | ⟨off, rfl, hc⟩
      · subst h0; simp at hz
      obtain ⟨y, hy⟩ : ∃ y, Hid (y = zs[k]) := ⟨_, Lib.hid rfl⟩
      have h1 : w.cell? ⟨b, off + k, none⟩ = some (.int .i64 y) := by rw [hc k hz, hy.out]
      clear hc
      by_cases hyc : y = c
      · subst hyc
        have hr1 : Hid (r = true) := Lib.hid (by rw [Hr.out]; unfold hasI; rw [hy.out]; simp)
        go_wp2_with fail
        go_ret
        exact ⟨by rw [hr1.out]; rfl, rfl⟩
      · have hq : (y == c) = false := by simpa using hyc
        have hno2 : Hid (∀ j (hj : j < zs.length), j < k + 1 → zs[j] ≠ c) := Lib.hid (fun j hj h => by
          by_cases e : j = k
          · subst e; rw [← hy.out]; exact hyc
          · exact hno.out j hj (by omega))
        clear hyc
        go_wp2_with fail
        go_round
        case rel => exact ⟨k + 1, by omega, by go_num, hno2⟩
        case measure => simp [intOf]; omega
    · obtain rfl : k = n := by omega
      have hr1 : Hid (r = false) := Lib.hid (by
        rw [Hr.out]; unfold hasI
        simp only [decide_eq_false_iff_not]
        intro hm
        obtain ⟨j, hj, e⟩ := List.getElem_of_mem hm
        exact hno.out j hj (by rw [Hn.out]; exact hj) e)
      go_wp2_with fail
      go_ret
      exact ⟨by rw [hr1.out]; rfl, rfl⟩

theorem isHand_no {zs : List Int} {k : Nat} (hk : k < zs.length) (h : isCard zs[k] = false ∨ hasI (zs.take k) zs[k] = true) : isHand zs = false := by
  unfold isHand
  simp only [decide_eq_false_iff_not]
  intro ha
  obtain ⟨h1, h2⟩ := ha k hk
  rcases h with h | h
  · rw [h] at h1; cases h1
  · unfold hasI at h; simp only [decide_eq_true_eq] at h; exact h2 h
theorem isHand_yes {zs : List Int} (h : ∀ j (hj : j < zs.length), isCard zs[j] = true ∧ hasI (zs.take j) zs[j] = false) : isHand zs = true := by
  unfold isHand
  simp only [decide_eq_true_eq]
  intro j hj
  refine ⟨(h j hj).1, ?_⟩
  have := (h j hj).2
  unfold hasI at this
  simpa using this

set_option maxRecDepth 100000 in
set_option maxHeartbeats 1000000 in
theorem sIsHand_any (v : Value) (zs : List Int) (b : Nat) (w : World) (h : RdAt .i64 w v zs b) (hl : zs.length ≤ 1099511627776) :
    Calls Try.prog 29 #[v] w fun e w' => e = .returned (.bool (isHand zs)) ∧ Below w.heap.size w w' := by
  obtain ⟨a, cap, rfl, hcap, hwf, hcell⟩ := h
  obtain ⟨n, hn⟩ : ∃ n, n = zs.length := ⟨_, rfl⟩
  have Hn := Lib.hid hn
  have Hcap := Lib.hid (show zs.length ≤ cap ∧ cap ≤ maxLen from ⟨hcap.1, hcap.2.1⟩)
  have hcap1 : n ≤ cap := by omega
  have hcap2 : cap ≤ 9223372036854775807 := by have := hcap.2.1; unfold maxLen at this; omega
  rw [← hn] at hl ⊢
  clear hn hcap
  obtain ⟨r, hr⟩ : ∃ r, r = isHand zs := ⟨_, rfl⟩
  have Hr := Lib.hid hr
  rw [← hr]
  clear hr
  go_enter Try.func29, Try.ntmps29
  go_wp2_with fail
  go_loopw [3] (fun i wr => ∃ k : Nat, k ≤ n ∧ i = .int .i64 k ∧ (∃ q, wr = w.drewN q) ∧ Hid (∀ j (hj : j < zs.length), j < k → isCard zs[j] = true ∧ hasI (zs.take j) zs[j] = false)) (fun i _ => n - (intOf i).toNat)
  case atStart => exact ⟨0, Nat.zero_le _, rfl, ⟨0, rfl⟩, Lib.hid (fun j _ h => by omega)⟩
  case round =>
    obtain ⟨k, hk, rfl, hq, hok⟩ := hrel
    have Hq := Lib.hid hq
    clear hq
    by_cases hlt : k < n
    · have hz : k < zs.length := by rw [← Hn.out]; exact hlt
      rcases hcell with h0 | ⟨off, rfl, hc⟩
      · subst h0; simp at hz
      have hrd : ∀ m, RdAt .i64 (wr.drewN m) (.slice (some ⟨b, off, none⟩) k cap) (zs.take k) b := fun m => by
        obtain ⟨q, e⟩ := Hq.out
        subst e
        exact RdAt.take (w := (w.drewN q).drewN m) Hcap.out hwf (fun j hj => hc j hj) k (by omega)
      have Hrd := Lib.hid hrd
      obtain ⟨y, hy⟩ : ∃ y, Hid (y = zs[k]) := ⟨_, Lib.hid rfl⟩
      have h1 : wr.cell? ⟨b, off + k, none⟩ = some (.int .i64 y) := by
        obtain ⟨q, e⟩ := Hq.out
        subst e
        show w.cell? _ = _
        rw [hc k hz, hy.out]
      have hlk : (zs.take k).length ≤ 1099511627776 := by rw [List.length_take]; omega
      clear hc hrd
      cases e1 : isCard y with
      | false =>
        have hr1 : Hid (r = false) := Lib.hid (by rw [Hr.out]; exact isHand_no hz (.inl (by rw [← hy.out]; exact e1)))
        go_wp2_with fail
        go_quiet ((go_at_call 52; exact Calls.quiet_of_same (flip_same (sIsCard_any _ _) (congrArg Value.bool e1))))
        go_wp2_with fail
        go_ret
        exact ⟨by rw [hr1.out]; rfl, by obtain ⟨q, e⟩ := Hq.out; subst e; exact below_drewN (below_drewN (Below.refl _ _) _) _⟩
      | true =>
        cases e2 : hasI (zs.take k) y with
        | true =>
          have hr1 : Hid (r = false) := Lib.hid (by rw [Hr.out]; exact isHand_no hz (.inr (by rw [← hy.out]; exact e2)))
          go_wp2_with fail
          go_quiet (first | (go_at_call 52; exact Calls.quiet_of_same (flip_same (sIsCard_any _ _) (congrArg Value.bool e1))) | (go_at_call 53; exact Calls.quiet_of_same (flip_same (sHasCard_any _ _ _ _ _ (Hrd.out _) hlk) (congrArg Value.bool e2))))
          go_wp2_with fail
          go_ret
          exact ⟨by rw [hr1.out]; rfl, by obtain ⟨q, e⟩ := Hq.out; subst e; exact below_drewN (below_drewN (Below.refl _ _) _) _⟩
        | false =>
          have hok2 : Hid (∀ j (hj : j < zs.length), j < k + 1 → isCard zs[j] = true ∧ hasI (zs.take j) zs[j] = false) := Lib.hid (fun j hj h => by
            by_cases e : j = k
            · subst e; rw [← hy.out]; exact ⟨e1, e2⟩
            · exact hok.out j hj (by omega))
          go_wp2_with fail
          go_quiet (first | (go_at_call 52; exact Calls.quiet_of_same (flip_same (sIsCard_any _ _) (congrArg Value.bool e1))) | (go_at_call 53; exact Calls.quiet_of_same (flip_same (sHasCard_any _ _ _ _ _ (Hrd.out _) hlk) (congrArg Value.bool e2))))
          go_wp2_with fail
          go_roundw
          case rel => exact ⟨k + 1, by omega, by go_num, by obtain ⟨q, e⟩ := Hq.out; subst e; exact ⟨_, World.drewN_drewN _ _ _⟩, hok2⟩
          case measure => simp [intOf]; omega
    · obtain rfl : k = n := by omega
      have hr1 : Hid (r = true) := Lib.hid (by rw [Hr.out]; exact isHand_yes (fun j hj => hok.out j hj (by rw [Hn.out]; exact hj)))
      go_wp2_with fail
      go_ret
      exact ⟨by rw [hr1.out]; rfl, by obtain ⟨q, e⟩ := Hq.out; subst e; exact below_drewN (Below.refl _ _) _⟩

end Go.Proofs.Ytcafbnddbddijaa
