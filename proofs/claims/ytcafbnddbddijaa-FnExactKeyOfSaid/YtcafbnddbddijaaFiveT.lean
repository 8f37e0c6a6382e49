/-
  The hands of five, the model's side: flush, KindOf, KeyOf.
-/
import Derived.Test.YtcafbnddbddijaaFiveS
import Derived.BigQuiet
import Derived.IntWalk
import Derived.LoopN
namespace Go.Proofs.Ytcafbnddbddijaa
open Go.RowKit
set_option linter.unusedVariables false
set_option linter.unusedSimpArgs false

theorem oneSuit_no {zs : List Int} {k : Nat} (h : k < zs.length) (hne : suitOf zs[k] ≠ suitOf (zs.getD 0 0)) : oneSuit zs = false := by
  unfold oneSuit
  exact decide_eq_false fun hc => hne (hc k h)
theorem oneSuit_yes {zs : List Int} (h : ∀ j (hj : j < zs.length), suitOf zs[j] = suitOf (zs.getD 0 0)) : oneSuit zs = true := by
  unfold oneSuit
  exact decide_eq_true h

theorem below_drewn (w : World) (q : Nat) : Below w.heap.size w (w.drewN q) := ⟨rfl, rfl, rfl, Nat.le_refl _, fun _ _ => rfl⟩
set_option maxRecDepth 100000 in
set_option maxHeartbeats 1000000 in
theorem sFlush14_q (v : Value) (zs : List Int) (b : Nat) (w : World) (h : RdAt .i64 w v zs b) (hl : zs.length = 5) :
    Calls Try.prog 39 #[v] w fun e w' => e = .returned (.bool (oneSuit zs)) ∧ ∃ q, w' = w.drewN q := by
  obtain ⟨a, cap, rfl, -, -, hcell⟩ := h
  obtain ⟨off, rfl, hc⟩ : ∃ off, a = some ⟨b, off, none⟩ ∧ ∀ j, j < 5 → w.cell? ⟨b, off + j, none⟩ = some (.int .i64 (zs.getD j 0)) := by
    rcases hcell with h0 | ⟨off, rfl, hc⟩
    · rw [h0] at hl; simp at hl
    · exact ⟨off, rfl, fun j hj => by rw [hc j (by rw [hl]; exact hj)]; simp [hl, hj]⟩
  have hgd : ∀ j (hj : j < zs.length), zs.getD j 0 = zs[j] := fun j hj => by simp [hj]
  have Hg := Lib.hid hgd
  have Hc := Lib.hid hc
  have Hl := Lib.hid hl
  rw [hl]
  clear hcell hl hc hgd
  obtain ⟨r, hr⟩ : ∃ r, r = oneSuit zs := ⟨_, rfl⟩
  have Hr := Lib.hid hr
  rw [← hr]
  clear hr
  obtain ⟨x0, hx0⟩ : ∃ x0, Hid (x0 = zs.getD 0 0) := ⟨_, Lib.hid rfl⟩
  obtain ⟨s0, Hs0⟩ : ∃ s0, Hid (suitOf x0 = s0) := ⟨_, Lib.hid rfl⟩
  go_enter Try.func39, Try.ntmps39
  go_wp2_with fail
  go_loopw [3] (fun i wr => ∃ k : Nat, 1 ≤ k ∧ k ≤ 5 ∧ i = .int .i64 k ∧ Hid (∃ q, wr = w.drewN q) ∧ Hid (∀ j, j < k → suitOf (zs.getD j 0) = s0)) (fun i _ => 5 - (intOf i).toNat)
  case atStart =>
    refine ⟨1, Nat.le_refl _, by omega, rfl, Lib.hid ⟨0, rfl⟩, Lib.hid ?_⟩
    intro j hj
    obtain rfl : j = 0 := by omega
    rw [← hx0.out]; exact Hs0.out
  case round =>
    obtain ⟨k, hk1, hk, rfl, hw, hall⟩ := hrel
    have hcw : ∀ a, wr.cell? a = w.cell? a := fun a => by obtain ⟨q, e⟩ := hw.out; rw [e]; rfl
    by_cases hlt : k < 5
    · obtain ⟨y, hy⟩ : ∃ y, Hid (y = zs.getD k 0) := ⟨_, Lib.hid rfl⟩
      have h1 : wr.cell? ⟨b, off + k, none⟩ = some (.int .i64 (zs.getD k 0)) := by rw [hcw]; exact Hc.out k hlt
      have h0 : wr.cell? ⟨b, off, none⟩ = some (.int .i64 (zs.getD 0 0)) := by rw [hcw]; exact Hc.out 0 (by omega)
      clear hcw
      rw [← hy.out] at h1
      rw [← hx0.out] at h0
      obtain ⟨s, Hs⟩ : ∃ s, Hid (suitOf y = s) := ⟨_, Lib.hid rfl⟩
      by_cases hse : s = s0
      · have hq : (s == s0) = true := by simpa using hse
        have hq2 : (s != s0) = false := by simpa using hse
        have hall2 : Hid (∀ j, j < k + 1 → suitOf (zs.getD j 0) = s0) := Lib.hid (fun j hj => by
          by_cases e : j = k
          · subst e; rw [← hy.out, Hs.out]; exact hse
          · exact hall.out j (by omega))
        clear hse
        go_wp2_with fail
        go_quiet ((first | (go_at_call 61; exact Calls.quiet_of_same (flip_same (sSuitOf_r _ _ _ Hs.out) rfl)) | (go_at_call 61; exact Calls.quiet_of_same (flip_same (sSuitOf_r _ _ _ Hs0.out) rfl))))
        go_wp2_with fail
        go_roundw
        case rel => exact ⟨k + 1, by omega, by omega, by go_num, Lib.hid (by obtain ⟨q, e⟩ := hw.out; exact ⟨_, by rw [e, World.drewN_drewN]⟩), hall2⟩
        case measure => simp [intOf]; omega
      · have hq : (s == s0) = false := by simpa using hse
        have hq2 : (s != s0) = true := by simpa using hse
        have hr1 : Hid (r = false) := Lib.hid (by
          rw [Hr.out]
          have hk5 : k < zs.length := by rw [Hl.out]; exact hlt
          exact oneSuit_no hk5 (by rw [← Hg.out k hk5, ← hy.out, ← hx0.out, Hs.out, Hs0.out]; exact hse))
        clear hse
        go_wp2_with fail
        go_quiet ((first | (go_at_call 61; exact Calls.quiet_of_same (flip_same (sSuitOf_r _ _ _ Hs.out) rfl)) | (go_at_call 61; exact Calls.quiet_of_same (flip_same (sSuitOf_r _ _ _ Hs0.out) rfl))))
        go_wp2_with fail
        go_ret
        obtain ⟨q, e⟩ := hw.out
        exact ⟨by rw [hr1.out]; rfl, _, by rw [e, World.drewN_drewN]⟩
    · obtain rfl : k = 5 := by omega
      have hr1 : Hid (r = true) := Lib.hid (by
        rw [Hr.out]
        exact oneSuit_yes fun j hj => by
          rw [← Hg.out j hj, hall.out j (by rw [← Hl.out]; exact hj), ← hx0.out]; exact Hs0.out.symm)
      go_wp2_with fail
      go_ret
      obtain ⟨q, e⟩ := hw.out
      exact ⟨by rw [hr1.out]; rfl, _, e⟩
end Go.Proofs.Ytcafbnddbddijaa
