/-
  The hands of five, the model's side: KindOf.
-/
import Derived.Test.YtcafbnddbddijaaFiveT
import Derived.BigQuiet
namespace Go.Proofs.Ytcafbnddbddijaa
open Go.RowKit
set_option linter.unusedVariables false
set_option linter.unusedSimpArgs false

def kindB (st fl e4 e3 e22 e21 : Bool) : Nat :=
  if st && fl then 8 else if e4 then 7 else if e3 && e21 then 6 else if fl then 5 else if st then 4 else if e3 then 3 else if e22 then 2 else if e21 then 1 else 0
theorem kindM_eq (n : List Nat) (b : Bool) : fiveKindM n b = kindB (fiveStraight n).isSome b (Nat.beq (fiveHas n 4) 1) (Nat.beq (fiveHas n 3) 1) (Nat.beq (fiveHas n 2) 2) (Nat.beq (fiveHas n 2) 1) := rfl
theorem beq_int (a c : Nat) : Nat.beq a c = ((a : Int) == (c : Int)) := by
  by_cases h : a = c
  · subst h; simp
  · have h1 : ((a : Int) == (c : Int)) = false := by simp; omega
    rw [h1]
    cases e : Nat.beq a c with
    | false => rfl
    | true => exact absurd (Nat.eq_of_beq_eq_true e) h
theorem some_int (n : List Nat) : (fiveStraight n).isSome = decide (0 ≤ straightI n) := by
  unfold straightI
  cases fiveStraight n with
  | none => rfl
  | some t => simp
def kindI (zs : List Int) : Int := if isHand zs && decide (zs.length = 5) then ((fiveKindM (cntV zs) (oneSuit zs) : Nat) : Int) else -1
theorem kindI_yes {zs : List Int} (h : isHand zs = true) (h5 : zs.length = 5) : kindI zs = (fiveKindM (cntV zs) (oneSuit zs) : Nat) := by
  unfold kindI; rw [h, decide_eq_true h5]; rfl
theorem kindI_no {zs : List Int} (h : isHand zs = false ∨ zs.length ≠ 5) : kindI zs = -1 := by
  unfold kindI
  rcases h with h | h
  · rw [h]; rfl
  · rw [decide_eq_false h, Bool.and_false]; rfl

set_option maxRecDepth 100000 in
set_option maxHeartbeats 2000000 in
theorem sKindOf_any (v : Value) (zs : List Int) (b : Nat) (w : World) (h : RdAt .i64 w v zs b) (hl : zs.length ≤ 1048576) :
    Calls Try.prog 19 #[v] w fun e w' => e = .returned (.int .i64 (kindI zs)) ∧ Below w.heap.size w w' := by
  have HI := Lib.hid (sIsHand_any v zs b w h (by omega))
  have HR := Lib.hid h
  obtain ⟨a, cap, rfl, -⟩ := id h
  obtain ⟨n, hn⟩ : ∃ n, n = zs.length := ⟨_, rfl⟩
  have Hn := Lib.hid hn
  rw [← hn] at HI HR hl ⊢
  clear hn h
  obtain ⟨r, hr⟩ : ∃ r, r = kindI zs := ⟨_, rfl⟩
  have Hr := Lib.hid hr
  rw [← hr]
  clear hr
  cases hH : isHand zs with
  | false =>
    have hr1 : Hid (r = -1) := Lib.hid (by rw [Hr.out]; exact kindI_no (.inl hH))
    rw [hH] at HI
    go_enter Try.func19, Try.ntmps19
    go_wp2_with fail
    refine HI.out.mono ?_
    rintro e w1 ⟨rfl, B1⟩
    go_wp2_with fail
    go_ret
    exact ⟨by rw [hr1.out]; rfl, B1⟩
  | true =>
    rw [hH] at HI
    by_cases h5 : n = 5
    · subst h5
      have hcd := hand_card hH
      go_enter Try.func19, Try.ntmps19
      go_wp2_with fail
      refine HI.out.mono ?_
      rintro e w1 ⟨rfl, B1⟩
      go_wp2_with fail
      have HC := sCount14_any _ zs b w1 (HR.out.below B1) (by rw [← Hn.out]; omega) hcd
      refine HC.mono ?_
      rintro e w2 ⟨v2, b2, rfl, hb2, hw2, B2⟩
      clear HC
      obtain ⟨ns, hns⟩ : ∃ ns, Hid (ns = cntV zs) := ⟨_, Lib.hid rfl⟩
      have hlen : ns.length = 13 := by rw [hns.out, cntV_len]
      rw [← hns.out] at hw2
      have keep : ∀ W : World, W.heap = w2.heap → RdAt .i64 W v2 (ofN ns) b2 := fun W e => hw2.rd.keep fun _ => by rw [e]
      have keep2 : ∀ W : World, W.heap = w2.heap → RdAt .i64 W (.slice a 5 cap) zs b := fun W e => ((HR.out.below B1).below B2).keep fun _ => by rw [e]
      have HS := Lib.hid (fun (W : World) (e : W.heap = w2.heap) => sStraight14_any v2 ns b2 W (keep W e) hlen)
      have H4 : Hid (∀ W : World, W.heap = w2.heap → Calls Try.prog 40 #[v2, .int .i64 4] W fun e w' => e = .returned (.int .i64 (fiveHas ns 4 : Nat)) ∧ W = w') := Lib.hid fun W e => sHas14_any v2 ns b2 4 W (keep W e) hlen
      have H3 : Hid (∀ W : World, W.heap = w2.heap → Calls Try.prog 40 #[v2, .int .i64 3] W fun e w' => e = .returned (.int .i64 (fiveHas ns 3 : Nat)) ∧ W = w') := Lib.hid fun W e => sHas14_any v2 ns b2 3 W (keep W e) hlen
      have H2 : Hid (∀ W : World, W.heap = w2.heap → Calls Try.prog 40 #[v2, .int .i64 2] W fun e w' => e = .returned (.int .i64 (fiveHas ns 2 : Nat)) ∧ W = w') := Lib.hid fun W e => sHas14_any v2 ns b2 2 W (keep W e) hlen
      have HF : Hid (∀ W : World, W.heap = w2.heap → Calls Try.prog 39 #[.slice a 5 cap] W fun e w' => e = .returned (.bool (oneSuit zs)) ∧ ∃ q, w' = W.drewN q) := Lib.hid fun W e => sFlush14_q _ zs b W (keep2 W e) Hn.out.symm
      have HB : Hid (∀ W : World, (∃ q, W = w2.drewN q) → Below w.heap.size w W) := Lib.hid fun W e => by
        obtain ⟨q, rfl⟩ := e
        have B12 := B1.trans (B2.mono B1.size)
        exact B12.trans ((below_drewn w2 q).mono B12.size)
      have hres : Hid (r = ((kindB (decide (0 ≤ straightI ns)) (oneSuit zs) ((fiveHas ns 4 : Int) == 1) ((fiveHas ns 3 : Int) == 1) ((fiveHas ns 2 : Int) == 2) ((fiveHas ns 2 : Int) == 1) : Nat) : Int)) := Lib.hid (by
        rw [Hr.out, kindI_yes hH Hn.out.symm, kindM_eq, ← hns.out, some_int, beq_int, beq_int, beq_int, beq_int]; rfl)
      clear keep keep2 hw2 hb2 B2 B1 hcd hlen
      generalize straightI ns = t at *
      generalize oneSuit zs = fl at *
      generalize fiveHas ns 4 = a4 at *
      generalize fiveHas ns 3 = a3 at *
      generalize fiveHas ns 2 = a2 at *
      obtain ⟨st, hst⟩ : ∃ st, decide (0 ≤ t) = st := ⟨_, rfl⟩
      obtain ⟨e4, h4⟩ : ∃ st, ((a4 : Int) == 1) = st := ⟨_, rfl⟩
      obtain ⟨e3, h3⟩ : ∃ st, ((a3 : Int) == 1) = st := ⟨_, rfl⟩
      obtain ⟨e22, h22⟩ : ∃ st, ((a2 : Int) == 2) = st := ⟨_, rfl⟩
      obtain ⟨e21, h21⟩ : ∃ st, ((a2 : Int) == 1) = st := ⟨_, rfl⟩
      rw [hst, h4, h3, h22, h21] at hres
      have ht : st = true → 0 ≤ t := fun h => by rw [h] at hst; simpa using hst
      have ht' : st = false → ¬ 0 ≤ t := fun h => by rw [h] at hst; simpa using hst
      have hfin : Hid (∀ (K : Int) (W : World), (K = ((kindB st fl e4 e3 e22 e21 : Nat) : Int)) → (∃ q, W = w2.drewN q) → Ending.returned (.int .i64 K) = .returned (.int .i64 r) ∧ Below w.heap.size w W) := Lib.hid fun K W h1 h2 => ⟨by rw [hres.out, h1], HB.out W h2⟩
      clear hres HB
      have hc : (e4 = true) ∨ (e4 = false ∧ e3 = true ∧ e21 = true) ∨ (e4 = false ∧ e3 = true ∧ e21 = false) ∨ (e4 = false ∧ e3 = false ∧ e22 = true) ∨ (e4 = false ∧ e3 = false ∧ e22 = false ∧ e21 = true) ∨ (e4 = false ∧ e3 = false ∧ e22 = false ∧ e21 = false) := by
        cases e4 <;> cases e3 <;> cases e22 <;> cases e21 <;> simp
      have hs : (st = true ∧ fl = true) ∨ (st = true ∧ fl = false) ∨ (st = false ∧ fl = true) ∨ (st = false ∧ fl = false) := by cases st <;> cases fl <;> simp
      rcases hs with ⟨rfl, rfl⟩ | ⟨rfl, rfl⟩ | ⟨rfl, rfl⟩ | ⟨rfl, rfl⟩
      · have ht2 := ht rfl
        clear ht ht' hc
        go_wp2_with (first
          | (go_at_call 38; refine Calls.mono (HS.out _ ?hW) ?_; (case hW => rfl); rintro e _w ⟨rfl, rfl⟩)
          | (go_at_call 39; refine Calls.mono (HF.out _ ?hW) ?_; (case hW => rfl); rintro e _w ⟨rfl, q, rfl⟩)
          | (go_at_call 40; (with_reducible refine Calls.mono (H4.out _ ?hW) ?_); (case hW => rfl); rintro e _w ⟨rfl, rfl⟩)
          | (go_at_call 40; (with_reducible refine Calls.mono (H3.out _ ?hW) ?_); (case hW => rfl); rintro e _w ⟨rfl, rfl⟩)
          | (go_at_call 40; (with_reducible refine Calls.mono (H2.out _ ?hW) ?_); (case hW => rfl); rintro e _w ⟨rfl, rfl⟩))
        go_ret
        first | exact hfin.out _ _ rfl ⟨0, rfl⟩ | exact hfin.out _ _ rfl ⟨_, rfl⟩ | exact hfin.out _ _ rfl ⟨_, World.drewN_drewN _ _ _⟩
      · have ht2 := ht rfl
        clear ht ht'
        rcases hc with rfl | ⟨rfl, rfl, rfl⟩ | ⟨rfl, rfl, rfl⟩ | ⟨rfl, rfl, rfl⟩ | ⟨rfl, rfl, rfl, rfl⟩ | ⟨rfl, rfl, rfl, rfl⟩
        all_goals
          go_wp2_with (first
            | (go_at_call 38; refine Calls.mono (HS.out _ ?hW) ?_; (case hW => rfl); rintro e _w ⟨rfl, rfl⟩)
            | (go_at_call 39; refine Calls.mono (HF.out _ ?hW) ?_; (case hW => rfl); rintro e _w ⟨rfl, q, rfl⟩)
            | (go_at_call 40; (with_reducible refine Calls.mono (H4.out _ ?hW) ?_); (case hW => rfl); rintro e _w ⟨rfl, rfl⟩)
            | (go_at_call 40; (with_reducible refine Calls.mono (H3.out _ ?hW) ?_); (case hW => rfl); rintro e _w ⟨rfl, rfl⟩)
            | (go_at_call 40; (with_reducible refine Calls.mono (H2.out _ ?hW) ?_); (case hW => rfl); rintro e _w ⟨rfl, rfl⟩))
          go_ret
          first | exact hfin.out _ _ rfl ⟨0, rfl⟩ | exact hfin.out _ _ rfl ⟨_, rfl⟩ | exact hfin.out _ _ rfl ⟨_, World.drewN_drewN _ _ _⟩
      all_goals
        have ht2 := ht' rfl
        clear ht ht'
        rcases hc with rfl | ⟨rfl, rfl, rfl⟩ | ⟨rfl, rfl, rfl⟩ | ⟨rfl, rfl, rfl⟩ | ⟨rfl, rfl, rfl, rfl⟩ | ⟨rfl, rfl, rfl, rfl⟩
        all_goals
          go_wp2_with (first
            | (go_at_call 38; refine Calls.mono (HS.out _ ?hW) ?_; (case hW => rfl); rintro e _w ⟨rfl, rfl⟩)
            | (go_at_call 39; refine Calls.mono (HF.out _ ?hW) ?_; (case hW => rfl); rintro e _w ⟨rfl, q, rfl⟩)
            | (go_at_call 40; (with_reducible refine Calls.mono (H4.out _ ?hW) ?_); (case hW => rfl); rintro e _w ⟨rfl, rfl⟩)
            | (go_at_call 40; (with_reducible refine Calls.mono (H3.out _ ?hW) ?_); (case hW => rfl); rintro e _w ⟨rfl, rfl⟩)
            | (go_at_call 40; (with_reducible refine Calls.mono (H2.out _ ?hW) ?_); (case hW => rfl); rintro e _w ⟨rfl, rfl⟩))
          go_ret
          first | exact hfin.out _ _ rfl ⟨0, rfl⟩ | exact hfin.out _ _ rfl ⟨_, rfl⟩ | exact hfin.out _ _ rfl ⟨_, World.drewN_drewN _ _ _⟩
    · have hr1 : Hid (r = -1) := Lib.hid (by rw [Hr.out]; exact kindI_no (.inr (by rw [← Hn.out]; exact h5)))
      have hq : ((n : Int) == 5) = false := by simp; omega
      have hq2 : ((n : Int) != 5) = true := by simp; omega
      clear h5
      go_enter Try.func19, Try.ntmps19
      go_wp2_with fail
      refine HI.out.mono ?_
      rintro e w1 ⟨rfl, B1⟩
      go_wp2_with fail
      go_ret
      exact ⟨by rw [hr1.out]; rfl, B1⟩
end Go.Proofs.Ytcafbnddbddijaa
