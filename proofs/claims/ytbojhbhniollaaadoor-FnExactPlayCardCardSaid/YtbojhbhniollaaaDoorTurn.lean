/-
  TurnOf by contract, both sides.
-/
import Derived.Test.YtbojhbhniollaaaDoorSDeal
import Derived.Test.YtbojhbhniollaaaDoorTotal
import Derived.Test.YtbojhbhniollaaaDoorIn
import Derived.Test.YtbojhbhniollaaaDoorArith
namespace Go.Proofs.YtbojhbhniollaaaDoor
open Go.RowKit

/-- Who is to play. -/
def turnOf (D : MDeal) : Int := if sumLen D.hands = 0 ∨ ¬ (0 ≤ D.leader ∧ D.leader ≤ (D.hands.length : Int) - 1) then -1 else (D.leader + D.trick.length) % D.hands.length

set_option linter.unusedVariables false in
set_option maxRecDepth 100000 in
theorem turnOf_any (a0 a1 : Addr) (v : Value) (D : MDeal) (w : World) (h : RdDeal w v D) (hf : D.Few) (hS : Sent a0 a1 w) :
    Calls Tryd.prog 54 #[v] w fun e w' => e = .returned (.int .i64 (turnOf D)) ∧ Below w.heap.size w w' := by
  obtain ⟨v0, v3, v4, v5, b3, b4, b5, rfl, h0, h3, h4, h5, wf1, wf2, wf6⟩ := h
  obtain ⟨f0, fs0, f3, f4, f5⟩ := hf
  obtain ⟨p0, c0, e0, -⟩ := id h0
  obtain ⟨p3, c3, e3, -⟩ := id h3
  subst e0 e3
  have B0 := fun o => (Below.refl w.heap.size w).alloc (Nat.le_refl _) o
  have HT := Lib.hid (fun wx (hx : Below w.heap.size w wx) => totalCards_any _ _ wx (h0.below hx) f0 fs0)
  have HS := Lib.hid (fun wx (hx : Below w.heap.size w wx) => hS.below hx (Nat.le_refl _))
  have bl := bounds_i64 wf1
  unfold turnOf
  obtain ⟨S, hS⟩ : ∃ S, S = sumLen D.hands := ⟨_, rfl⟩
  obtain ⟨n, hn⟩ : ∃ n, n = D.hands.length := ⟨_, rfl⟩
  obtain ⟨m, hm⟩ : ∃ m, m = D.trick.length := ⟨_, rfl⟩
  obtain ⟨l, hl⟩ : ∃ l, l = D.leader := ⟨_, rfl⟩
  rw [← hS] at HT fs0 ⊢
  rw [← hn] at f0 HT ⊢
  rw [← hm] at f3 ⊢
  rw [← hl] at bl ⊢
  clear hS hn hm hl h0 h3 h4 h5 wf1
  by_cases hs : S = 0
  · rw [if_pos (.inl hs)]
    subst hs
    go_enter Tryd.func54, Tryd.ntmps54
    go_wp2_with fail
    refine (HT.out _ (B0 _)).mono ?_
    rintro e _w ⟨rfl, rfl⟩
    go_wp2_with fail
    go_ret
    exact ⟨rfl, B0 _⟩
  · have hsz : (S : Int) ≠ 0 := by omega
    have HI := Lib.hid (fun wx => inR_any l 0 ((n : Int) - 1) wx _ rfl)
    by_cases hr : 0 ≤ l ∧ l ≤ (n : Int) - 1
    · rw [if_neg (by intro h; rcases h with h | h; exact hs h; exact h hr)]
      rw [decide_eq_true hr] at HI
      obtain ⟨hr0, hr1⟩ := hr
      have HM := Lib.hid (fun wx hw => mod_any a0 a1 (l + m) n wx (WalkArith.wf_i64 (by omega)) (HS.out wx hw))
      have hmd : modI (l + m) n = (l + m) % n := if_pos ⟨by omega, by omega⟩
      rw [hmd] at HM
      go_enter Tryd.func54, Tryd.ntmps54
      go_wp2_with fail
      refine (HT.out _ (B0 _)).mono ?_
      rintro e _w ⟨rfl, rfl⟩
      go_wp2_with fail
      refine (HI.out _).mono ?_
      rintro e _w ⟨rfl, rfl⟩
      go_wp2_with fail
      refine (HM.out _ (B0 _)).mono ?_
      rintro e _w ⟨rfl, rfl⟩
      go_wp2_with fail
      go_ret
      exact ⟨rfl, B0 _⟩
    · rw [if_pos (.inr hr)]
      rw [decide_eq_false hr] at HI
      clear hr
      go_enter Tryd.func54, Tryd.ntmps54
      go_wp2_with fail
      refine (HT.out _ (B0 _)).mono ?_
      rintro e _w ⟨rfl, rfl⟩
      go_wp2_with fail
      refine (HI.out _).mono ?_
      rintro e _w ⟨rfl, rfl⟩
      go_wp2_with fail
      go_ret
      exact ⟨rfl, B0 _⟩

set_option linter.unusedVariables false in
set_option maxRecDepth 100000 in
theorem sTurnOf_any (v : Value) (D : MDeal) (w : World) (h : RdDeal w v D) (hf : D.Few) :
    Calls Tryd.prog 49 #[v] w fun e w' => e = .returned (.int .i64 (turnOf D)) ∧ Below w.heap.size w w' := by
  obtain ⟨v0, v3, v4, v5, b3, b4, b5, rfl, h0, h3, h4, h5, wf1, wf2, wf6⟩ := h
  obtain ⟨f0, fs0, f3, f4, f5⟩ := hf
  obtain ⟨p0, c0, e0, -⟩ := id h0
  obtain ⟨p3, c3, e3, -⟩ := id h3
  subst e0 e3
  have B0 := fun o => (Below.refl w.heap.size w).alloc (Nat.le_refl _) o
  have HT := Lib.hid (fun wx (hx : Below w.heap.size w wx) => sTotalCards_any _ _ wx (h0.below hx) f0 fs0)
  have bl := bounds_i64 wf1
  unfold turnOf
  have hle : D.hands.length = 0 → sumLen D.hands = 0 := fun h => by rw [List.length_eq_zero_iff.1 h]; rfl
  obtain ⟨S, hS⟩ : ∃ S, S = sumLen D.hands := ⟨_, rfl⟩
  obtain ⟨n, hn⟩ : ∃ n, n = D.hands.length := ⟨_, rfl⟩
  obtain ⟨m, hm⟩ : ∃ m, m = D.trick.length := ⟨_, rfl⟩
  obtain ⟨l, hl⟩ : ∃ l, l = D.leader := ⟨_, rfl⟩
  rw [← hS] at HT fs0 hle ⊢
  rw [← hn] at f0 HT hle ⊢
  rw [← hm] at f3 ⊢
  rw [← hl] at bl ⊢
  clear hS hn hm hl h0 h3 h4 h5 wf1
  by_cases hs : S = 0
  · rw [if_pos (.inl hs)]
    subst hs
    clear hle
    by_cases hn : n = 0
    · subst hn
      go_enter Tryd.func49, Tryd.ntmps49
      go_wp2_with fail
      go_ret
      exact ⟨rfl, B0 _⟩
    · have hnz : (n : Int) ≠ 0 := by omega
      go_enter Tryd.func49, Tryd.ntmps49
      go_wp2_with fail
      refine (HT.out _ (B0 _)).mono ?_
      rintro e _w ⟨rfl, rfl⟩
      go_wp2_with fail
      go_ret
      exact ⟨rfl, B0 _⟩
  · have hsz : (S : Int) ≠ 0 := by omega
    have hnz : (n : Int) ≠ 0 := fun h => hs (hle (by omega))
    clear hle
    have q1 : ((n : Int) == 0) = false := by simpa using hnz
    have q2 : ((S : Int) == 0) = false := by simpa using hsz
    have HI := Lib.hid (fun wx => inM_any l 0 ((n : Int) - 1) wx _ rfl)
    by_cases hr : 0 ≤ l ∧ l ≤ (n : Int) - 1
    · rw [if_neg (by intro h; rcases h with h | h; exact hs h; exact h hr)]
      rw [decide_eq_true hr] at HI
      obtain ⟨hr0, hr1⟩ := hr
      have hb0 := Int.emod_nonneg (l + m) hnz
      have hb1 := Int.emod_lt_of_pos (l + m) (show (0 : Int) < n by omega)
      go_enter Tryd.func49, Tryd.ntmps49
      go_wp2_with fail
      refine (HT.out _ (B0 _)).mono ?_
      rintro e _w ⟨rfl, rfl⟩
      go_wp2_with fail
      refine (HI.out _).mono ?_
      rintro e _w ⟨rfl, rfl⟩
      go_wp2_with fail
      go_ret
      exact ⟨rfl, B0 _⟩
    · rw [if_pos (.inr hr)]
      rw [decide_eq_false hr] at HI
      clear hr
      go_enter Tryd.func49, Tryd.ntmps49
      go_wp2_with fail
      refine (HT.out _ (B0 _)).mono ?_
      rintro e _w ⟨rfl, rfl⟩
      go_wp2_with fail
      refine (HI.out _).mono ?_
      rintro e _w ⟨rfl, rfl⟩
      go_wp2_with fail
      go_ret
      exact ⟨rfl, B0 _⟩
end Go.Proofs.YtbojhbhniollaaaDoor
