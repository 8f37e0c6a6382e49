/-
  Foundations: IsBase, MayBuild, Built, IsSafe, both sides.
-/
import Derived.Test.YtljpeiffpkfnlaaDoorStep
import Derived.Test.YtljpeiffpkfnlaaDoorBase0
import Derived.Test.YtljpeiffpkfnlaaDoorRed
import Derived.BigQuiet
import Derived.IntWalk
import Derived.LoopN
namespace Go.Proofs.YtljpeiffpkfnlaaDoor
open Go.RowKit
set_option linter.unusedVariables false

theorem step_bd (c : Int) : 0 ≤ stepOf c ∧ stepOf c ≤ 13 := by
  unfold stepOf; split <;> omega

def mayBuild (zs : List Int) (c : Int) : Bool := isBase zs && (isCard c && decide (stepOf c = zs.getD (c / 13).toNat 0 + 1))
theorem mb_0 {zs : List Int} {c : Int} (h : isBase zs = false) : mayBuild zs c = false := by unfold mayBuild; rw [h]; rfl
theorem mb_1 {zs : List Int} {c : Int} (h : isCard c = false) : mayBuild zs c = false := by unfold mayBuild; rw [h]; simp
theorem mb_2 {zs : List Int} {c : Int} (h : isBase zs = true) (h2 : isCard c = true) : mayBuild zs c = decide (stepOf c = zs.getD (c / 13).toNat 0 + 1) := by unfold mayBuild; rw [h, h2]; rfl
theorem mb_t {zs : List Int} {c : Int} (h : mayBuild zs c = true) : isBase zs = true ∧ isCard c = true ∧ stepOf c = zs.getD (c / 13).toNat 0 + 1 := by
  unfold mayBuild at h; simpa using h
set_option maxRecDepth 100000 in
set_option maxHeartbeats 1000000 in
theorem sMayBuild_any (v : Value) (zs : List Int) (b : Nat) (c : Int) (w : World) (h : RdAt .i64 w v zs b) (hl : zs.length ≤ 1099511627776) (r : Bool) (hr : mayBuild zs c = r) :
    Calls Tryd.prog 12 #[v, .int .i64 c] w fun e w' => e = .returned (.bool r) ∧ w = w' := by
  have h0 := h
  obtain ⟨a, cap, rfl, -, -, hcell⟩ := h
  cases hb : isBase zs with
  | false =>
    have HB := Lib.hid (sIsBase_r _ zs b w h0 hl false hb)
    obtain rfl : r = false := by rw [← hr]; exact mb_0 hb
    clear hr hb hcell h0
    go_enter Tryd.func12, Tryd.ntmps12
    go_wp2_with fail
    refine HB.out.mono ?_
    rintro e _w ⟨rfl, rfl⟩
    go_wp2_with fail
    go_ret
    exact ⟨rfl, rfl⟩
  | true =>
    have HB := Lib.hid (sIsBase_r _ zs b w h0 hl true hb)
    cases hc : isCard c with
    | false =>
      have HC := Lib.hid hc
      obtain rfl : r = false := by rw [← hr]; exact mb_1 hc
      clear hr hb hc hcell h0
      go_enter Tryd.func12, Tryd.ntmps12
      go_wp2_with fail
      refine HB.out.mono ?_
      rintro e _w ⟨rfl, rfl⟩
      go_wp2_with fail
      refine (sIsCard_r _ _ _ HC.out).mono ?_
      rintro e _w ⟨rfl, rfl⟩
      go_wp2_with fail
      go_ret
      exact ⟨rfl, rfl⟩
    | true =>
      have HC := Lib.hid hc
      have hcc := isCard_t hc
      have hln := base_len hb
      obtain ⟨s, hs⟩ : ∃ s : Nat, (s : Int) = c / 13 := ⟨(c / 13).toNat, by omega⟩
      have hs3 : s ≤ 3 := by omega
      have HS := Lib.hid (show suitOf c = (s : Int) by rw [suit_in hc, hs])
      obtain ⟨t, ht⟩ : ∃ t, stepOf c = t := ⟨_, rfl⟩
      have HT := Lib.hid ht
      obtain ⟨y, hy⟩ : ∃ y, y = zs.getD s 0 := ⟨_, rfl⟩
      have hyb := base_getD hb s (by omega)
      rw [← hy] at hyb
      obtain ⟨hy0, hy1⟩ := hyb
      have hr2 : r = decide (t = y + 1) := by rw [← hr, mb_2 hb hc, ht, hy, ← hs]; rfl
      have tb := step_bd c
      rw [ht] at tb
      obtain ⟨tb0, tb1⟩ := tb
      rcases hcell with hz | ⟨off, rfl, hcl⟩
      · subst hz; simp at hln
      have h1 : w.cell? ⟨b, off + s, none⟩ = some (.int .i64 y) := by rw [hy]; exact base_cell hcl (by omega)
      have HSC := Lib.hid (fun wx => sStepOf_any c wx)
      rw [ht] at HSC
      rw [hln] at h0 HB ⊢
      have HB2 := HB
      clear HB
      by_cases e : t = y + 1
      · have hq : (t == y + 1) = true := by simpa using e
        obtain rfl : r = true := by rw [hr2]; simpa using e
        clear hr hr2 hb hc hcl h0 hs hy ht e hcc hln
        go_enter Tryd.func12, Tryd.ntmps12
        go_wp2_with fail
        refine HB2.out.mono ?_
        rintro e _w ⟨rfl, rfl⟩
        go_wp2_with fail
        refine (sIsCard_r _ _ _ HC.out).mono ?_
        rintro e _w ⟨rfl, rfl⟩
        go_wp2_with fail
        refine (HSC.out _).mono ?_
        rintro e _w ⟨rfl, rfl⟩
        go_wp2_with fail
        refine (sSuitOf_r _ _ _ HS.out).mono ?_
        rintro e _w ⟨rfl, rfl⟩
        go_wp2_with fail
        go_ret
        exact ⟨rfl, rfl⟩
      · have hq : (t == y + 1) = false := by simpa using e
        obtain rfl : r = false := by rw [hr2]; simpa using e
        clear hr hr2 hb hc hcl h0 hs hy ht e hcc hln
        go_enter Tryd.func12, Tryd.ntmps12
        go_wp2_with fail
        refine HB2.out.mono ?_
        rintro e _w ⟨rfl, rfl⟩
        go_wp2_with fail
        refine (sIsCard_r _ _ _ HC.out).mono ?_
        rintro e _w ⟨rfl, rfl⟩
        go_wp2_with fail
        refine (HSC.out _).mono ?_
        rintro e _w ⟨rfl, rfl⟩
        go_wp2_with fail
        refine (sSuitOf_r _ _ _ HS.out).mono ?_
        rintro e _w ⟨rfl, rfl⟩
        go_wp2_with fail
        go_ret
        exact ⟨rfl, rfl⟩
def redS (s : Nat) : Bool := decide (1 ≤ (s : Int) ∧ (s : Int) ≤ 2)
/-- The suit s does not hold the card c back. -/
def lets (zs : List Int) (c : Int) (s : Nat) : Bool := !(redS s != redB c) || !decide (zs.getD s 0 < stepOf c - 1)
def safeB (zs : List Int) (c : Int) : Bool := decide (stepOf c ≤ 2) || (List.range 4).all (lets zs c)
def isSafe (zs : List Int) (c : Int) : Bool := mayBuild zs c && safeB zs c
theorem safe_0 {zs : List Int} {c : Int} (h : mayBuild zs c = false) : isSafe zs c = false := by unfold isSafe; rw [h]; rfl
theorem safe_1 {zs : List Int} {c : Int} (h : mayBuild zs c = true) : isSafe zs c = safeB zs c := by unfold isSafe; rw [h]; rfl
theorem safe_low {zs : List Int} {c : Int} (h : stepOf c ≤ 2) : safeB zs c = true := by unfold safeB; rw [decide_eq_true h]; rfl
theorem safe_all {zs : List Int} {c : Int} (h : ∀ s, s < 4 → 2 < stepOf c → lets zs c s = true) : safeB zs c = true := by
  by_cases h2 : stepOf c ≤ 2
  · exact safe_low h2
  · unfold safeB
    rw [decide_eq_false h2, Bool.false_or, List.all_eq_true]
    intro s hs
    exact h s (List.mem_range.1 hs) (by omega)
theorem safe_no {zs : List Int} {c : Int} (s : Nat) (hs : s < 4) (h2 : 2 < stepOf c) (h : lets zs c s = false) : safeB zs c = false := by
  unfold safeB
  rw [decide_eq_false (by omega), Bool.false_or, List.all_eq_false]
  exact ⟨s, List.mem_range.2 hs, by rw [h]; simp⟩
theorem lets_same {zs : List Int} {c : Int} {s : Nat} (h : redS s = redB c) : lets zs c s = true := by unfold lets; rw [h]; simp
theorem lets_far {zs : List Int} {c : Int} {s : Nat} (h : ¬ zs.getD s 0 < stepOf c - 1) : lets zs c s = true := by unfold lets; rw [decide_eq_false h]; simp
theorem lets_no {zs : List Int} {c : Int} {s : Nat} (h : redS s ≠ redB c) (h2 : zs.getD s 0 < stepOf c - 1) : lets zs c s = false := by unfold lets; rw [decide_eq_true h2]; simpa using h

set_option maxRecDepth 100000 in
set_option maxHeartbeats 2000000 in
theorem sIsSafe_any (v : Value) (zs : List Int) (b : Nat) (c : Int) (w : World) (h : RdAt .i64 w v zs b) (hl : zs.length ≤ 1099511627776) (r : Bool) (hr : isSafe zs c = r) :
    Calls Tryd.prog 22 #[v, .int .i64 c] w fun e w' => e = .returned (.bool r) ∧ Below w.heap.size w w' := by
  have h0 := h
  obtain ⟨a, cap, rfl, -, -, hcell⟩ := h
  cases hm : mayBuild zs c with
  | false =>
    have HM := Lib.hid (sMayBuild_any _ zs b c w h0 hl false hm)
    obtain rfl : r = false := by rw [← hr]; exact safe_0 hm
    clear hr hm hcell h0
    go_enter Tryd.func22, Tryd.ntmps22
    go_wp2_with fail
    refine HM.out.mono ?_
    rintro e _w ⟨rfl, rfl⟩
    go_wp2_with fail
    go_ret
    exact ⟨rfl, Below.refl _ _⟩
  | true =>
    have HM := Lib.hid (sMayBuild_any _ zs b c w h0 hl true hm)
    have Hr : Hid (r = safeB zs c) := Lib.hid (by rw [← hr, safe_1 hm])
    have hln := base_len (mb_t hm).1
    have hbd := Lib.hid (fun j hj => base_getD (mb_t hm).1 j hj)
    obtain ⟨t, ht⟩ : ∃ t, stepOf c = t := ⟨_, rfl⟩
    have tb := step_bd c
    rw [ht] at tb
    obtain ⟨tb0, tb1⟩ := tb
    have Ht := Lib.hid ht
    have HT := Lib.hid (fun wx => sStepOf_any c wx)
    rw [ht] at HT
    obtain ⟨q, hq0⟩ : ∃ q, redB c = q := ⟨_, rfl⟩
    have HQ := Lib.hid hq0
    have HCl : Hid (∃ off, a = some ⟨b, off, none⟩ ∧ ∀ wx, Below w.heap.size w wx → ∀ j, j < 4 → wx.cell? ⟨b, off + j, none⟩ = some (.int .i64 (zs.getD j 0))) := Lib.hid (by
      rcases h0.open with ⟨h00, -⟩ | ⟨-, off, c', hv, -, hc⟩
      · rw [h00] at hln; simp at hln
      · exact ⟨off, (Value.slice.inj hv).1, fun wx hb j hj => by rw [hb.cell (World.block_lt_of_cell? _ _ (hc j (by omega)))]; exact base_cell hc (by omega)⟩)
    rw [hln] at HM ⊢
    obtain ⟨off, rfl, hcl⟩ := HCl.out
    have HC := Lib.hid hcl
    clear hr hm hcell h0 hln ht hq0 HCl hcl
    have w1 : IntKind.i64.wrap (t - 1) = t - 1 := IntWalk.i64_in _ (by omega)
    have W1 := Lib.hid w1
    clear w1
    go_enter Tryd.func22, Tryd.ntmps22
    go_wp2_with fail
    refine HM.out.mono ?_
    rintro e _w ⟨rfl, rfl⟩
    go_wp2_with fail
    go_loopw [5] (fun i wr => ∃ k : Nat, k ≤ 4 ∧ i = .int .i64 k ∧ Below w.heap.size w wr ∧ Hid (∀ s, s < k → 2 < stepOf c → lets zs c s = true)) (fun i _ => 4 - (intOf i).toNat)
    case atStart => exact ⟨0, by omega, rfl, Below.refl _ _, Lib.hid (fun s h => by omega)⟩
    case round =>
      obtain ⟨k, hk, rfl, B, hall⟩ := hrel
      by_cases hlt : k < 4
      · obtain ⟨p, hp⟩ : ∃ p, redS k = p := ⟨_, rfl⟩
        have HI := Lib.hid (fun wx => inM_any (k : Int) 1 2 wx p (by rw [← hp]; rfl))
        obtain ⟨y, hy⟩ : ∃ y, y = zs.getD k 0 := ⟨_, rfl⟩
        have h1 : wr.cell? ⟨b, off + k, none⟩ = some (.int .i64 y) := by rw [hy]; exact HC.out wr B k hlt
        have qa : (k : Int) < 4 := by omega
        by_cases hpq : p = q
        · have hall2 : Hid (∀ s, s < k + 1 → 2 < stepOf c → lets zs c s = true) := Lib.hid (fun s hs h2 => by
            by_cases e : s = k
            · subst e; exact lets_same (by rw [hp, HQ.out]; exact hpq)
            · exact hall.out s (by omega) h2)
          subst hpq
          clear hp hy
          cases p
          all_goals
            go_wp2_with fail
            go_quiet ((first | (go_at_call 42; exact Calls.quiet_of_same (flip_same (HI.out _) rfl)) | (go_at_call 43; exact Calls.quiet_of_same (flip_same (sIsRed_r _ _ _ HQ.out) rfl)) | (go_at_call 10; exact Calls.quiet_of_same (flip_same (HT.out _) rfl))))
            go_wp2_with fail
            go_roundw
            case rel => exact ⟨k + 1, by omega, by go_num, below_drewN B _, hall2⟩
            case measure => simp [intOf]; omega
        · have hne : redS k ≠ redB c := by rw [hp, HQ.out]; exact hpq
          by_cases hy2 : y < t - 1
          · have d1 : decide (y < t - 1) = true := decide_eq_true hy2
            by_cases h2 : 2 < t
            · have d2 : decide (2 < t) = true := decide_eq_true h2
              have hf : Hid (r = false) := Lib.hid (by rw [Hr.out]; exact safe_no k hlt (by rw [Ht.out]; exact h2) (lets_no hne (by rw [← hy, Ht.out]; exact hy2)))
              have w1 := W1.out
              clear hp hy hne
              cases p <;> cases q
              · exact absurd rfl hpq
              all_goals try (exact absurd rfl hpq)
              all_goals
                clear hpq
                go_wp2_with fail
                go_quiet ((first | (go_at_call 42; exact Calls.quiet_of_same (flip_same (HI.out _) rfl)) | (go_at_call 43; exact Calls.quiet_of_same (flip_same (sIsRed_r _ _ _ HQ.out) rfl)) | (go_at_call 10; exact Calls.quiet_of_same (flip_same (HT.out _) rfl))))
                go_wp2_with fail
                go_ret
                exact ⟨by rw [hf.out]; rfl, below_drewN B _⟩
            · have d2 : decide (2 < t) = false := decide_eq_false h2
              have hall2 : Hid (∀ s, s < k + 1 → 2 < stepOf c → lets zs c s = true) := Lib.hid (fun s hs h3 => by rw [Ht.out] at h3; exact absurd h3 h2)
              have w1 := W1.out
              clear hp hy hne
              cases p <;> cases q
              · exact absurd rfl hpq
              all_goals try (exact absurd rfl hpq)
              all_goals
                clear hpq
                go_wp2_with fail
                go_quiet ((first | (go_at_call 42; exact Calls.quiet_of_same (flip_same (HI.out _) rfl)) | (go_at_call 43; exact Calls.quiet_of_same (flip_same (sIsRed_r _ _ _ HQ.out) rfl)) | (go_at_call 10; exact Calls.quiet_of_same (flip_same (HT.out _) rfl))))
                go_wp2_with fail
                go_roundw
                case rel => exact ⟨k + 1, by omega, by go_num, below_drewN B _, hall2⟩
                case measure => simp [intOf]; omega
          · have d1 : decide (y < t - 1) = false := decide_eq_false hy2
            have hall2 : Hid (∀ s, s < k + 1 → 2 < stepOf c → lets zs c s = true) := Lib.hid (fun s hs h2 => by
              by_cases e : s = k
              · subst e; exact lets_far (by rw [← hy, Ht.out]; exact hy2)
              · exact hall.out s (by omega) h2)
            have w1 := W1.out
            clear hp hy hne
            cases p <;> cases q
            · exact absurd rfl hpq
            all_goals try (exact absurd rfl hpq)
            all_goals
              clear hpq
              go_wp2_with fail
              go_quiet ((first | (go_at_call 42; exact Calls.quiet_of_same (flip_same (HI.out _) rfl)) | (go_at_call 43; exact Calls.quiet_of_same (flip_same (sIsRed_r _ _ _ HQ.out) rfl)) | (go_at_call 10; exact Calls.quiet_of_same (flip_same (HT.out _) rfl))))
              go_wp2_with fail
              go_roundw
              case rel => exact ⟨k + 1, by omega, by go_num, below_drewN B _, hall2⟩
              case measure => simp [intOf]; omega
      · obtain rfl : k = 4 := by omega
        have hf : Hid (r = true) := Lib.hid (by rw [Hr.out]; exact safe_all hall.out)
        go_wp2_with fail
        go_ret
        exact ⟨by rw [hf.out]; rfl, B⟩
def agg2 (a b : Int) : Value := .agg #[.int .i64 a, .int .i64 b]
set_option maxRecDepth 100000 in
theorem placeOf_any (a0 a1 : Addr) (c : Int) (w : World) (hS : Sent a0 a1 w) :
    Calls Tryd.prog 41 #[.int .i64 c] w fun e w' => e = .returned (agg2 (suitOf c) (stepOf c)) ∧ Below w.heap.size w w' := by
  obtain ⟨s, hs⟩ : ∃ s, suitOf c = s := ⟨_, rfl⟩
  have HS := Lib.hid hs
  have HT := Lib.hid (fun wx hw => stepOf_any a0 a1 c wx (hS.below (w' := wx) hw (Nat.le_refl _)))
  rw [hs]
  generalize stepOf c = t at *
  have B0 := fun o => (Below.refl w.heap.size w).alloc (Nat.le_refl _) o
  clear hs hS
  go_enter Tryd.func41, Tryd.ntmps41
  go_wp2_with fail
  refine (suitOf_r _ _ _ HS.out).mono ?_
  rintro e _w ⟨rfl, rfl⟩
  go_wp2_with fail
  refine (HT.out _ (B0 _)).mono ?_
  rintro e _w ⟨rfl, rfl⟩
  go_wp2_with fail
  exact bodyPost_ret (v := agg2 s t) (by simp [results, Tryd.results41, go_sem, agg2]) rfl ⟨rfl, B0 _⟩
theorem nextPlace_any (a b c d : Int) (s : Nat) (hs : s < 4) (w : World) (r0 : 0 ≤ a ∧ a ≤ 13) (r1 : 0 ≤ b ∧ b ≤ 13) (r2 : 0 ≤ c ∧ c ≤ 13) (r3 : 0 ≤ d ∧ d ≤ 13) :
    Calls Tryd.prog 53 #[agg4 a b c d, .int .i64 s] w fun e w' => e = .returned (agg2 s ([a, b, c, d].getD s 0 + 1)) ∧ Below w.heap.size w w' := by
  obtain ⟨ra0, ra1⟩ := r0
  obtain ⟨rb0, rb1⟩ := r1
  obtain ⟨rc0, rc1⟩ := r2
  obtain ⟨rd0, rd1⟩ := r3
  unfold agg4
  match s, hs with
  | 0, _ =>
    go_enter Tryd.func53, Tryd.ntmps53
    go_wp2
    exact bodyPost_ret (v := agg2 0 (a + 1)) (by simp [results, Tryd.results53, go_sem, agg2]) rfl ⟨rfl, below_two _ _ _⟩
  | 1, _ =>
    go_enter Tryd.func53, Tryd.ntmps53
    go_wp2
    exact bodyPost_ret (v := agg2 1 (b + 1)) (by simp [results, Tryd.results53, go_sem, agg2]) rfl ⟨rfl, below_two _ _ _⟩
  | 2, _ =>
    go_enter Tryd.func53, Tryd.ntmps53
    go_wp2
    exact bodyPost_ret (v := agg2 2 (c + 1)) (by simp [results, Tryd.results53, go_sem, agg2]) rfl ⟨rfl, below_two _ _ _⟩
  | 3, _ =>
    go_enter Tryd.func53, Tryd.ntmps53
    go_wp2
    exact bodyPost_ret (v := agg2 3 (d + 1)) (by simp [results, Tryd.results53, go_sem, agg2]) rfl ⟨rfl, below_two _ _ _⟩
end Go.Proofs.YtljpeiffpkfnlaaDoor
