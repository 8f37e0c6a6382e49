/-
  WhoHas by contract, both sides.
-/
import Derived.Test.YtfajdbfpacmclaaHas
import Derived.Test.YtfajdbfpacmclaaIntRows
namespace Go.Proofs.Ytfajdbfpacmclaa
open Go.RowKit

/-- The first row with the card, from the front. -/
def whoHas (zss : List (List Int)) (c : Int) : Int := match (List.range zss.length).find? (fun j => hasI (zss.getD j []) c) with
  | some j => (j : Int)
  | none => -1
theorem who_hit {zss : List (List Int)} {c : Int} {k : Nat} (hk : k < zss.length) (h : hasI zss[k] c = true) (hno : ∀ j (hj : j < zss.length), j < k → hasI zss[j] c = false) : whoHas zss c = (k : Int) := by
  have e : (List.range zss.length).find? (fun j => hasI (zss.getD j []) c) = some k := by
    rw [List.find?_range_eq_some]
    refine ⟨by simpa [List.getD, hk] using h, by simpa using hk, fun j hj => ?_⟩
    have hj2 : j < zss.length := by omega
    simpa [List.getD, hj2] using hno j hj2 hj
  unfold whoHas; rw [e]
theorem who_miss {zss : List (List Int)} {c : Int} (hno : ∀ j (hj : j < zss.length), hasI zss[j] c = false) : whoHas zss c = -1 := by
  have e : (List.range zss.length).find? (fun j => hasI (zss.getD j []) c) = none := by
    rw [List.find?_range_eq_none]
    intro j hj
    simpa [List.getD, hj] using hno j hj
  unfold whoHas; rw [e]

set_option maxRecDepth 100000 in
theorem sWhoHas_any (v : Value) (zss : List (List Int)) (c : Int) (w : World) (h : RdRows .i64 w v zss) (hl : zss.length ≤ 1048576) (hl2 : sumLen zss ≤ 1048576) :
    Calls Try.prog 12 #[v, .int .i64 c] w fun e w' => e = .returned (.int .i64 (whoHas zss c)) ∧ w = w' := by
  have hrow := fun j (hj : j < zss.length) => h.row hj
  obtain ⟨a, cap, rfl, -, -⟩ := id h
  obtain ⟨n, hn⟩ : ∃ n, n = zss.length := ⟨_, rfl⟩
  have Hn := Lib.hid hn
  have Hrow := Lib.hid hrow
  have Hsum : Hid (∀ j (hj : j < zss.length), zss[j].length ≤ 1048576) := Lib.hid (fun j hj => Nat.le_trans (len_le_sum zss hj) hl2)
  rw [← hn] at hl ⊢
  clear hn hrow h hl2
  obtain ⟨r, hr⟩ : ∃ r, r = whoHas zss c := ⟨_, rfl⟩
  have Hr := Lib.hid hr
  rw [← hr]
  clear hr
  go_enter Try.func12, Try.ntmps12
  go_wp2_with fail
  go_loop [5] (fun i => ∃ k : Nat, k ≤ n ∧ i = .int .i64 k ∧ Hid (∀ j (hj : j < zss.length), j < k → hasI zss[j] c = false)) (fun i => n - (intOf i).toNat)
  case atStart => exact ⟨0, Nat.zero_le _, rfl, Lib.hid (fun j _ h => by omega)⟩
  case round =>
    obtain ⟨k, hk, rfl, hno⟩ := hrel
    by_cases hlt : k < n
    · have hz : k < zss.length := by rw [← Hn.out]; exact hlt
      obtain ⟨blk, off, cap', p, c1, b, hv, hc, hrd, -⟩ := Hrow.out k hz
      have ha := (Value.slice.inj hv).1
      clear hv
      subst ha
      have hsm := Hsum.out k hz
      have HC := sHasCard_any _ _ b c w hrd (by omega)
      cases e : hasI (zss[k]'hz) c with
      | true =>
        rw [e] at HC
        have hr1 : Hid (r = (k : Int)) := Lib.hid (by rw [Hr.out]; exact who_hit hz e hno.out)
        have HC := Lib.hid HC
        obtain ⟨m, hm⟩ : ∃ m, m = (zss[k]'hz).length := ⟨_, rfl⟩
        rw [← hm] at hc HC
        clear hrd hsm e hm
        go_wp2_with fail
        refine HC.out.mono ?_
        rintro e _w ⟨rfl, rfl⟩
        go_wp2_with fail
        go_ret
        exact ⟨by rw [hr1.out]; rfl, rfl⟩
      | false =>
        rw [e] at HC
        have hno2 : Hid (∀ j (hj : j < zss.length), j < k + 1 → hasI zss[j] c = false) := Lib.hid (fun j hj h => by
          by_cases ej : j = k
          · subst ej; exact e
          · exact hno.out j hj (by omega))
        have HC := Lib.hid HC
        obtain ⟨m, hm⟩ : ∃ m, m = (zss[k]'hz).length := ⟨_, rfl⟩
        rw [← hm] at hc HC
        clear hrd hsm e hm
        go_wp2_with fail
        refine HC.out.mono ?_
        rintro e _w ⟨rfl, rfl⟩
        go_wp2_with fail
        go_round
        case rel => exact ⟨k + 1, by omega, by go_num, hno2⟩
        case measure => simp [intOf]; omega
    · obtain rfl : k = n := by omega
      have hr1 : Hid (r = -1) := Lib.hid (by rw [Hr.out]; exact who_miss (fun j hj => hno.out j hj (by rw [Hn.out]; exact hj)))
      go_wp2_with fail
      go_ret
      exact ⟨by rw [hr1.out]; rfl, rfl⟩

theorem whoStep_any (v : Value) (zs : List Int) (b ub : Nat) (c : Int) (w : World) (h : RdAt .i64 w v zs b) (hl : zs.length ≤ 1048576) (hu : w.cell? ⟨ub, 0, none⟩ = some (.int .i64 c)) :
    Calls Try.prog 28 #[v, .pointer (some ⟨ub, 0, none⟩)] w fun e w' => e = .returned (.bool (hasI zs c)) ∧ w = w' := by
  have HC := Lib.hid (hasCard_any v zs b c w h (by omega))
  obtain ⟨p0, cap0, rfl, -⟩ := id h
  clear h
  go_enter Try.func28, Try.ntmps28
  go_wp2_with fail
  refine HC.out.mono ?_
  rintro e _w ⟨rfl, rfl⟩
  go_wp2_with fail
  go_ret
  exact ⟨rfl, rfl⟩

set_option maxRecDepth 100000 in
theorem indexRows_any (v : Value) (zss : List (List Int)) (c : Int) (ub : Nat) (w : World) (h : RdRows .i64 w v zss) (hl : zss.length ≤ 1048576) (hl2 : sumLen zss ≤ 1048576) (hu : w.cell? ⟨ub, 0, none⟩ = some (.int .i64 c)) :
    Calls Try.prog 27 #[v, .func (.func 28) #[] #[.pointer (some ⟨ub, 0, none⟩)]] w fun e w' => e = .returned (.int .i64 (whoHas zss c)) ∧ w = w' := by
  have hrow := fun j (hj : j < zss.length) => h.row hj
  obtain ⟨a, cap, rfl, -, -⟩ := id h
  obtain ⟨n, hn⟩ : ∃ n, n = zss.length := ⟨_, rfl⟩
  have Hn := Lib.hid hn
  have Hrow := Lib.hid hrow
  have Hsum : Hid (∀ j (hj : j < zss.length), zss[j].length ≤ 1048576) := Lib.hid (fun j hj => Nat.le_trans (len_le_sum zss hj) hl2)
  rw [← hn] at hl ⊢
  clear hn hrow h hl2
  obtain ⟨r, hr⟩ : ∃ r, r = whoHas zss c := ⟨_, rfl⟩
  have Hr := Lib.hid hr
  rw [← hr]
  clear hr
  go_enter Try.func27, Try.ntmps27
  go_wp2_with fail
  go_loop [5, 8] (fun _ i => ∃ k : Nat, k ≤ n ∧ i = .int .i64 k ∧ Hid (∀ j (hj : j < zss.length), j < k → hasI zss[j] c = false)) (fun _ i => n - (intOf i).toNat)
  case atStart => exact ⟨0, Nat.zero_le _, rfl, Lib.hid (fun j _ h => by omega)⟩
  case round =>
    obtain ⟨k, hk, rfl, hno⟩ := hrel
    by_cases hlt : k < n
    · have hz : k < zss.length := by rw [← Hn.out]; exact hlt
      obtain ⟨blk, off, cap', p, c1, b, hv, hc, hrd, -⟩ := Hrow.out k hz
      have ha := (Value.slice.inj hv).1
      clear hv
      subst ha
      have hsm := Hsum.out k hz
      have HC := whoStep_any _ _ b ub c w hrd hsm hu
      cases e : hasI (zss[k]'hz) c with
      | true =>
        rw [e] at HC
        have hr1 : Hid (r = (k : Int)) := Lib.hid (by rw [Hr.out]; exact who_hit hz e hno.out)
        have HC := Lib.hid HC
        obtain ⟨m, hm⟩ : ∃ m, m = (zss[k]'hz).length := ⟨_, rfl⟩
        rw [← hm] at hc HC
        clear hrd hsm e hm
        go_wp2_with fail
        refine HC.out.mono ?_
        rintro e _w ⟨rfl, rfl⟩
        go_wp2_with fail
        go_ret
        exact ⟨by rw [hr1.out]; rfl, rfl⟩
      | false =>
        rw [e] at HC
        have hno2 : Hid (∀ j (hj : j < zss.length), j < k + 1 → hasI zss[j] c = false) := Lib.hid (fun j hj h => by
          by_cases ej : j = k
          · subst ej; exact e
          · exact hno.out j hj (by omega))
        have HC := Lib.hid HC
        obtain ⟨m, hm⟩ : ∃ m, m = (zss[k]'hz).length := ⟨_, rfl⟩
        rw [← hm] at hc HC
        clear hrd hsm e hm
        go_wp2_with fail
        refine HC.out.mono ?_
        rintro e _w ⟨rfl, rfl⟩
        go_wp2_with fail
        go_round
        case rel => exact ⟨k + 1, by omega, by go_num, hno2⟩
        case measure => simp [intOf]; omega
    · obtain rfl : k = n := by omega
      have hr1 : Hid (r = -1) := Lib.hid (by rw [Hr.out]; exact who_miss (fun j hj => hno.out j hj (by rw [Hn.out]; exact hj)))
      go_wp2_with fail
      go_ret
      exact ⟨by rw [hr1.out]; rfl, rfl⟩

set_option maxRecDepth 100000 in
theorem whoHas_any (v : Value) (zss : List (List Int)) (c : Int) (w : World) (h : RdRows .i64 w v zss) (hl : zss.length ≤ 1048576) (hl2 : sumLen zss ≤ 1048576) :
    Calls Try.prog 13 #[v, .int .i64 c] w fun e w' => e = .returned (.int .i64 (whoHas zss c)) ∧ Below w.heap.size w w' := by
  have B : Below w.heap.size w (w.alloc (.cells #[.int .i64 c] 3)) := (Below.refl _ _).alloc (Nat.le_refl _) _
  have HI := Lib.hid (indexRows_any v zss c w.heap.size (w.alloc (.cells #[.int .i64 c] 3)) (h.below B) hl hl2 (by simp))
  obtain ⟨p0, cap0, rfl, -⟩ := id h
  clear h
  go_enter Try.func13, Try.ntmps13
  go_wp2_with fail
  refine HI.out.mono ?_
  rintro e _w ⟨rfl, rfl⟩
  go_wp2_with fail
  go_ret
  exact ⟨rfl, B⟩
end Go.Proofs.Ytfajdbfpacmclaa
