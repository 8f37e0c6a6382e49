/-
  PlaceOf, both sides.
-/
import Derived.Test.YtchpkpajnjcnbabMarksI
import Derived.Test.YtchpkpajnjcnbabShelf
namespace Go.Proofs.Ytchpkpajnjcnbab
open Go.RowKit

theorem cells_getD {k : IntKind} {w : World} {b off : Nat} {zs : List Int} (h : Cells k w b off zs) : ∀ j, j < zs.length → w.cell? ⟨b, off + j, none⟩ = some (.int k (zs.getD j 0)) := by
  intro j hj
  rw [h j hj]
  simp [List.getD, hj]
theorem placeOf_any (v : Value) (zs : List Int) (b : Nat) (c : Int) (w : World) (h : RdAt .i64 w v zs b) (hl : zs.length ≤ 1099511627776) :
    Calls Try.prog 21 #[v, .int .i64 c] w fun e w' => e = .returned (.int .i64 (Lib.idxOf zs c)) ∧ w = w' := by
  have hlib : Calls Try.prog 34 #[v, .int .i64 c] w fun e w' => e = .returned (.int .i64 (Lib.idxOf zs c)) ∧ w = w' := by
    rcases h.open with ⟨rfl, a, cap, rfl, hcm, hnil⟩ | ⟨hz, off, cap, rfl, hcap, hc⟩
    · exact (Try.slices_Index_int_empty a cap c w).mono fun e w' ⟨h1, h2⟩ => ⟨h1, h2.symm⟩
    · refine (Try.slices_Index_int b off zs.length cap zs c w (Nat.le_refl _) (by omega) (cells_getD hc)).mono ?_
      rintro e w' ⟨rfl, h2⟩
      exact ⟨by rw [List.take_length], h2.symm⟩
  have Hlib := Lib.hid hlib
  clear hlib
  obtain ⟨p0, cap0, rfl, -⟩ := id h
  go_enter Try.func21, Try.ntmps21
  go_wp2_with fail
  refine Hlib.out.mono ?_
  rintro e _w ⟨rfl, rfl⟩
  go_wp2_with fail
  go_ret
  exact ⟨rfl, rfl⟩
set_option maxRecDepth 100000 in
set_option maxHeartbeats 400000 in
theorem sPlaceOf_any (v : Value) (zs : List Int) (b : Nat) (c : Int) (w : World) (h : RdAt .i64 w v zs b) (hl : zs.length ≤ 1099511627776) :
    Calls Try.prog 20 #[v, .int .i64 c] w fun e w' => e = .returned (.int .i64 (Lib.idxOf zs c)) ∧ w = w' := by
  obtain ⟨a, cap, rfl, -, -, hcell⟩ := h
  obtain ⟨n, hn⟩ : ∃ n, n = zs.length := ⟨_, rfl⟩
  have Hn := Lib.hid hn
  rw [← hn] at hl ⊢
  clear hn
  obtain ⟨r, hr⟩ : ∃ r, r = Lib.idxOf zs c := ⟨_, rfl⟩
  have Hr := Lib.hid hr
  rw [← hr]
  clear hr
  go_enter Try.func20, Try.ntmps20
  go_wp2_with fail
  go_loop [5] (fun i => ∃ k : Nat, k ≤ n ∧ i = .int .i64 k ∧ Hid (∀ j, j < k → zs.getD j 0 ≠ c)) (fun i => n - (intOf i).toNat)
  case atStart => exact ⟨0, Nat.zero_le _, rfl, Lib.hid (fun j h => by omega)⟩
  case round =>
    obtain ⟨k, hk, rfl, hno⟩ := hrel
    by_cases hlt : k < n
    · have hz : k < zs.length := by rw [← Hn.out]; exact hlt
      rcases hcell with h0 | ⟨off, rfl, hc⟩
      · subst h0; simp at hz
      obtain ⟨y, hy⟩ : ∃ y, Hid (y = zs.getD k 0) := ⟨_, Lib.hid rfl⟩
      have h1 : w.cell? ⟨b, off + k, none⟩ = some (.int .i64 y) := by rw [hc k hz, hy.out]; simp [List.getD, hz]
      clear hc
      by_cases hyc : y = c
      · subst hyc
        have hr1 : Hid (r = (k : Int)) := Lib.hid (by
          rw [Hr.out]
          have := Lib.idxOf_hit zs zs.length k y hz (Nat.le_refl _) hy.out.symm hno.out
          rw [List.take_length] at this
          exact this)
        go_wp2_with fail
        go_ret
        exact ⟨by rw [hr1.out]; rfl, rfl⟩
      · have hq : (y == c) = false := by simpa using hyc
        have hno2 : Hid (∀ j, j < k + 1 → zs.getD j 0 ≠ c) := Lib.hid (fun j h => by
          by_cases e : j = k
          · subst e; rw [← hy.out]; exact hyc
          · exact hno.out j (by omega))
        clear hyc
        go_wp2_with fail
        go_round
        case rel => exact ⟨k + 1, by omega, by go_num, hno2⟩
        case measure => simp [intOf]; omega
    · obtain rfl : k = n := by omega
      have hr1 : Hid (r = -1) := Lib.hid (by
        rw [Hr.out]
        have := Lib.idxOf_miss zs zs.length c (by rw [← Hn.out]; exact hno.out)
        rw [List.take_length] at this
        exact this)
      go_wp2_with fail
      go_ret
      exact ⟨by rw [hr1.out]; rfl, rfl⟩
end Go.Proofs.Ytchpkpajnjcnbab
