/-
  MostOf, both sides.
-/
import Derived.Test.YtbeodaelbjgmeaaDoorMarksI
import Derived.Test.YtbeodaelbjgmeaaDoorShelf
namespace Go.Proofs.YtbeodaelbjgmeaaDoor
open Go.RowKit
set_option linter.unusedVariables false

def mostI (zs : List Int) : Int := if zs = [] then -1 else Lib.idxOf zs (Lib.maxOf zs)
theorem max_up (zs : List Int) (M : Int) : ∀ i, 0 < i → i ≤ zs.length → (∀ j, j < i → zs.getD j 0 ≤ M) → Lib.maxOf (zs.take i) ≤ M := by
  intro i
  induction i with
  | zero => intro h; omega
  | succ i ih =>
    intro _ hl h
    by_cases h0 : i = 0
    · subst h0; rw [Lib.maxOf_one]; exact h 0 (by omega)
    · rw [Lib.maxOf_step zs i (by omega) (by omega)]
      have h1 := ih (by omega) (by omega) (fun j hj => h j (by omega))
      have h2 := h i (by omega)
      omega
theorem max_lo (zs : List Int) : ∀ i, i ≤ zs.length → ∀ j, j < i → zs.getD j 0 ≤ Lib.maxOf (zs.take i) := by
  intro i
  induction i with
  | zero => intro _ j h; omega
  | succ i ih =>
    intro hl j hj
    by_cases h0 : i = 0
    · subst h0
      have : j = 0 := by omega
      subst this
      rw [Lib.maxOf_one]; exact Int.le_refl _
    · rw [Lib.maxOf_step zs i (by omega) (by omega)]
      by_cases e : j = i
      · subst e; omega
      · have := ih (by omega) j (by omega); omega
theorem max_is (zs : List Int) (p : Nat) (hp : p < zs.length) (h : ∀ j, j < zs.length → zs.getD j 0 ≤ zs.getD p 0) : Lib.maxOf zs = zs.getD p 0 := by
  have h1 := max_up zs _ zs.length (by omega) (Nat.le_refl _) h
  have h2 := max_lo zs zs.length (Nat.le_refl _) p hp
  rw [List.take_length] at h1 h2
  omega
theorem most_is (zs : List Int) (p : Nat) (hp : p < zs.length) (h : ∀ j, j < zs.length → zs.getD j 0 ≤ zs.getD p 0) (h2 : ∀ j, j < p → zs.getD j 0 < zs.getD p 0) : mostI zs = p := by
  have hne : zs ≠ [] := by intro e; subst e; simp at hp
  unfold mostI
  rw [if_neg hne, max_is zs p hp h]
  have := Lib.idxOf_hit zs zs.length p (zs.getD p 0) hp (Nat.le_refl _) rfl (fun j hj => by have := h2 j hj; omega)
  rw [List.take_length] at this
  exact this

theorem cells_getD {k : IntKind} {w : World} {b off : Nat} {zs : List Int} (h : Cells k w b off zs) : ∀ j, j < zs.length → w.cell? ⟨b, off + j, none⟩ = some (.int k (zs.getD j 0)) := by
  intro j hj
  rw [h j hj]
  simp [List.getD, hj]
theorem mostOf_any (v : Value) (zs : List Int) (b : Nat) (w : World) (h : RdAt .i64 w v zs b) (hl : zs.length ≤ 1099511627776) :
    Calls Tryd.prog 49 #[v] w fun e w' => e = .returned (.int .i64 (mostI zs)) ∧ w = w' := by
  rcases h.open with ⟨rfl, a, cap, rfl, hcm, hnil⟩ | ⟨hz, off, cap, rfl, hcap, hc⟩
  · go_enter Tryd.func49, Tryd.ntmps49
    go_wp2_with fail
    go_ret
    exact ⟨rfl, rfl⟩
  · have hpos : 0 < zs.length := List.length_pos_iff.2 hz
    have H1 : Hid (Calls Tryd.prog 64 #[.slice (some ⟨b, off, none⟩) zs.length cap] w fun e w' => e = .returned (.int .i64 (Lib.maxOf zs)) ∧ w = w') := Lib.hid (by
      refine (Tryd.slices_Max_int b off zs.length cap zs w hpos (Nat.le_refl _) (by omega) (cells_getD hc)).mono ?_
      rintro e w' ⟨rfl, h2⟩
      exact ⟨by rw [List.take_length], h2.symm⟩)
    have H2 : Hid (Calls Tryd.prog 63 #[.slice (some ⟨b, off, none⟩) zs.length cap, .int .i64 (Lib.maxOf zs)] w fun e w' => e = .returned (.int .i64 (mostI zs)) ∧ w = w') := Lib.hid (by
      refine (Tryd.slices_Index_int b off zs.length cap zs (Lib.maxOf zs) w (Nat.le_refl _) (by omega) (cells_getD hc)).mono ?_
      rintro e w' ⟨rfl, h2⟩
      exact ⟨by rw [List.take_length]; unfold mostI; rw [if_neg hz], h2.symm⟩)
    generalize mostI zs = r at *
    generalize Lib.maxOf zs = m at *
    have hq : (((zs.length : Nat) : Int) == 0) = false := by simp; exact hz
    clear hc h hz
    generalize zs.length = n at *
    go_enter Tryd.func49, Tryd.ntmps49
    go_wp2_with fail
    refine H1.out.mono ?_
    rintro e _w ⟨rfl, rfl⟩
    go_wp2_with fail
    refine H2.out.mono ?_
    rintro e _w ⟨rfl, rfl⟩
    go_wp2_with fail
    go_ret
    exact ⟨rfl, rfl⟩
set_option maxRecDepth 100000 in
set_option maxHeartbeats 400000 in
theorem sMostOf_any (v : Value) (zs : List Int) (b : Nat) (w : World) (h : RdAt .i64 w v zs b) (hl : zs.length ≤ 1099511627776) :
    Calls Tryd.prog 47 #[v] w fun e w' => e = .returned (.int .i64 (mostI zs)) ∧ Below w.heap.size w w' := by
  obtain ⟨a, cap, rfl, -, -, hcell⟩ := h
  obtain ⟨n, hn⟩ : ∃ n, n = zs.length := ⟨_, rfl⟩
  have Hn := Lib.hid hn
  rw [← hn] at hl ⊢
  clear hn
  obtain ⟨r, hr⟩ : ∃ r, r = mostI zs := ⟨_, rfl⟩
  have Hr := Lib.hid hr
  rw [← hr]
  clear hr
  go_enter Tryd.func47, Tryd.ntmps47
  go_wp2_with fail
  go_loopw [3, 4] (fun m i wr => ∃ (k : Nat), k ≤ n ∧ i = .int .i64 k ∧ (∃ q, wr = w.drewN q) ∧ ((k = 0 ∧ m = .int .i64 (-1)) ∨ ∃ p : Nat, p < k ∧ m = .int .i64 p ∧ Hid (∀ j, j < k → zs.getD j 0 ≤ zs.getD p 0) ∧ Hid (∀ j, j < p → zs.getD j 0 < zs.getD p 0))) (fun _ i _ => n - (intOf i).toNat)
  case atStart => exact ⟨0, Nat.zero_le _, rfl, ⟨0, rfl⟩, .inl ⟨rfl, rfl⟩⟩
  case round =>
    obtain ⟨k, hk, rfl, ⟨q, rfl⟩, hm⟩ := hrel
    by_cases hlt : k < n
    · have hz : k < zs.length := by rw [← Hn.out]; exact hlt
      rcases hcell with h0 | ⟨off, rfl, hc⟩
      · subst h0; simp at hz
      rcases hm with ⟨rfl, rfl⟩ | ⟨p, hp, rfl, hall, hfst⟩
      · have hA : Hid (∀ j, j < 0 + 1 → zs.getD j 0 ≤ zs.getD 0 0) := Lib.hid (fun j hj => by
          obtain rfl : j = 0 := by omega
          exact Int.le_refl _)
        clear hc
        go_wp2_with fail
        go_quiet (fail)
        go_wp2_with fail
        go_roundw
        case rel => exact ⟨1, by omega, by go_num, ⟨_, rfl⟩, .inr ⟨0, by omega, by go_num, hA, Lib.hid (fun j hj => by omega)⟩⟩
        case measure => simp [intOf]; omega
      · have hpz : p < zs.length := by omega
        obtain ⟨y, hy⟩ : ∃ y, Hid (y = zs.getD k 0) := ⟨_, Lib.hid rfl⟩
        obtain ⟨x, hx⟩ : ∃ x, Hid (x = zs.getD p 0) := ⟨_, Lib.hid rfl⟩
        have h1 : w.cell? ⟨b, off + k, none⟩ = some (.int .i64 y) := by rw [hc k hz, hy.out]; simp [List.getD, hz]
        have h2 : w.cell? ⟨b, off + p, none⟩ = some (.int .i64 x) := by rw [hc p hpz, hx.out]; simp [List.getD, hpz]
        clear hc
        have hneg : ((p : Int) < 0) = False := by simp
        by_cases hxy : x < y
        · have hA : Hid (∀ j, j < k + 1 → zs.getD j 0 ≤ zs.getD k 0) := Lib.hid (fun j hj => by
            by_cases e : j = k
            · subst e; exact Int.le_refl _
            · have := hall.out j (by omega); rw [← hy.out]; rw [← hx.out] at this; omega)
          have hB : Hid (∀ j, j < k → zs.getD j 0 < zs.getD k 0) := Lib.hid (fun j hj => by
            have := hall.out j hj; rw [← hy.out]; rw [← hx.out] at this; omega)
          go_wp2_with fail
          go_quiet (fail)
          go_wp2_with fail
          go_roundw
          case rel => exact ⟨k + 1, by omega, by go_num, ⟨_, rfl⟩, .inr ⟨k, by omega, by go_num, hA, hB⟩⟩
          case measure => simp [intOf]; omega
        · have hA : Hid (∀ j, j < k + 1 → zs.getD j 0 ≤ zs.getD p 0) := Lib.hid (fun j hj => by
            by_cases e : j = k
            · subst e; rw [← hy.out, ← hx.out]; omega
            · exact hall.out j (by omega))
          go_wp2_with fail
          go_quiet (fail)
          go_wp2_with fail
          go_roundw
          case rel => exact ⟨k + 1, by omega, by go_num, ⟨_, rfl⟩, .inr ⟨p, by omega, by go_num, hA, hfst⟩⟩
          case measure => simp [intOf]; omega
    · obtain rfl : k = n := by omega
      rcases hm with ⟨rfl, rfl⟩ | ⟨p, hp, rfl, hall, hfst⟩
      · have hr1 : Hid (r = -1) := Lib.hid (by rw [Hr.out]; unfold mostI; rw [if_pos (List.length_eq_zero_iff.1 Hn.out.symm)])
        go_wp2_with fail
        go_ret
        exact ⟨by rw [hr1.out]; rfl, below_drewN (Below.refl _ _) _⟩
      · have hr1 : Hid (r = p) := Lib.hid (by rw [Hr.out]; exact most_is zs p (by rw [← Hn.out]; exact hp) (fun j hj => hall.out j (by rw [Hn.out]; exact hj)) hfst.out)
        go_wp2_with fail
        go_ret
        exact ⟨by rw [hr1.out]; rfl, below_drewN (Below.refl _ _) _⟩
end Go.Proofs.YtbeodaelbjgmeaaDoor
