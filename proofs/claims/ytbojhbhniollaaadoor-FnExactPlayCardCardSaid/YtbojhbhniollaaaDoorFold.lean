/-
  fold by contract: over a step that is a closure with two captured variables.
-/
import Derived.Test.YtbojhbhniollaaaDoorMarksI
namespace Go.Proofs.YtbojhbhniollaaaDoor
open Go.RowKit

set_option maxRecDepth 100000 in
set_option maxHeartbeats 1000000 in
theorem foldWin_any (v : Value) (zs : List Int) (b : Nat) (c1 c2 : Value) (S : Nat → Int) (w : World) (h : RdAt .i64 w v zs b) (hl : zs.length ≤ 1099511627776)
    (step : ∀ k, k < zs.length → ∀ wx, Below w.heap.size w wx → Calls Tryd.prog 103 #[.int .i64 (S k), .int .i64 k, c1, c2] wx fun e w' => e = .returned (.int .i64 (S (k + 1))) ∧ Below wx.heap.size wx w') :
    Calls Tryd.prog 102 #[v, .int .i64 (S 0), .func (.func 103) #[] #[c1, c2]] w fun e w' => e = .returned (.int .i64 (S zs.length)) ∧ Below w.heap.size w w' := by
  obtain ⟨a, cap, rfl, -, -, hcell⟩ := h
  obtain ⟨n, hn⟩ : ∃ n, n = zs.length := ⟨_, rfl⟩
  rw [← hn] at hl step ⊢
  have Hs := Lib.hid step
  clear hn step hcell
  obtain ⟨x0, hx0⟩ : ∃ x0, x0 = S 0 := ⟨_, rfl⟩
  have H0 := Lib.hid hx0
  rw [← hx0]
  clear hx0
  go_enter Tryd.func102, Tryd.ntmps102
  go_wp2_with fail
  go_loopw [1, 7, 10] (fun r _ i wr => ∃ (k : Nat) (x : Int), k ≤ n ∧ i = .int .i64 k ∧ r = .int .i64 x ∧ Hid (x = S k) ∧ Below w.heap.size w wr) (fun _ _ i _ => n - (intOf i).toNat)
  case atStart => exact ⟨0, x0, Nat.zero_le _, rfl, rfl, H0, Below.refl _ _⟩
  case round =>
    obtain ⟨k, x, hk, rfl, rfl, hx, B⟩ := hrel
    by_cases hlt : k < n
    · have HC := Hs.out k hlt wr B
      rw [← hx.out] at HC
      obtain ⟨y, hy⟩ : ∃ y, y = S (k + 1) := ⟨_, rfl⟩
      have Hy := Lib.hid hy
      rw [← hy] at HC
      have HC := Lib.hid HC
      clear hy
      go_wp2_with fail
      refine HC.out.mono ?_
      rintro e w1 ⟨rfl, B1⟩
      replace B := B.trans (B1.mono B.size)
      clear B1 HC
      go_wp2_with fail
      go_roundw
      case rel => exact ⟨k + 1, y, by omega, by go_num, rfl, Hy, B⟩
      case measure => simp [intOf]; omega
    · obtain rfl : k = n := by omega
      go_wp2_with fail
      go_ret
      exact ⟨by rw [← hx.out]; rfl, B⟩
set_option maxRecDepth 100000 in
set_option maxHeartbeats 1000000 in
theorem foldRank_any (v : Value) (zs : List Int) (b : Nat) (c1 c2 : Value) (S : Nat → Int) (w : World) (h : RdAt .i64 w v zs b) (hl : zs.length ≤ 1099511627776)
    (step : ∀ k, k < zs.length → ∀ wx, Below w.heap.size w wx → Calls Tryd.prog 123 #[.int .i64 (S k), .int .i64 k, c1, c2] wx fun e w' => e = .returned (.int .i64 (S (k + 1))) ∧ Below wx.heap.size wx w') :
    Calls Tryd.prog 102 #[v, .int .i64 (S 0), .func (.func 123) #[] #[c1, c2]] w fun e w' => e = .returned (.int .i64 (S zs.length)) ∧ Below w.heap.size w w' := by
  obtain ⟨a, cap, rfl, -, -, hcell⟩ := h
  obtain ⟨n, hn⟩ : ∃ n, n = zs.length := ⟨_, rfl⟩
  rw [← hn] at hl step ⊢
  have Hs := Lib.hid step
  clear hn step hcell
  obtain ⟨x0, hx0⟩ : ∃ x0, x0 = S 0 := ⟨_, rfl⟩
  have H0 := Lib.hid hx0
  rw [← hx0]
  clear hx0
  go_enter Tryd.func102, Tryd.ntmps102
  go_wp2_with fail
  go_loopw [1, 7, 10] (fun r _ i wr => ∃ (k : Nat) (x : Int), k ≤ n ∧ i = .int .i64 k ∧ r = .int .i64 x ∧ Hid (x = S k) ∧ Below w.heap.size w wr) (fun _ _ i _ => n - (intOf i).toNat)
  case atStart => exact ⟨0, x0, Nat.zero_le _, rfl, rfl, H0, Below.refl _ _⟩
  case round =>
    obtain ⟨k, x, hk, rfl, rfl, hx, B⟩ := hrel
    by_cases hlt : k < n
    · have HC := Hs.out k hlt wr B
      rw [← hx.out] at HC
      obtain ⟨y, hy⟩ : ∃ y, y = S (k + 1) := ⟨_, rfl⟩
      have Hy := Lib.hid hy
      rw [← hy] at HC
      have HC := Lib.hid HC
      clear hy
      go_wp2_with fail
      refine HC.out.mono ?_
      rintro e w1 ⟨rfl, B1⟩
      replace B := B.trans (B1.mono B.size)
      clear B1 HC
      go_wp2_with fail
      go_roundw
      case rel => exact ⟨k + 1, y, by omega, by go_num, rfl, Hy, B⟩
      case measure => simp [intOf]; omega
    · obtain rfl : k = n := by omega
      go_wp2_with fail
      go_ret
      exact ⟨by rw [← hx.out]; rfl, B⟩
end Go.Proofs.YtbojhbhniollaaaDoor
