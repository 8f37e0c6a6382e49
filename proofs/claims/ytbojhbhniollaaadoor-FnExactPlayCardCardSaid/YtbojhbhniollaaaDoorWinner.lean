/-
  WinnerOf by contract, both sides.
-/
import Derived.Test.YtbojhbhniollaaaDoorBeats
import Derived.Test.YtbojhbhniollaaaDoorBits
import Derived.Test.YtbojhbhniollaaaDoorFold
namespace Go.Proofs.YtbojhbhniollaaaDoor
open Go.RowKit

/-- The index of the card that wins among the first k. -/
def winsAt (zs : List Int) (t : Int) : Nat → Nat
  | 0 => 0
  | k + 1 => if beats (zs.getD k 0) (zs.getD (winsAt zs t k) 0) t = true then k else winsAt zs t k
theorem winsAt_le (zs : List Int) (t : Int) : ∀ k, winsAt zs t k ≤ k - 1
  | 0 => Nat.le_refl _
  | k + 1 => by
    have := winsAt_le zs t k
    rw [winsAt]; split <;> omega
theorem beats_self (a t : Int) (h : isCard a = true) : beats a a t = false := by rw [beats_2 h h rfl]; simp
def winnerOf (zs : List Int) (t : Int) : Int := if zs = [] ∨ isHand zs = false then -1 else (winsAt zs t zs.length : Int)
theorem winner_0 (t : Int) : winnerOf [] t = -1 := rfl
theorem winner_1 {zs : List Int} (t : Int) (h : isHand zs = false) : winnerOf zs t = -1 := if_pos (.inr h)
theorem winner_2 {zs : List Int} (t : Int) (h : isHand zs = true) (hz : zs ≠ []) : winnerOf zs t = winsAt zs t zs.length := if_neg (by rw [h]; simp [hz])
theorem cell_blk2 {w : World} {b : Nat} {c : Array Value} {t : TypeId} {fr : Nat × Nat} (h : w.heap[b]? = some (.cells c t fr)) (i : Nat) : w.cell? ⟨b, i, none⟩ = c[i]? := by
  simp [World.cell?, h]

set_option maxRecDepth 100000 in
set_option maxHeartbeats 1000000 in
theorem winStep_any (zs : List Int) (b off n cap tb ub : Nat) (t : Int) (m k : Nat) (w : World) (hc : Cells .i64 w b off zs) (hn : n = zs.length) (_hl : n ≤ 1099511627776) (hm : m < n) (hk : k < n)
    (ht : w.cell? ⟨tb, 0, none⟩ = some (.slice (some ⟨b, off, none⟩) n cap)) (hu : w.cell? ⟨ub, 0, none⟩ = some (.int .i64 t)) :
    Calls Tryd.prog 103 #[.int .i64 m, .int .i64 k, .pointer (some ⟨tb, 0, none⟩), .pointer (some ⟨ub, 0, none⟩)] w fun e w' =>
      e = .returned (.int .i64 ((if beats (zs.getD k 0) (zs.getD m 0) t = true then k else m : Nat) : Int)) ∧ Below w.heap.size w w' := by
  obtain ⟨x, hx⟩ : ∃ x, x = zs.getD k 0 := ⟨_, rfl⟩
  obtain ⟨y, hy⟩ : ∃ y, y = zs.getD m 0 := ⟨_, rfl⟩
  have h1 : w.cell? ⟨b, off + k, none⟩ = some (.int .i64 x) := by rw [hc k (by omega), hx]; simp [List.getD, show k < zs.length by omega]
  have h2 : w.cell? ⟨b, off + m, none⟩ = some (.int .i64 y) := by rw [hc m (by omega), hy]; simp [List.getD, show m < zs.length by omega]
  rw [← hx, ← hy]
  clear hx hy hc hn
  have hkz : (0 : Int) ≤ (k : Int) := by omega
  have hkn : (k : Int) < (n : Int) := by omega
  have hmz : (0 : Int) ≤ (m : Int) := by omega
  have hmn : (m : Int) < (n : Int) := by omega
  cases e1 : beats x y t with
  | true =>
    go_enter Tryd.func103, Tryd.ntmps103
    go_wp2_with fail
    go_quiet ((go_at_call 104; exact Calls.quiet_of_same (flip_same (beats_any _ _ _ _) (congrArg Value.bool e1))))
    go_wp2_with fail
    go_ret
    exact ⟨rfl, below_drewN (Below.refl _ _) _⟩
  | false =>
    go_enter Tryd.func103, Tryd.ntmps103
    go_wp2_with fail
    go_quiet ((go_at_call 104; exact Calls.quiet_of_same (flip_same (beats_any _ _ _ _) (congrArg Value.bool e1))))
    go_wp2_with fail
    go_ret
    exact ⟨rfl, below_drewN (Below.refl _ _) _⟩

set_option maxRecDepth 100000 in
set_option maxHeartbeats 1000000 in
theorem winnerOf_any (v : Value) (zs : List Int) (b : Nat) (t : Int) (w : World) (h : RdAt .i64 w v zs b) (hl : zs.length ≤ 1099511627776) :
    Calls Tryd.prog 79 #[v, .int .i64 t] w fun e w' => e = .returned (.int .i64 (winnerOf zs t)) ∧ Below w.heap.size w w' := by
  have HI : Hid (∀ wx, Below w.heap.size w wx → Calls Tryd.prog 75 #[v] wx fun e w' => e = .returned (.bool (isHand zs)) ∧ Below wx.heap.size wx w') := Lib.hid (fun wx hb => isHand_any v zs b wx (h.below hb) (by omega))
  have hB0 : ∀ o1 o2, Below w.heap.size w ((w.alloc o1).alloc o2) := fun o1 o2 => ((Below.refl _ _).alloc (Nat.le_refl _) _).alloc (by simp) _
  rcases h.open with ⟨rfl, a, cap, rfl, -⟩ | ⟨hz, off, cap, rfl, -, hc⟩
  · clear HI
    go_enter Tryd.func79, Tryd.ntmps79
    go_wp2_with fail
    go_ret
    exact ⟨by rw [winner_0]; rfl, hB0 _ _⟩
  · cases e1 : isHand zs with
    | false =>
      rw [e1] at HI
      have Hr := Lib.hid (winner_1 t e1)
      obtain ⟨n, hn⟩ : ∃ n, n = zs.length := ⟨_, rfl⟩
      have hnp : 0 < n := by have := List.length_pos_iff.2 hz; omega
      have hne : ¬ n = 0 := by omega
      have hn0 : ((n : Int) == 0) = false := by simp; omega
      rw [← hn] at hl HI ⊢
      clear hc h e1 hn hz
      go_enter Tryd.func79, Tryd.ntmps79
      go_wp2_with fail
      refine (HI.out _ (hB0 _ _)).mono ?_
      rintro e w1 ⟨rfl, B1⟩
      have B := (hB0 _ _).trans (B1.mono (hB0 _ _).size)
      go_wp2_with fail
      go_ret
      exact ⟨by rw [Hr.out]; rfl, B⟩
    | true =>
      rw [e1] at HI
      have Hr := Lib.hid (winner_2 t e1 hz)
      have hlt := h.lt hz
      obtain ⟨n, hn⟩ : ∃ n, n = zs.length := ⟨_, rfl⟩
      have Hn := Lib.hid hn
      have hnp : 0 < n := by have := List.length_pos_iff.2 hz; omega
      have hne : ¬ n = 0 := by omega
      have hn0 : ((n : Int) == 0) = false := by simp; omega
      have HR : Hid (∀ wx, Below w.heap.size w wx → RdAt .i64 wx (.slice (some ⟨b, off, none⟩) n cap) zs b) := Lib.hid (fun wx hb => by rw [hn]; exact h.below hb)
      have HCl : Hid (∀ wx, Below w.heap.size w wx → Cells .i64 wx b off zs) := Lib.hid (fun wx hb j hj => by rw [World.cell?_of_block (w := w) (a := ⟨b, off + j, none⟩) (hb.block _ hlt)]; exact hc j hj)
      rw [← hn] at hl HI ⊢
      clear hc h e1 hz hn
      go_enter Tryd.func79, Tryd.ntmps79
      go_wp2_with fail
      refine (HI.out _ (hB0 _ _)).mono ?_
      rintro e w1 ⟨rfl, B1⟩
      have B := (hB0 _ _).trans (B1.mono (hB0 _ _).size)
      have hcell : w1.cell? ⟨w.heap.size, 0, none⟩ = some (.slice (some ⟨b, off, none⟩) n cap) := by
        rw [B1.cell (p := ⟨w.heap.size, 0, none⟩) (by simp; omega)]
        simp
      have hcell2 : w1.cell? ⟨w.heap.size + 1, 0, none⟩ = some (.int .i64 t) := by
        rw [B1.cell (p := ⟨w.heap.size + 1, 0, none⟩) (by simp)]
        simp
      have hw1 : w.heap.size + 1 < w1.heap.size := by have := B1.size; simp at this; omega
      have HF := foldWin_any _ zs b (.pointer (some ⟨w.heap.size, 0, none⟩)) (.pointer (some ⟨w.heap.size + 1, 0, none⟩)) (fun k => (winsAt zs t k : Int)) w1 (HR.out _ B) (by rw [← Hn.out]; exact hl) (fun k hk wx hbx => by
        have := winStep_any zs b off n cap w.heap.size (w.heap.size + 1) t (winsAt zs t k) k wx (HCl.out _ (B.trans (hbx.mono B.size))) Hn.out hl (by have := winsAt_le zs t k; have := Hn.out; omega) (by rw [Hn.out]; exact hk)
          (by rw [hbx.cell (p := ⟨w.heap.size, 0, none⟩) (by show w.heap.size < _; omega)]; exact hcell) (by rw [hbx.cell (p := ⟨w.heap.size + 1, 0, none⟩) hw1]; exact hcell2)
        exact this)
      rw [← Hn.out] at HF
      have HF := Lib.hid HF
      clear B1
      go_wp2_with fail
      refine HF.out.mono ?_
      rintro e w2 ⟨rfl, B2⟩
      replace B := B.trans (B2.mono B.size)
      go_wp2_with fail
      go_ret
      exact ⟨by rw [Hr.out, Hn.out]; rfl, B⟩

set_option maxRecDepth 100000 in
set_option maxHeartbeats 1000000 in
theorem sWinnerOf_any (v : Value) (zs : List Int) (b : Nat) (t : Int) (w : World) (h : RdAt .i64 w v zs b) (hl : zs.length ≤ 1099511627776) :
    Calls Tryd.prog 52 #[v, .int .i64 t] w fun e w' => e = .returned (.int .i64 (winnerOf zs t)) ∧ Below w.heap.size w w' := by
  have HI := sIsHand_any v zs b w h (by omega)
  rcases h.open with ⟨rfl, a, cap, rfl, -⟩ | ⟨hz, off, cap, rfl, -, hc⟩
  · clear HI
    go_enter Tryd.func52, Tryd.ntmps52
    go_wp2_with fail
    go_ret
    exact ⟨by rw [winner_0]; rfl, Below.refl _ _⟩
  · cases e1 : isHand zs with
    | false =>
      rw [e1] at HI
      have Hr := Lib.hid (winner_1 t e1)
      have HI := Lib.hid HI
      obtain ⟨n, hn⟩ : ∃ n, n = zs.length := ⟨_, rfl⟩
      have hnp : 0 < n := by have := List.length_pos_iff.2 hz; omega
      have hne : ¬ n = 0 := by omega
      have hn0 : ((n : Int) == 0) = false := by simp; omega
      rw [← hn] at hl HI ⊢
      clear hc h e1 hn hz
      go_enter Tryd.func52, Tryd.ntmps52
      go_wp2_with fail
      refine HI.out.mono ?_
      rintro e w1 ⟨rfl, B⟩
      go_wp2_with fail
      go_ret
      exact ⟨by rw [Hr.out]; rfl, B⟩
    | true =>
      rw [e1] at HI
      have Hr := Lib.hid (winner_2 t e1 hz)
      have HI := Lib.hid HI
      have hlt := h.lt hz
      have HC0 : Hid (isCard (zs.getD 0 0) = true) := Lib.hid (by
        have hp := List.length_pos_iff.2 hz
        unfold isHand at e1
        simp only [decide_eq_true_eq] at e1
        have := (e1 0 hp).1
        simpa [List.getD, hp] using this)
      obtain ⟨n, hn⟩ : ∃ n, n = zs.length := ⟨_, rfl⟩
      have Hn := Lib.hid hn
      have hnp : 0 < n := by have := List.length_pos_iff.2 hz; omega
      have hne : ¬ n = 0 := by omega
      have hn0 : ((n : Int) == 0) = false := by simp; omega
      have HCl : Hid (∀ wx, Below w.heap.size w wx → ∀ j, j < n → wx.cell? ⟨b, off + j, none⟩ = some (.int .i64 (zs.getD j 0))) := Lib.hid (fun wx hb j hj => by rw [World.cell?_of_block (w := w) (a := ⟨b, off + j, none⟩) (hb.block _ hlt), hc j (by omega)]; simp [List.getD, show j < zs.length by omega])
      have Hw1 : Hid (winsAt zs t 1 = 0) := Lib.hid (by simp [winsAt])
      rw [← hn] at hl HI ⊢
      clear hc h e1 hz hn
      go_enter Tryd.func52, Tryd.ntmps52
      go_wp2_with fail
      refine HI.out.mono ?_
      rintro e w1 ⟨rfl, B⟩
      clear HI
      go_wp2_with fail
      go_loopw [5, 6] (fun m i wr => ∃ k x : Nat, 1 ≤ k ∧ k ≤ n ∧ i = .int .i64 k ∧ m = .int .i64 x ∧ Hid (x = winsAt zs t k) ∧ x < n ∧ Below w.heap.size w wr) (fun _ i _ => n - (intOf i).toNat)
      case atStart => exact ⟨1, 0, Nat.le_refl _, hnp, rfl, rfl, Lib.hid Hw1.out.symm, hnp, B⟩
      case round =>
        clear B
        obtain ⟨k, x, hk1, hk, rfl, rfl, hx, hxn, B⟩ := hrel
        by_cases hlt2 : k < n
        · obtain ⟨y, hy⟩ : ∃ y, y = zs.getD k 0 := ⟨_, rfl⟩
          obtain ⟨u, hu⟩ : ∃ u, u = zs.getD x 0 := ⟨_, rfl⟩
          have h1 := HCl.out wr B k hlt2
          have h2 := HCl.out wr B x hxn
          rw [← hy] at h1
          rw [← hu] at h2
          have hkz : (0 : Int) ≤ (k : Int) := by omega
          have hkn : (k : Int) < (n : Int) := by omega
          have hmz : (0 : Int) ≤ (x : Int) := by omega
          have hmn : (x : Int) < (n : Int) := by omega
          cases e1 : beats y u t with
          | true =>
            have hx2 : Hid (k = winsAt zs t (k + 1)) := Lib.hid (by rw [winsAt, ← hx.out, ← hy, ← hu, e1]; rfl)
            clear hy hu
            go_wp2_with fail
            go_quiet ((go_at_call 71; exact Calls.quiet_of_same (flip_same (sBeats_any _ _ _ _) (congrArg Value.bool e1))))
            go_wp2_with fail
            go_roundw
            case rel => exact ⟨k + 1, k, by omega, by omega, by go_num, rfl, hx2, hlt2, below_drewN B _⟩
            case measure => simp [intOf]; omega
          | false =>
            have hx2 : Hid (x = winsAt zs t (k + 1)) := Lib.hid (by rw [winsAt, ← hx.out, ← hy, ← hu, e1]; rfl)
            clear hy hu
            go_wp2_with fail
            go_quiet ((go_at_call 71; exact Calls.quiet_of_same (flip_same (sBeats_any _ _ _ _) (congrArg Value.bool e1))))
            go_wp2_with fail
            go_roundw
            case rel => exact ⟨k + 1, x, by omega, by omega, by go_num, rfl, hx2, hxn, below_drewN B _⟩
            case measure => simp [intOf]; omega
        · obtain rfl : k = n := by omega
          go_wp2_with fail
          go_ret
          exact ⟨by rw [Hr.out, ← Hn.out, ← hx.out]; rfl, B⟩
end Go.Proofs.YtbojhbhniollaaaDoor
