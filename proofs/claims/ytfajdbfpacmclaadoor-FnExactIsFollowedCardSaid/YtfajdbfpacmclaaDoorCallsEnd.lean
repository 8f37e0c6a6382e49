/-
  CallsEnd by contract, both sides.
-/
import Derived.Test.YtfajdbfpacmclaaDoorMarksI
namespace Go.Proofs.YtfajdbfpacmclaaDoor
open Go.RowKit

/-- How many noughts stand at the end of the first k. -/
def pz (zs : List Int) : Nat → Nat
  | 0 => 0
  | k + 1 => if zs.getD k 0 = 0 then pz zs k + 1 else 0
theorem pz_le (zs : List Int) : ∀ k, pz zs k ≤ k
  | 0 => Nat.le_refl _
  | k + 1 => by have := pz_le zs k; rw [pz]; split <;> omega
theorem pz_zero (zs : List Int) : ∀ k j, j < pz zs k → zs.getD (k - 1 - j) 0 = 0
  | 0, j, h => by simp [pz] at h
  | k + 1, j, h => by
    rw [pz] at h
    split at h
    · rename_i h0
      cases j with
      | zero => simpa using h0
      | succ j =>
        have := pz_zero zs k j (by omega)
        rw [show k + 1 - 1 - (j + 1) = k - 1 - j by omega]; exact this
    · omega
theorem pz_stop (zs : List Int) : ∀ k, pz zs k < k → zs.getD (k - 1 - pz zs k) 0 ≠ 0
  | 0, h => by simp at h
  | k + 1, h => by
    rw [pz] at h ⊢
    split
    · rename_i h0
      rw [if_pos h0] at h
      have := pz_stop zs k (by omega)
      rw [show k + 1 - 1 - (pz zs k + 1) = k - 1 - pz zs k by omega]; exact this
    · rename_i h0; simpa using h0
def endB (p c n : Int) : Bool := if n = c then decide (p ≤ n) else decide (p - 1 ≤ n)
def callsEnd (p : Int) (zs : List Int) : Bool := decide (1 ≤ p) && endB p zs.length (pz zs zs.length)

theorem cell_blk {w : World} {b : Nat} {c : Array Value} {t : TypeId} {fr : Nat × Nat} (h : w.heap[b]? = some (.cells c t fr)) (i : Nat) : w.cell? ⟨b, i, none⟩ = c[i]? := by
  simp [World.cell?, h]
theorem frozen_blk {w : World} {b : Nat} {c : Array Value} {t : TypeId} (h : w.heap[b]? = some (.cells c t (0, 0))) (i : Nat) : w.frozen? ⟨b, i, none⟩ = false := by
  simp [World.frozen?, h]
theorem set52 {w : World} {b : Nat} {x y z u v : Value} {t : TypeId} {fr : Nat × Nat} (h : w.heap[b]? = some (.cells #[x, y, z, u, v] t fr)) (q : Value) : (w.setCell ⟨b, 2, none⟩ q).heap[b]? = some (.cells #[x, y, q, u, v] t fr) := by
  simp [World.setCell, Array.getElem?_modify, h]
theorem int_of_wf {p : Int} (h : (Lit.int .i64 p).wf = true) : -9223372036854775808 ≤ p ∧ p ≤ 9223372036854775807 := by
  simpa [Lit.wf, IntKind.min, IntKind.max, IntKind.signed, IntKind.bits] using h

theorem start_blk (w : World) (o : Obj) : (w.alloc o).heap[w.heap.size]? = some o := by
  show (w.heap.push o)[w.heap.size]? = _
  simp

/-- The state of a bidding, as it lies in memory. -/
def Bid (w : World) (blk : Nat) (p c n : Int) : Prop :=
  w.cell? ⟨blk, 0, none⟩ = some (.int .i64 p) ∧ w.cell? ⟨blk, 1, none⟩ = some (.int .i64 c) ∧ w.cell? ⟨blk, 2, none⟩ = some (.int .i64 n)

set_option maxRecDepth 100000 in
theorem isEnd_any (blk : Nat) (p c n : Int) (w : World) (h : Bid w blk p c n) (hp : 1 ≤ p ∧ p ≤ 9223372036854775807) :
    Calls Tryd.prog 31 #[.pointer (some ⟨blk, 0, none⟩)] w fun e w' => e = .returned (.bool (endB p c n)) ∧ ∃ q, w' = w.drewN q := by
  obtain ⟨h0, h1, h2⟩ := h
  by_cases hc : n = c
  · have Hr : Hid (endB p c n = decide (p ≤ n)) := Lib.hid (if_pos hc)
    have hq : (n == c) = true := by simpa using hc
    clear hc
    go_enter Tryd.func31, Tryd.ntmps31
    go_wp2_with fail
    go_quiet (fail)
    go_wp2_with fail
    go_quiet (fail)
    go_wp2_with fail
    go_ret
    exact ⟨by rw [Hr.out]; rfl, _, World.drewN_drewN _ _ _⟩
  · have Hr : Hid (endB p c n = decide (p - 1 ≤ n)) := Lib.hid (if_neg hc)
    have hq : (n == c) = false := by simpa using hc
    clear hc
    go_enter Tryd.func31, Tryd.ntmps31
    go_wp2_with fail
    go_quiet (fail)
    go_wp2_with fail
    go_quiet (fail)
    go_wp2_with fail
    go_ret
    exact ⟨by rw [Hr.out]; rfl, _, World.drewN_drewN _ _ _⟩

set_option maxRecDepth 100000 in
set_option maxHeartbeats 1000000 in
theorem callsEnd_any (p : Int) (v : Value) (zs : List Int) (b : Nat) (w : World) (h : RdAt .i64 w v zs b) (hl : zs.length ≤ 1099511627776) (wp : (Lit.int .i64 p).wf = true) :
    Calls Tryd.prog 13 #[.int .i64 p, v] w fun e w' => e = .returned (.bool (callsEnd p zs)) ∧ Below w.heap.size w w' := by
  obtain ⟨a, cap, rfl, -, -, hcell⟩ := id h
  obtain ⟨n, hn⟩ : ∃ n, n = zs.length := ⟨_, rfl⟩
  have Hn := Lib.hid hn
  have Hlt : Hid (zs ≠ [] → b < w.heap.size) := Lib.hid h.lt
  rw [← hn] at hl ⊢
  clear hn h
  obtain ⟨r, hr⟩ : ∃ r, r = callsEnd p zs := ⟨_, rfl⟩
  have Hr := Lib.hid hr
  rw [← hr]
  clear hr
  go_enter Tryd.func13, Tryd.ntmps13
  go_wp2_with fail
  go_loopw [7, 14] (fun _ i wr => ∃ k : Nat, k ≤ n ∧ i = .int .i64 k ∧ Below w.heap.size w wr ∧ wr.heap[w.heap.size]? = some (.cells #[.int .i64 p, .int .i64 n, .int .i64 (pz zs k), .int .i64 0, .int .i64 0] 42 (0, 0))) (fun _ i _ => n - (intOf i).toNat)
  case atStart => exact ⟨0, Nat.zero_le _, rfl, (Below.refl _ _).alloc (Nat.le_refl _) _, start_blk w _⟩
  case round =>
    obtain ⟨k, hk, rfl, B, hblk⟩ := hrel
    obtain ⟨m, hm⟩ : ∃ m, m = pz zs k := ⟨_, rfl⟩
    have hmk : m ≤ k := by rw [hm]; exact pz_le zs k
    rw [← hm] at hblk
    have Hm := Lib.hid hm
    by_cases hlt : k < n
    · have hz : k < zs.length := by rw [← Hn.out]; exact hlt
      rcases hcell with h0 | ⟨off, rfl, hc⟩
      · subst h0; simp at hz
      obtain ⟨y, hy⟩ : ∃ y, Hid (y = zs[k]) := ⟨_, Lib.hid rfl⟩
      have hyd : Hid (zs.getD k 0 = y) := Lib.hid (by rw [hy.out]; simp [List.getD, hz])
      have hbl : b < w.heap.size := Hlt.out (fun e => by rw [e] at hz; simp at hz)
      have h1 : wr.cell? ⟨b, off + k, none⟩ = some (.int .i64 y) := by
        rw [World.cell?_of_block (w := w) (a := ⟨b, off + k, none⟩) (B.block _ hbl), hc k hz, hy.out]
      have h2 : wr.cell? ⟨w.heap.size, 2, none⟩ = some (.int .i64 m) := cell_blk hblk 2
      have h3 : wr.frozen? ⟨w.heap.size, 2, none⟩ = false := frozen_blk hblk 2
      have B2 := B.setCell (p := ⟨w.heap.size, 2, none⟩) (Nat.le_refl _) (.int .i64 ((m : Int) + 1))
      have hblk2 := set52 hblk (.int .i64 ((m : Int) + 1))
      clear hc hbl hm B hblk
      by_cases hy0 : y = 0
      · have hq : (y != 0) = false := by simpa using hy0
        have hp2 : Hid (((pz zs (k + 1) : Nat) : Int) = (m : Int) + 1) := Lib.hid (by rw [pz, hyd.out, if_pos hy0, ← Hm.out]; simp)
        clear hy0
        go_wp2_with fail
        go_roundw
        case rel => exact ⟨k + 1, by omega, by go_num, B2, by rw [hp2.out]; exact hblk2⟩
        case measure => simp [intOf]; omega
      · have hq : (y != 0) = true := by simpa using hy0
        have hp2 : Hid (pz zs (k + 1) = 0) := Lib.hid (by rw [pz, hyd.out, if_neg hy0])
        have h4 : (wr.setCell ⟨w.heap.size, 2, none⟩ (.int .i64 ((m : Int) + 1))).frozen? ⟨w.heap.size, 2, none⟩ = false := frozen_blk hblk2 2
        have B3 := B2.setCell (p := ⟨w.heap.size, 2, none⟩) (Nat.le_refl _) (.int .i64 0)
        have hblk3 := set52 hblk2 (.int .i64 0)
        clear hy0 B2 hblk2
        go_wp2_with fail
        go_roundw
        case rel => exact ⟨k + 1, by omega, by go_num, B3, by rw [hp2.out]; exact hblk3⟩
        case measure => simp [intOf]; omega
    · obtain rfl : k = n := by omega
      have hmz : Hid (m = pz zs zs.length) := Lib.hid (by rw [hm, Hn.out])
      have hbid : Bid wr w.heap.size p k m := ⟨cell_blk hblk 0, cell_blk hblk 1, cell_blk hblk 2⟩
      clear hm hcell hblk
      by_cases hp : 1 ≤ p
      · have hq : decide (1 ≤ p) = true := by simpa using hp
        have hp9 := (int_of_wf wp).2
        have HE := Lib.hid (isEnd_any w.heap.size p k m wr hbid ⟨hp, hp9⟩)
        have hr1 : Hid (r = endB p k m) := Lib.hid (by rw [Hr.out]; unfold callsEnd; rw [hq, Bool.true_and, ← hmz.out, ← Hn.out])
        clear hbid
        go_wp2_with fail
        refine HE.out.mono ?_
        rintro e w2 ⟨rfl, q, rfl⟩
        go_wp2_with fail
        go_ret
        exact ⟨by rw [hr1.out]; rfl, below_drewN B _⟩
      · have hq : decide (1 ≤ p) = false := by simpa using hp
        have hr1 : Hid (r = false) := Lib.hid (by rw [Hr.out]; unfold callsEnd; rw [hq]; rfl)
        clear hbid
        go_wp2_with fail
        go_ret
        exact ⟨by rw [hr1.out]; rfl, B⟩

set_option maxRecDepth 100000 in
set_option maxHeartbeats 1000000 in
theorem sCallsEnd_any (p : Int) (v : Value) (zs : List Int) (b : Nat) (w : World) (h : RdAt .i64 w v zs b) (hl : zs.length ≤ 1099511627776) (wp : (Lit.int .i64 p).wf = true) :
    Calls Tryd.prog 40 #[.int .i64 p, v] w fun e w' => e = .returned (.bool (callsEnd p zs)) ∧ w = w' := by
  obtain ⟨a, cap, rfl, -, -, hcell⟩ := id h
  obtain ⟨n, hn⟩ : ∃ n, n = zs.length := ⟨_, rfl⟩
  have Hn := Lib.hid hn
  rw [← hn] at hl ⊢
  clear hn h
  obtain ⟨r, hr⟩ : ∃ r, r = callsEnd p zs := ⟨_, rfl⟩
  have Hr := Lib.hid hr
  rw [← hr]
  clear hr
  have hpr := int_of_wf wp
  obtain ⟨t, ht⟩ : ∃ t, t = pz zs zs.length := ⟨_, rfl⟩
  have htn : t ≤ n := by rw [ht, Hn.out]; exact pz_le _ _
  have Hrt : Hid (r = (decide (1 ≤ p) && endB p n t)) := Lib.hid (by rw [Hr.out, ht, Hn.out]; rfl)
  have Hz : Hid (∀ j, j < t → zs.getD (n - 1 - j) 0 = 0) := Lib.hid (fun j hj => by rw [Hn.out]; exact pz_zero zs _ j (by rw [← ht]; exact hj))
  have Hs : Hid (t < n → zs.getD (n - 1 - t) 0 ≠ 0) := Lib.hid (fun h => by rw [Hn.out, ht]; exact pz_stop zs _ (by rw [← ht, ← Hn.out]; exact h))
  clear ht wp Hr
  go_enter Tryd.func40, Tryd.ntmps40
  go_wp2_with fail
  go_loop [5] (fun i => ∃ k : Nat, k ≤ t ∧ i = .int .i64 k) (fun i => n - (intOf i).toNat)
  case atStart => exact ⟨0, Nat.zero_le _, rfl⟩
  case round =>
    obtain ⟨k, hk, rfl⟩ := hrel
    by_cases hlt : k < n
    · have hz : n - 1 - k < zs.length := by rw [← Hn.out]; omega
      rcases hcell with h0 | ⟨off, rfl, hc⟩
      · subst h0; simp at hz
      obtain ⟨y, hy⟩ : ∃ y, Hid (y = zs[n - 1 - k]) := ⟨_, Lib.hid rfl⟩
      have hyd : Hid (zs.getD (n - 1 - k) 0 = y) := Lib.hid (by rw [hy.out]; simp [List.getD, hz])
      have h1 : w.cell? ⟨b, off + (n - 1 - k), none⟩ = some (.int .i64 y) := by rw [hc _ hz, hy.out]
      clear hc
      by_cases hy0 : y = 0
      · have hq : (y == 0) = true := by simpa using hy0
        have hkt : k < t := by
          rcases Nat.lt_or_ge k t with h | h
          · exact h
          · exfalso
            obtain rfl : k = t := by omega
            exact Hs.out hlt (by rw [hyd.out]; exact hy0)
        clear hy0
        go_wp2_with fail
        go_round
        case rel => exact ⟨k + 1, by omega, by go_num⟩
        case measure => simp [intOf]; omega
      · have hq : (y == 0) = false := by simpa using hy0
        obtain rfl : k = t := by
          rcases Nat.lt_or_ge k t with h | h
          · exact absurd (by rw [← hyd.out]; exact Hz.out k h) hy0
          · omega
        have hr1 : Hid (r = (decide (1 ≤ p) && decide (p - 1 ≤ (k : Int)))) := Lib.hid (by rw [Hrt.out]; unfold endB; rw [if_neg (by omega)])
        have hnk : ((k : Int) == (n : Int)) = false := by simp; omega
        clear hy0 Hrt
        by_cases hp : 1 ≤ p
        · have hp1 : decide (1 ≤ p) = true := by simpa using hp
          by_cases hpk : p - 1 ≤ (k : Int)
          · have hr2 : Hid (r = true) := Lib.hid (by rw [hr1.out, hp1]; simpa using hpk)
            clear hr1
            go_wp2_with fail
            go_ret
            exact ⟨by rw [hr2.out]; rfl, rfl⟩
          · have hr2 : Hid (r = false) := Lib.hid (by rw [hr1.out, hp1]; simpa using hpk)
            clear hr1
            go_wp2_with fail
            go_ret
            exact ⟨by rw [hr2.out]; rfl, rfl⟩
        · have hr2 : Hid (r = false) := Lib.hid (by rw [hr1.out]; simp; omega)
          clear hr1
          by_cases hm : p = -9223372036854775808
          · obtain ⟨u, hu⟩ : ∃ u, u = wrap64 (-9223372036854775809) := ⟨_, rfl⟩
            have hu2 : ¬ u ≤ (k : Int) := by rw [hu, show wrap64 (-9223372036854775809) = 9223372036854775807 from by decide +kernel]; omega
            subst hm
            go_wp2_with fail
            all_goals (rw [show wrap64 (-9223372036854775809) = 9223372036854775807 from by decide +kernel] at *; first | omega | (go_wp2_with fail; go_ret; exact ⟨by rw [hr2.out]; rfl, rfl⟩))
          · go_wp2_with fail
            go_ret
            exact ⟨by rw [hr2.out]; rfl, rfl⟩
    · obtain rfl : k = n := by omega
      obtain rfl : k = t := by omega
      have hr1 : Hid (r = (decide (1 ≤ p) && decide (p ≤ (k : Int)))) := Lib.hid (by rw [Hrt.out]; unfold endB; rw [if_pos rfl])
      clear Hrt
      by_cases hp : 1 ≤ p
      · have hp1 : decide (1 ≤ p) = true := by simpa using hp
        have hr2 : Hid (r = decide (p ≤ (k : Int))) := Lib.hid (by rw [hr1.out, hp1]; simp)
        clear hr1
        go_wp2_with fail
        go_ret
        exact ⟨by rw [hr2.out]; rfl, rfl⟩
      · have hr2 : Hid (r = false) := Lib.hid (by rw [hr1.out]; simp; omega)
        clear hr1
        go_wp2_with fail
        go_ret
        exact ⟨by rw [hr2.out]; rfl, rfl⟩
end Go.Proofs.YtfajdbfpacmclaaDoor
