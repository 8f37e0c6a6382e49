/-
  What is left in a deal: playedInTrick and hasWhatIsLeft, the program's side.
-/
import Derived.Test.YtbojhbhniollaaaDoorSDeal
import Derived.Test.YtbojhbhniollaaaDoorIn
import Derived.Test.YtbojhbhniollaaaDoorArith
import Derived.BigQuiet
import Derived.Deep.QuietTactic
namespace Go.Proofs.YtbojhbhniollaaaDoor
open Go.RowKit

def playedI (D : MDeal) (i : Int) : Int := if modI (i - D.leader) D.hands.length < D.trick.length then 1 else 0
theorem playedI_bd (D : MDeal) (i : Int) : 0 ≤ playedI D i ∧ playedI D i ≤ 1 := by unfold playedI; split <;> omega

set_option linter.unusedVariables false in
set_option maxRecDepth 100000 in
set_option maxHeartbeats 1000000 in
theorem playedInTrick_any (a0 a1 : Addr) (v : Value) (D : MDeal) (i : Int) (w : World) (h : RdDeal w v D) (hf : D.Few) (i0 : 0 ≤ i) (i1 : i ≤ 4) (l0 : 0 ≤ D.leader) (l1 : D.leader ≤ 4) (hS : Sent a0 a1 w) :
    Calls Tryd.prog 90 #[v, .int .i64 i] w fun e w' => e = .returned (.int .i64 (playedI D i)) ∧ Below w.heap.size w w' := by
  obtain ⟨v0, v3, v4, v5, b3, b4, b5, rfl, h0, h3, h4, h5, wf1, wf2, wf6⟩ := h
  obtain ⟨f0, fs0, f3, f4, f5⟩ := hf
  obtain ⟨p0, c0, e0, -⟩ := id h0
  obtain ⟨p3, c3, e3, -⟩ := id h3
  subst e0 e3
  have B0 := fun o => (Below.refl w.heap.size w).alloc (Nat.le_refl _) o
  unfold playedI
  obtain ⟨n, hn⟩ : ∃ n, n = D.hands.length := ⟨_, rfl⟩
  obtain ⟨m, hm⟩ : ∃ m, m = D.trick.length := ⟨_, rfl⟩
  obtain ⟨l, hl⟩ : ∃ l, l = D.leader := ⟨_, rfl⟩
  rw [← hn] at f0 ⊢
  rw [← hm] at f3 ⊢
  rw [← hl] at l0 l1 ⊢
  clear hn hm hl h0 h3 h4 h5 wf1
  obtain ⟨W0, hW0⟩ : ∃ W0, w.alloc (.cells #[.slice p0 n c0, .int .i64 l, .int .i64 D.trump, .slice p3 m c3, v4, v5, .int .i64 D.left] 31) = W0 := ⟨_, rfl⟩
  have hbx : W0.heap[w.heap.size]? = some (.cells #[.slice p0 n c0, .int .i64 l, .int .i64 D.trump, .slice p3 m c3, v4, v5, .int .i64 D.left] 31 (0, 0)) := by rw [← hW0]; exact heap_alloc_new w _
  obtain ⟨k0, k1, k2, k3, k4, k5, k6⟩ := SDeal_cells hbx
  have hB0 : Below w.heap.size w W0 := by rw [← hW0]; exact B0 _
  have hS0 : Sent a0 a1 W0 := hS.below hB0 (Nat.le_refl _)
  have hw : IntKind.i64.wrap (i - l) = i - l := IntWalk.i64_in _ (by omega)
  obtain ⟨q, hq⟩ : ∃ q, modI (i - l) n = q := ⟨_, rfl⟩
  have HM := Lib.hid (fun N => mod_any a0 a1 (i - l) n (W0.drewN N) (WalkArith.wf_i64 (by omega)) ⟨hS0.v0, hS0.v1, hS0.apart, hS0.b0, hS0.b1⟩)
  rw [hq] at HM ⊢
  clear hq hbx hS hS0
  by_cases ht : q < m
  · rw [if_pos ht]
    go_enter Tryd.func90, Tryd.ntmps90
    go_wp2_with fail
    go_quiet ((go_at_call 74; exact Calls.quiet_of_same (flip_same (HM.out _) rfl)))
    go_wp2_with fail
    go_ret
    exact ⟨rfl, ⟨hB0.os, hB0.tape, hB0.output, hB0.size, hB0.block⟩⟩
  · rw [if_neg ht]
    go_enter Tryd.func90, Tryd.ntmps90
    go_wp2_with fail
    go_quiet ((go_at_call 74; exact Calls.quiet_of_same (flip_same (HM.out _) rfl)))
    go_wp2_with fail
    go_ret
    exact ⟨rfl, ⟨hB0.os, hB0.tape, hB0.output, hB0.size, hB0.block⟩⟩

/-- The k-th player's numbers are in order. -/
def wonOK (D : MDeal) (k : Nat) : Prop := (0 ≤ D.won.getD k 0 ∧ D.won.getD k 0 ≤ D.left) ∧ 0 ≤ D.points.getD k 0
def handOK (D : MDeal) (k : Nat) : Prop := ((D.hands.getD k []).length : Int) + playedI D k = D.left - D.won.sum
instance (D : MDeal) (k : Nat) : Decidable (wonOK D k) := by unfold wonOK; infer_instance
instance (D : MDeal) (k : Nat) : Decidable (handOK D k) := by unfold handOK; infer_instance
def leftOK (D : MDeal) : Bool := decide (∀ k, k < D.hands.length → wonOK D k) && decide (∀ k, k < D.hands.length → handOK D k)
theorem leftOK_no1 {D : MDeal} {k : Nat} (hk : k < D.hands.length) (h : ¬ wonOK D k) : leftOK D = false := by
  unfold leftOK
  rw [decide_eq_false (fun H => h (H k hk)), Bool.false_and]
theorem leftOK_no2 {D : MDeal} {k : Nat} (hk : k < D.hands.length) (h : ¬ handOK D k) : leftOK D = false := by
  unfold leftOK
  rw [decide_eq_false (p := ∀ k, k < D.hands.length → handOK D k) (fun H => h (H k hk)), Bool.and_false]
theorem leftOK_yes {D : MDeal} (h1 : ∀ k, k < D.hands.length → wonOK D k) (h2 : ∀ k, k < D.hands.length → handOK D k) : leftOK D = true := by
  unfold leftOK
  rw [decide_eq_true h1, decide_eq_true h2]; rfl
theorem sum_takeI (zs : List Int) (k : Nat) (h : k < zs.length) : (zs.take (k + 1)).sum = (zs.take k).sum + zs.getD k 0 := by
  rw [List.take_succ_eq_append_getElem h, List.sum_append, List.getD_eq_getElem?_getD, List.getElem?_eq_getElem h]; simp
theorem sum_bd (zs : List Int) (L : Int) (k : Nat) (hk : k ≤ zs.length) (h : ∀ j, j < k → 0 ≤ zs.getD j 0 ∧ zs.getD j 0 ≤ L) : 0 ≤ (zs.take k).sum ∧ (zs.take k).sum ≤ k * L := by
  induction k with
  | zero => simp
  | succ k ih =>
    have h1 := ih (by omega) (fun j hj => h j (by omega))
    have h2 := h k (by omega)
    rw [sum_takeI zs k (by omega)]
    constructor
    · omega
    · have : ((k + 1 : Nat) : Int) * L = k * L + L := by rw [Int.natCast_add, Int.add_mul]; omega
      omega
theorem rd_at {w : World} {v : Value} {zs : List Int} {b : Nat} (h : RdAt .i64 w v zs b) {k : Nat} (hk : k < zs.length) : ∃ off cap, v = .slice (some ⟨b, off, none⟩) zs.length cap ∧ ∀ W, Below w.heap.size w W → W.cell? ⟨b, off + k, none⟩ = some (.int .i64 (zs.getD k 0)) := by
  rcases h.open with ⟨h0, -⟩ | ⟨-, off, cap, rfl, -, hc⟩
  · rw [h0] at hk; simp at hk
  · refine ⟨off, cap, rfl, fun W hW => ?_⟩
    have h1 := (hc k hk)
    rw [hW.cell (p := ⟨b, off + k, none⟩) (World.block_lt_of_cell? _ _ h1), h1, List.getD_eq_getElem?_getD, List.getElem?_eq_getElem hk]
    rfl

set_option linter.unusedVariables false in
set_option maxRecDepth 100000 in
set_option maxHeartbeats 2000000 in
theorem hasWhatIsLeft_any (a0 a1 : Addr) (v : Value) (D : MDeal) (w : World) (h : RdDeal w v D) (hf : D.Few) (hn1 : 1 ≤ D.hands.length) (hn : D.hands.length ≤ 4) (hw : D.won.length = D.hands.length) (hp : D.points.length = D.hands.length)
    (l0 : 0 ≤ D.leader) (l1 : D.leader ≤ 4) (e0 : 0 ≤ D.left) (e1 : D.left ≤ 26) (hS : Sent a0 a1 w) (r : Bool) (hr : leftOK D = r) :
    Calls Tryd.prog 64 #[v] w fun e w' => e = .returned (.bool r) ∧ Below w.heap.size w w' := by
  have hD := h
  obtain ⟨v0, v3, v4, v5, b3, b4, b5, rfl, h0, h3, h4, h5, wf1, wf2, wf6⟩ := h
  obtain ⟨off4, c4, rfl, -⟩ := rd_at (k := 0) h4 (by omega)
  obtain ⟨off5, c5, rfl, -⟩ := rd_at (k := 0) h5 (by omega)
  have H4 : Hid (∀ k, k < D.hands.length → ∀ W, Below w.heap.size w W → W.cell? ⟨b4, off4 + k, none⟩ = some (.int .i64 (D.won.getD k 0))) := Lib.hid (fun k hk W hW => by
    obtain ⟨o, c, e, hc⟩ := rd_at h4 (k := k) (by omega)
    cases e; exact hc W hW)
  have H5 : Hid (∀ k, k < D.hands.length → ∀ W, Below w.heap.size w W → W.cell? ⟨b5, off5 + k, none⟩ = some (.int .i64 (D.points.getD k 0))) := Lib.hid (fun k hk W hW => by
    obtain ⟨o, c, e, hc⟩ := rd_at h5 (k := k) (by omega)
    cases e; exact hc W hW)
  have H0 : Hid (∀ W, Below w.heap.size w W → RdRows .i64 W v0 D.hands) := Lib.hid (fun W hW => h0.below hW)
  obtain ⟨p0, c0, q0, -⟩ := id h0
  subst q0
  have B0 := fun o => (Below.refl w.heap.size w).alloc (Nat.le_refl _) o
  obtain ⟨n, hnn⟩ : ∃ n, n = D.hands.length := ⟨_, rfl⟩
  have HN := Lib.hid hnn
  obtain ⟨L, hLL⟩ : ∃ L, L = D.left := ⟨_, rfl⟩
  have HL := Lib.hid hLL
  obtain ⟨W0, hW0⟩ : ∃ W0, w.alloc (.cells #[.slice p0 n c0, .int .i64 D.leader, .int .i64 D.trump, v3, .slice (some ⟨b4, off4, none⟩) n c4, .slice (some ⟨b5, off5, none⟩) n c5, .int .i64 L] 31) = W0 := ⟨_, rfl⟩
  have hbx : W0.heap[w.heap.size]? = some (.cells #[.slice p0 n c0, .int .i64 D.leader, .int .i64 D.trump, v3, .slice (some ⟨b4, off4, none⟩) n c4, .slice (some ⟨b5, off5, none⟩) n c5, .int .i64 L] 31 (0, 0)) := by rw [← hW0]; exact heap_alloc_new w _
  have hB0 : Below w.heap.size w W0 := by rw [← hW0]; exact B0 _
  obtain ⟨k0, k1, k2, k3, k4, k5, k6⟩ := SDeal_cells hbx
  have HP := Lib.hid (fun (i : Int) W (hW : Below w.heap.size w W) (i0 : 0 ≤ i) (i1 : i ≤ 4) => playedInTrick_any a0 a1 _ D i W (hD.below hW) hf i0 i1 l0 l1 (hS.below hW (Nat.le_refl _)))
  rw [hw, ← hnn] at HP
  rw [hp, ← hnn] at HP
  rw [← hLL] at HP e0 e1
  rw [← hnn] at hn hn1
  rw [hw, hp, ← hnn, ← hLL]
  rw [← hnn] at H4 H5 H0
  have Hwl : Hid (D.won.length = n) := Lib.hid (by omega)
  clear hD h0 h3 h4 h5 wf1 wf2 wf6 hS hnn hLL hw hp
  have Hr := Lib.hid hr
  clear hr
  go_enter Tryd.func64, Tryd.ntmps64
  go_wp2_with fail
  go_loopw [3, 4, 12] (fun lf _ i wr => ∃ k : Nat, k ≤ n ∧ i = .int .i64 k ∧ lf = .int .i64 (L - (D.won.take k).sum) ∧ Hid (∀ j, j < k → wonOK D j) ∧ Below w.heap.size w wr ∧ wr.heap[w.heap.size]? = some (.cells #[.slice p0 n c0, .int .i64 D.leader, .int .i64 D.trump, v3, .slice (some ⟨b4, off4, none⟩) n c4, .slice (some ⟨b5, off5, none⟩) n c5, .int .i64 L] 31 (0, 0))) (fun _ _ i _ => n - (intOf i).toNat)
  case atStart => exact ⟨0, Nat.zero_le _, rfl, by simp, Lib.hid (fun j hj => by omega), hB0, hbx⟩
  case round =>
    obtain ⟨k, hk, rfl, rfl, hok, hB, hbr⟩ := hrel
    clear k0 k1 k2 k3 k4 k5 k6
    obtain ⟨k0, k1, k2, k3, k4, k5, k6⟩ := SDeal_cells hbr
    by_cases hlt : k < n
    · have hsb := sum_bd D.won L k (by rw [Hwl.out]; omega) (fun j hj => by have := (hok.out j hj).1; rw [← HL.out] at this; exact this)
      have hcx := H4.out k hlt wr hB
      have hcy := H5.out k hlt wr hB
      have hst := sum_takeI D.won k (by rw [Hwl.out]; exact hlt)
      obtain ⟨x, hx⟩ : ∃ x, D.won.getD k 0 = x := ⟨_, rfl⟩
      obtain ⟨y, hy⟩ : ∃ y, D.points.getD k 0 = y := ⟨_, rfl⟩
      obtain ⟨S, hS⟩ : ∃ S, (D.won.take k).sum = S := ⟨_, rfl⟩
      rw [hx] at hcx
      rw [hy] at hcy
      rw [hS] at hsb ⊢
      rw [hx, hS] at hst
      have hkL : (k : Int) * L ≤ 104 := by
        have h1 : (k : Int) * L ≤ 4 * 26 := Int.mul_le_mul (by omega) e1 e0 (by omega)
        omega
      have hkn : (k : Int) < (n : Int) := by omega
      have Hst := Lib.hid hst
      have Hno : Hid (¬ wonOK D k → leftOK D = false) := Lib.hid (fun h => leftOK_no1 (by rw [← HN.out]; exact hlt) h)
      have Hwk : Hid (wonOK D k ↔ (0 ≤ x ∧ x ≤ L) ∧ 0 ≤ y) := Lib.hid (by unfold wonOK; rw [hx, hy, ← HL.out])
      have Hbr := Lib.hid hbr
      clear hst hx hy hS hbr
      by_cases hin : 0 ≤ x ∧ x ≤ L
      · have HI := Lib.hid (fun wx => inR_any x 0 L wx true (by rw [decide_eq_true hin]))
        obtain ⟨hx0, hx1⟩ := hin
        by_cases hy0 : y < 0
        · go_wp2_with fail
          go_quiet ((go_at_call 38; exact Calls.quiet_of_same (flip_same (HI.out _) rfl)))
          go_wp2_with fail
          go_ret
          exact ⟨by rw [← Hr.out, Hno.out (fun h => by have := (Hwk.out.1 h).2; omega)]; rfl, ⟨hB.os, hB.tape, hB.output, hB.size, hB.block⟩⟩
        · have hw1 : IntKind.i64.wrap (L - S - x) = L - S - x := IntWalk.i64_in _ (by omega)
          go_wp2_with fail
          go_quiet ((go_at_call 38; exact Calls.quiet_of_same (flip_same (HI.out _) rfl)))
          go_wp2_with fail
          refine ⟨⟨k + 1, by omega, by go_num, congrArg (Value.int .i64) (by rw [Hst.out]; omega), Lib.hid (fun j hj => ?_), ⟨hB.os, hB.tape, hB.output, hB.size, hB.block⟩, Hbr.out⟩, by simp [intOf]; omega⟩
          by_cases hjk : j < k
          · exact hok.out j hjk
          · obtain rfl : j = k := by omega
            exact Hwk.out.2 ⟨⟨hx0, hx1⟩, by omega⟩
      · have HI := Lib.hid (fun wx => inR_any x 0 L wx false (by rw [decide_eq_false hin]))
        go_wp2_with fail
        go_quiet ((go_at_call 38; exact Calls.quiet_of_same (flip_same (HI.out _) rfl)))
        go_wp2_with fail
        go_ret
        exact ⟨by rw [← Hr.out, Hno.out (fun h => hin (Hwk.out.1 h).1)]; rfl, ⟨hB.os, hB.tape, hB.output, hB.size, hB.block⟩⟩
    · obtain rfl : k = n := by omega
      have hkn : ¬ (k : Int) < (k : Int) := by omega
      obtain ⟨T, hT⟩ : ∃ T, L - (D.won.take k).sum = T := ⟨_, rfl⟩
      have HT : Hid (T = D.left - D.won.sum) := Lib.hid (by rw [← hT, HL.out, List.take_of_length_le (by rw [Hwl.out]; exact Nat.le_refl _)])
      have hsb := sum_bd D.won L k (by rw [Hwl.out]; omega) (fun j hj => by have := (hok.out j hj).1; rw [← HL.out] at this; exact this)
      have hkL : (k : Int) * L ≤ 104 := by
        have h1 : (k : Int) * L ≤ 4 * 26 := Int.mul_le_mul (by omega) e1 e0 (by omega)
        omega
      have hTb : -104 ≤ T ∧ T ≤ 26 := by omega
      rw [hT]
      have Hok1 : Hid (∀ j, j < D.hands.length → wonOK D j) := Lib.hid (by rw [← HN.out]; exact hok.out)
      clear hT hsb hkL hok
      go_wp2_with fail
      go_loopw [5, 6, 43] (fun _ _ i wr2 => ∃ j : Nat, j ≤ k ∧ i = .int .i64 j ∧ Hid (∀ q, q < j → handOK D q) ∧ Below w.heap.size w wr2 ∧ wr2.heap[w.heap.size]? = some (.cells #[.slice p0 k c0, .int .i64 D.leader, .int .i64 D.trump, v3, .slice (some ⟨b4, off4, none⟩) k c4, .slice (some ⟨b5, off5, none⟩) k c5, .int .i64 L] 31 (0, 0))) (fun _ _ i _ => k - (intOf i).toNat)
      case atStart => exact ⟨0, Nat.zero_le _, rfl, Lib.hid (fun j hj => by omega), hB, hbr⟩
      case round =>
        obtain ⟨j, hj, rfl, hok, hB2, hbr2⟩ := hrel
        clear k0 k1 k2 k3 k4 k5 k6
        obtain ⟨k0, k1, k2, k3, k4, k5, k6⟩ := SDeal_cells hbr2
        by_cases hlt : j < k
        · have hz : j < D.hands.length := by rw [← HN.out]; exact hlt
          obtain ⟨blk, off, cap', p, c, b, hv, hc, -, -⟩ := (H0.out _ hB2).row hz
          have ha := (Value.slice.inj hv).1
          clear hv
          subst ha
          have hml := len_le_sum D.hands hz
          have hfs := hf.2.1
          have Hhk : Hid (handOK D j ↔ ((D.hands[j].length : Nat) : Int) + playedI D j = T) := Lib.hid (by unfold handOK; rw [← HT.out, List.getD_eq_getElem?_getD, List.getElem?_eq_getElem hz]; rfl)
          have hpb := playedI_bd D j
          have HP2 := Lib.hid (HP.out (j : Int) _ hB2 (by omega) (by omega))
          obtain ⟨m, hm⟩ : ∃ m, D.hands[j].length = m := ⟨_, rfl⟩
          obtain ⟨pl, hpl⟩ : ∃ pl, playedI D j = pl := ⟨_, rfl⟩
          rw [hm] at hc hml Hhk
          rw [hpl] at Hhk hpb HP2
          have hkj : (j : Int) < (k : Int) := by omega
          have hw1 : IntKind.i64.wrap ((m : Int) + pl) = (m : Int) + pl := IntWalk.i64_in _ (by omega)
          have Hbr2 := Lib.hid hbr2
          clear hm hpl hbr2
          by_cases heq : (m : Int) + pl = T
          · go_wp2_with fail
            refine HP2.out.mono ?_
            rintro e w' ⟨rfl, hBp⟩
            have hB3 := hB2.trans (hBp.mono hB2.size)
            have Hbr3 : Hid (w'.heap[w.heap.size]? = some (.cells #[.slice (some ⟨blk, off, none⟩) k c0, .int .i64 D.leader, .int .i64 D.trump, v3, .slice (some ⟨b4, off4, none⟩) k c4, .slice (some ⟨b5, off5, none⟩) k c5, .int .i64 L] 31 (0, 0))) := Lib.hid ((hBp.block w.heap.size (Array.getElem?_eq_some_iff.1 Hbr2.out).1).trans Hbr2.out)
            go_wp2_with fail
            refine ⟨⟨j + 1, by omega, by go_num, Lib.hid (fun q hq => ?_), hB3, Hbr3.out⟩, by simp [intOf]; omega⟩
            by_cases hqj : q < j
            · exact hok.out q hqj
            · obtain rfl : q = j := by omega
              exact Hhk.out.2 heq
          · go_wp2_with fail
            refine HP2.out.mono ?_
            rintro e w' ⟨rfl, hBp⟩
            go_wp2_with fail
            go_ret
            exact ⟨by rw [← Hr.out, leftOK_no2 hz (fun h => heq (Hhk.out.1 h))]; rfl, hB2.trans (hBp.mono hB2.size)⟩
        · obtain rfl : j = k := by omega
          have hkj : ¬ (j : Int) < (j : Int) := by omega
          go_wp2_with fail
          go_ret
          exact ⟨by rw [← Hr.out, leftOK_yes Hok1.out (by rw [← HN.out]; exact hok.out)]; rfl, hB2⟩
end Go.Proofs.YtbojhbhniollaaaDoor
