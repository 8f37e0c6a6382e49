/-
  Games, the model's side: l24First, l24Over, Winner, IsEnded, IsDrawn, MovesLeft.
-/
import Derived.Test.YtbeodaelbjgmeaaDoorGameS
namespace Go.Proofs.YtbeodaelbjgmeaaDoor
open Go.RowKit
set_option linter.unusedVariables false
set_option linter.unusedSimpArgs false

set_option maxRecDepth 100000 in
set_option maxHeartbeats 1000000 in
theorem sFirst_any (v : Value) (D : MGame) (w : World) (h : RdGame w v D) (hf : D.Few) :
    Calls Tryd.prog 43 #[v] w fun e w' => e = .returned (.int .i64 (firstOut D.hands)) ∧ Below w.heap.size w w' := by
  obtain ⟨p4, p5, p8, p9, p10, c4, c5, c8, c9, c10, b9, b10, rfl, h0, h8, h9, h10, wf0, wf1, wf2⟩ := h
  obtain ⟨f0, f8, fs8, f9, f10⟩ := hf
  have Hrow := Lib.hid (fun wx (hb : Below w.heap.size w wx) j (hj : j < D.hands.length) => (h8.below hb).row hj)
  have Hsum : Hid (∀ j (hj : j < D.hands.length), D.hands[j].length ≤ 1048576) := Lib.hid (fun j hj => Nat.le_trans (len_le_sum D.hands hj) fs8)
  obtain ⟨n, hn⟩ : ∃ n, n = D.hands.length := ⟨_, rfl⟩
  have Hn := Lib.hid hn
  obtain ⟨W0, hW0⟩ : ∃ W0, W0 = w.alloc (.cells #[.int .i64 D.rules.players, .int .i64 D.rules.each, .bool D.rules.sameSuit, .bool D.rules.sameRank, .slice p4 D.rules.wild.length c4, .slice p5 D.rules.skip.length c5, .int .i64 D.rules.take, .int .i64 D.rules.limit, .slice p8 D.hands.length c8, .slice p9 D.stock.length c9, .slice p10 D.heap.length c10, .int .i64 D.turn, .int .i64 D.moves, .int .i64 D.passes] 32) := ⟨_, rfl⟩
  have G0 : W0.heap[w.heap.size]? = some (.cells #[.int .i64 D.rules.players, .int .i64 D.rules.each, .bool D.rules.sameSuit, .bool D.rules.sameRank, .slice p4 D.rules.wild.length c4, .slice p5 D.rules.skip.length c5, .int .i64 D.rules.take, .int .i64 D.rules.limit, .slice p8 D.hands.length c8, .slice p9 D.stock.length c9, .slice p10 D.heap.length c10, .int .i64 D.turn, .int .i64 D.moves, .int .i64 D.passes] 32 (0, 0)) := by rw [hW0]; exact heap_alloc_new _ _
  have BW0 : Below w.heap.size w W0 := by rw [hW0]; exact (Below.refl _ _).alloc (Nat.le_refl _) _
  have kk := box_cell G0 8
  simp at kk
  have HW0 := Lib.hid hW0
  obtain ⟨r, hr⟩ : ∃ r, r = firstOut D.hands := ⟨_, rfl⟩
  have Hr := Lib.hid hr
  rw [← hr]
  rw [← hn] at f8 kk
  clear hn hr hW0 h0 h8 h9 h10 f0 f9 f10 fs8 G0
  go_enter Tryd.func43, Tryd.ntmps43
  go_wp2_with fail
  rw [← HW0.out]
  go_loopw [3] (fun i wr => ∃ k : Nat, k ≤ n ∧ i = .int .i64 k ∧ W0 = wr ∧ Hid (∀ j (hj : j < D.hands.length), j < k → D.hands[j] ≠ [])) (fun i _ => n - (intOf i).toNat)
  case atStart => exact ⟨0, Nat.zero_le _, rfl, by first | trivial | rfl, Lib.hid (fun j _ h => by omega)⟩
  case round =>
    obtain ⟨k, hk, rfl, rfl, hno⟩ := hrel
    by_cases hlt : k < n
    · have hz : k < D.hands.length := by rw [← Hn.out]; exact hlt
      obtain ⟨blk, off, cap', p, c1, b, hv, hc, hrd, -⟩ := Hrow.out W0 BW0 k hz
      have ha := (Value.slice.inj hv).1
      clear hv
      subst ha
      have hsm := Hsum.out k hz
      obtain ⟨m, hm⟩ : ∃ m, m = D.hands[k].length := ⟨_, rfl⟩
      have Hm := Lib.hid hm
      rw [← hm] at hc hsm
      clear hm hrd
      by_cases h0 : m = 0
      · have hq : ((m : Int) == 0) = true := by simp [h0]
        have hr1 : Hid (r = (k : Int)) := Lib.hid (by rw [Hr.out]; exact first_hit hz (List.length_eq_zero_iff.1 (by rw [← Hm.out]; exact h0)) hno.out)
        clear h0
        go_wp2_with fail
        go_ret
        exact ⟨by rw [hr1.out]; rfl, BW0⟩
      · have hq : ((m : Int) == 0) = false := by simp [h0]
        have hno2 : Hid (∀ j (hj : j < D.hands.length), j < k + 1 → D.hands[j] ≠ []) := Lib.hid (fun j hj hjk => by
          by_cases e : j = k
          · subst e; intro e2; exact h0 (by rw [Hm.out, e2]; rfl)
          · exact hno.out j hj (by omega))
        go_wp2_with fail
        go_roundw
        case rel => exact ⟨k + 1, by omega, by go_num, by first | trivial | rfl, hno2⟩
        case measure => simp [intOf]; omega
    · obtain rfl : k = n := by omega
      have hr1 : Hid (r = -1) := Lib.hid (by rw [Hr.out]; exact first_miss (fun j hj => hno.out j hj (by rw [Hn.out]; exact hj)))
      go_wp2_with fail
      go_ret
      exact ⟨by rw [hr1.out]; rfl, BW0⟩
set_option maxRecDepth 100000 in
set_option maxHeartbeats 1000000 in
theorem sOver_any (v : Value) (D : MGame) (w : World) (h : RdGame w v D) (hf : D.Few) (r : Bool) (hr : overB D = r) :
    Calls Tryd.prog 45 #[v] w fun e w' => e = .returned (.bool r) ∧ Below w.heap.size w w' := by
  have HO := Lib.hid (fun wx (hb : Below w.heap.size w wx) => sFirst_any v D wx (h.below hb) hf)
  obtain ⟨p4, p5, p8, p9, p10, c4, c5, c8, c9, c10, b9, b10, rfl, h0, h8, h9, h10, wf0, wf1, wf2⟩ := h
  obtain ⟨f0, f8, fs8, f9, f10⟩ := hf
  have B0 : ∀ o1, Below w.heap.size w (w.alloc o1) := fun o1 => (Below.refl w.heap.size w).alloc (Nat.le_refl _) o1
  have H1 := Lib.hid (fun w1 o1 bb => one_boxR (w := w) (w1 := w1) (o1 := o1) bb)
  unfold overB at hr
  obtain ⟨x, hx⟩ : ∃ x, firstOut D.hands = x := ⟨_, rfl⟩
  rw [hx] at hr HO
  obtain ⟨q1, hq1⟩ : ∃ q, decide (0 ≤ x) = q := ⟨_, rfl⟩
  obtain ⟨q2, hq2⟩ : ∃ q, (D.moves == D.rules.limit) = q := ⟨_, rfl⟩
  obtain ⟨q3, hq3⟩ : ∃ q, decide (D.rules.players ≤ D.passes) = q := ⟨_, rfl⟩
  rw [hq1, hq2, hq3] at hr
  have HR := Lib.hid hr
  clear h0 h8 h9 h10 f0 f8 fs8 f9 f10 hr hx
  go_enter Tryd.func45, Tryd.ntmps45
  go_wp2_with fail
  refine (HO.out _ (B0 _)).mono ?_
  rintro e w1 ⟨rfl, B1⟩
  obtain ⟨Bw1, G1⟩ := H1.out _ _ B1
  clear B1
  obtain ⟨k0, k1, k2, k3, k4, k5, k6, k7, k8, k9, k10, k11, k12, k13⟩ := SGame_cells G1
  cases q1 with
  | true =>
    obtain rfl : true = r := HR.out
    go_wp2_with fail
    go_ret
    exact ⟨rfl, Bw1⟩
  | false =>
    cases q2 with
    | true =>
      obtain rfl : true = r := HR.out
      go_wp2_with fail
      go_ret
      exact ⟨rfl, Bw1⟩
    | false =>
      obtain rfl : q3 = r := HR.out
      cases q3 with
      | true =>
        go_wp2_with fail
        go_ret
        exact ⟨rfl, Bw1⟩
      | false =>
        go_wp2_with fail
        go_ret
        exact ⟨rfl, Bw1⟩
set_option maxRecDepth 100000 in
set_option maxHeartbeats 1000000 in
theorem sWinner_any (v : Value) (D : MGame) (w : World) (h : RdGame w v D) (hf : D.Few) (r : Int) (hr : winnerG D = r) :
    Calls Tryd.prog 15 #[v] w fun e w' => e = .returned (.int .i64 r) ∧ Below w.heap.size w w' := by
  have HF := Lib.hid (fun wx (hb : Below w.heap.size w wx) => sIsGame_any v D wx (h.below hb) hf _ rfl)
  have HO := Lib.hid (fun wx (hb : Below w.heap.size w wx) => sFirst_any v D wx (h.below hb) hf)
  obtain ⟨p4, p5, p8, p9, p10, c4, c5, c8, c9, c10, b9, b10, rfl, h0, h8, h9, h10, wf0, wf1, wf2⟩ := h
  obtain ⟨f0, f8, fs8, f9, f10⟩ := hf
  have B0 : ∀ o1, Below w.heap.size w (w.alloc o1) := fun o1 => (Below.refl w.heap.size w).alloc (Nat.le_refl _) o1
  have H1 := Lib.hid (fun w1 o1 bb => one_boxR (w := w) (w1 := w1) (o1 := o1) bb)
  unfold winnerG at hr
  generalize gameB D = q at *
  clear h0 h8 h9 h10 f0 f8 fs8 f9 f10
  go_enter Tryd.func15, Tryd.ntmps15
  go_wp2_with fail
  refine (HF.out _ (B0 _)).mono ?_
  rintro e w1 ⟨rfl, B1⟩
  obtain ⟨Bw1, G1⟩ := H1.out _ _ B1
  clear B1
  obtain ⟨k0, k1, k2, k3, k4, k5, k6, k7, k8, k9, k10, k11, k12, k13⟩ := SGame_cells G1
  cases q with
  | false =>
    obtain rfl : -1 = r := hr
    go_wp2_with fail
    go_ret
    exact ⟨rfl, Bw1⟩
  | true =>
    have hr2 : firstOut D.hands = r := hr
    rw [hr2] at HO
    clear hr hr2
    go_wp2_with fail
    refine (HO.out _ Bw1).mono ?_
    rintro e w2 ⟨rfl, B2⟩
    go_wp2_with fail
    go_ret
    exact ⟨rfl, Bw1.trans (B2.mono Bw1.size)⟩
set_option maxRecDepth 100000 in
set_option maxHeartbeats 1000000 in
theorem sIsEnded_any (v : Value) (D : MGame) (w : World) (h : RdGame w v D) (hf : D.Few) (r : Bool) (hr : endedB D = r) :
    Calls Tryd.prog 17 #[v] w fun e w' => e = .returned (.bool r) ∧ Below w.heap.size w w' := by
  have HF := Lib.hid (fun wx (hb : Below w.heap.size w wx) => sIsGame_any v D wx (h.below hb) hf _ rfl)
  have HE := Lib.hid (fun wx (hb : Below w.heap.size w wx) => sOver_any v D wx (h.below hb) hf _ rfl)
  obtain ⟨p4, p5, p8, p9, p10, c4, c5, c8, c9, c10, b9, b10, rfl, h0, h8, h9, h10, wf0, wf1, wf2⟩ := h
  obtain ⟨f0, f8, fs8, f9, f10⟩ := hf
  have B0 : ∀ o1, Below w.heap.size w (w.alloc o1) := fun o1 => (Below.refl w.heap.size w).alloc (Nat.le_refl _) o1
  have H1 := Lib.hid (fun w1 o1 bb => one_boxR (w := w) (w1 := w1) (o1 := o1) bb)
  unfold endedB at hr
  generalize gameB D = q at *
  clear h0 h8 h9 h10 f0 f8 fs8 f9 f10
  go_enter Tryd.func17, Tryd.ntmps17
  go_wp2_with fail
  refine (HF.out _ (B0 _)).mono ?_
  rintro e w1 ⟨rfl, B1⟩
  obtain ⟨Bw1, G1⟩ := H1.out _ _ B1
  clear B1
  obtain ⟨k0, k1, k2, k3, k4, k5, k6, k7, k8, k9, k10, k11, k12, k13⟩ := SGame_cells G1
  cases q with
  | false =>
    obtain rfl : false = r := hr
    go_wp2_with fail
    go_ret
    exact ⟨rfl, Bw1⟩
  | true =>
    have hr2 : overB D = r := hr
    rw [hr2] at HE
    clear hr hr2
    go_wp2_with fail
    refine (HE.out _ Bw1).mono ?_
    rintro e w2 ⟨rfl, B2⟩
    go_wp2_with fail
    go_ret
    exact ⟨rfl, Bw1.trans (B2.mono Bw1.size)⟩
set_option maxRecDepth 100000 in
set_option maxHeartbeats 1000000 in
theorem sIsDrawn_any (v : Value) (D : MGame) (w : World) (h : RdGame w v D) (hf : D.Few) (r : Bool) (hr : drawnB D = r) :
    Calls Tryd.prog 21 #[v] w fun e w' => e = .returned (.bool r) ∧ Below w.heap.size w w' := by
  have HF := Lib.hid (fun wx (hb : Below w.heap.size w wx) => sIsEnded_any v D wx (h.below hb) hf _ rfl)
  have HE := Lib.hid (fun wx (hb : Below w.heap.size w wx) => sWinner_any v D wx (h.below hb) hf _ rfl)
  obtain ⟨p4, p5, p8, p9, p10, c4, c5, c8, c9, c10, b9, b10, rfl, h0, h8, h9, h10, wf0, wf1, wf2⟩ := h
  obtain ⟨f0, f8, fs8, f9, f10⟩ := hf
  have B0 : ∀ o1, Below w.heap.size w (w.alloc o1) := fun o1 => (Below.refl w.heap.size w).alloc (Nat.le_refl _) o1
  have H1 := Lib.hid (fun w1 o1 bb => one_boxR (w := w) (w1 := w1) (o1 := o1) bb)
  unfold drawnB at hr
  have hwn := winner_neg D
  generalize endedB D = q at *
  clear h0 h8 h9 h10 f0 f8 fs8 f9 f10
  generalize winnerG D = x at *
  rw [← hwn] at hr
  clear hwn
  go_enter Tryd.func21, Tryd.ntmps21
  go_wp2_with fail
  refine (HF.out _ (B0 _)).mono ?_
  rintro e w1 ⟨rfl, B1⟩
  obtain ⟨Bw1, G1⟩ := H1.out _ _ B1
  clear B1
  obtain ⟨k0, k1, k2, k3, k4, k5, k6, k7, k8, k9, k10, k11, k12, k13⟩ := SGame_cells G1
  cases q with
  | false =>
    obtain rfl : false = r := hr
    go_wp2_with fail
    go_ret
    exact ⟨rfl, Bw1⟩
  | true =>
    have hr2 : decide (x < 0) = r := hr
    clear hr
    go_wp2_with fail
    refine (HE.out _ Bw1).mono ?_
    rintro e w2 ⟨rfl, B2⟩
    cases r with
    | true =>
      go_wp2_with fail
      go_ret
      exact ⟨rfl, Bw1.trans (B2.mono Bw1.size)⟩
    | false =>
      go_wp2_with fail
      go_ret
      exact ⟨rfl, Bw1.trans (B2.mono Bw1.size)⟩
set_option maxRecDepth 100000 in
set_option maxHeartbeats 1000000 in
theorem sMovesLeft_any (v : Value) (D : MGame) (w : World) (h : RdGame w v D) (hf : D.Few) (r : Int) (hr : movesLeft D = r) :
    Calls Tryd.prog 19 #[v] w fun e w' => e = .returned (.int .i64 r) ∧ Below w.heap.size w w' := by
  have HF := Lib.hid (fun wx (hb : Below w.heap.size w wx) => sIsGame_any v D wx (h.below hb) hf _ rfl)
  have HE := Lib.hid (fun wx (hb : Below w.heap.size w wx) => sIsEnded_any v D wx (h.below hb) hf _ rfl)
  obtain ⟨p4, p5, p8, p9, p10, c4, c5, c8, c9, c10, b9, b10, rfl, h0, h8, h9, h10, wf0, wf1, wf2⟩ := h
  obtain ⟨f0, f8, fs8, f9, f10⟩ := hf
  have B0 : ∀ o1, Below w.heap.size w (w.alloc o1) := fun o1 => (Below.refl w.heap.size w).alloc (Nat.le_refl _) o1
  have H1 := Lib.hid (fun w1 o1 bb => one_boxR (w := w) (w1 := w1) (o1 := o1) bb)
  have hb : gameB D = true → 0 ≤ D.moves ∧ D.moves ≤ D.rules.limit ∧ D.rules.limit ≤ 400 := game_movesS
  unfold movesLeft at hr
  have he : endedB D = (gameB D && overB D) := rfl
  generalize endedB D = qe at *
  generalize overB D = qo at *
  generalize gameB D = q at *
  clear h0 h8 h9 h10 f0 f8 fs8 f9 f10
  go_enter Tryd.func19, Tryd.ntmps19
  go_wp2_with fail
  refine (HF.out _ (B0 _)).mono ?_
  rintro e w1 ⟨rfl, B1⟩
  obtain ⟨Bw1, G1⟩ := H1.out _ _ B1
  clear B1
  obtain ⟨k0, k1, k2, k3, k4, k5, k6, k7, k8, k9, k10, k11, k12, k13⟩ := SGame_cells G1
  cases q with
  | false =>
    obtain rfl : 0 = r := hr
    go_wp2_with fail
    go_ret
    exact ⟨rfl, Bw1⟩
  | true =>
    obtain ⟨m0, m1, m2⟩ := hb (by trivial)
    clear hb
    go_wp2_with fail
    refine (HE.out _ Bw1).mono ?_
    rintro e w2 ⟨rfl, B2⟩
    have l1 : w.heap.size < w1.heap.size := (Array.getElem?_eq_some_iff.1 G1).1
    have G2 := (B2.block _ l1).trans G1
    have Bw2 := Bw1.trans (B2.mono Bw1.size)
    clear B2 k0 k1 k2 k3 k4 k5 k6 k7 k8 k9 k10 k11 k12 k13
    obtain ⟨k0, k1, k2, k3, k4, k5, k6, k7, k8, k9, k10, k11, k12, k13⟩ := SGame_cells G2
    cases qe with
    | true =>
      obtain rfl : true = qo := he
      obtain rfl : 0 = r := hr
      go_wp2_with fail
      go_ret
      exact ⟨rfl, Bw2⟩
    | false =>
      obtain rfl : false = qo := he
      obtain rfl : D.rules.limit - D.moves = r := hr
      go_wp2_with fail
      go_ret
      exact ⟨rfl, Bw2⟩
end Go.Proofs.YtbeodaelbjgmeaaDoor
