/-
  Games, the program's side: firstWithoutCards, isAtEnd, rulesOfGame, IsGame, Winner, IsEnded, MovesLeft, IsDrawn.
-/
import Derived.Test.YtmfammgdcdlceaaDoorGameP
import Derived.Test.YtmfammgdcdlceaaDoorReadyF
import Derived.Deep.Cut
namespace Go.Proofs.YtmfammgdcdlceaaDoor
open Go.RowKit
set_option linter.unusedVariables false
set_option linter.unusedSimpArgs false

theorem tenG {w : World} {b : Nat} {a0 a1 a2 a3 a4 a5 a6 a7 a8 a9 : Value} {t : TypeId} {fr : Nat × Nat} (h : w.heap[b]? = some (.cells #[a0, a1, a2, a3, a4, a5, a6, a7, a8, a9] t fr)) : w.cell? ⟨b, 0, none⟩ = some a0 ∧ w.cell? ⟨b, 1, none⟩ = some a1 ∧ w.cell? ⟨b, 2, none⟩ = some a2 ∧ w.cell? ⟨b, 3, none⟩ = some a3 ∧ w.cell? ⟨b, 4, none⟩ = some a4 ∧ w.cell? ⟨b, 5, none⟩ = some a5 ∧ w.cell? ⟨b, 6, none⟩ = some a6 ∧ w.cell? ⟨b, 7, none⟩ = some a7 ∧ w.cell? ⟨b, 8, none⟩ = some a8 ∧ w.cell? ⟨b, 9, none⟩ = some a9 := by
  simp [World.cell?, h]
set_option maxRecDepth 100000 in
set_option maxHeartbeats 4000000 in
theorem rulesOf_own (v : Value) (D : MGame) (w : World) (h : RdGame w v D) (hf : D.Few) (hG : Grps w) (r : Bool) (hr : gameB D = r) :
    Calls Tryd.prog 77 #[v] w fun e w' => (∃ v4 v5 f g, e = .returned (.tuple #[readyV D.rules v4 v5 f g r, .bool r]) ∧ (r = true → ReadyAt w.heap.size w' D.rules v4 v5 f g ∧ Hid (∃ x8 x9 x10, v = .agg #[.int .i64 D.rules.players, .int .i64 D.rules.each, .bool D.rules.sameSuit, .bool D.rules.sameRank, v4, v5, .int .i64 D.rules.take, .int .i64 D.rules.limit, x8, x9, x10, .int .i64 D.turn, .int .i64 D.moves, .int .i64 D.passes]))) ∧ Below w.heap.size w w' := by
  have HA := Lib.hid (fun wx (hb : Below w.heap.size w wx) => hasAll_any v D wx (h.below hb) hf _ rfl)
  obtain ⟨p4, p5, p8, p9, p10, c4, c5, c8, c9, c10, b9, b10, rfl, h0, h8, h9, h10, wf0, wf1, wf2⟩ := h
  obtain ⟨f0, f8, fs8, f9, f10⟩ := hf
  have HF := Lib.hid (fun wx (hb : Below w.heap.size w wx) => readyFrom_own _ D.rules wx (h0.below hb) f0 (hG.below hb) _ rfl)
  have HRr := Lib.hid (fun wx (hb : Below w.heap.size w wx) => h0.below hb)
  have HI := Lib.hid (fun n lo hi wx => inR_any n lo hi wx (inB n lo hi) rfl)
  have hpl : rulesB D.rules = true → 2 ≤ D.rules.players ∧ D.rules.players ≤ 6 := fun e => by
    unfold rulesB at e
    cases e2 : inB D.rules.players 2 6 with
    | false => rw [e2] at e; cases e
    | true => unfold inB at e2; simpa using e2
  unfold gameB at hr
  obtain ⟨q0, hq0⟩ : ∃ q, rulesB D.rules = q := ⟨_, rfl⟩
  obtain ⟨q1, hq1⟩ : ∃ q, ((D.hands.length : Int) == D.rules.players) = q := ⟨_, rfl⟩
  obtain ⟨q2, hq2⟩ : ∃ q, ((D.heap.length : Int) == 0) = q := ⟨_, rfl⟩
  obtain ⟨q3, hq3⟩ : ∃ q, inB D.turn 0 (D.rules.players - 1) = q := ⟨_, rfl⟩
  obtain ⟨q4, hq4⟩ : ∃ q, inB D.moves 0 D.rules.limit = q := ⟨_, rfl⟩
  obtain ⟨q5, hq5⟩ : ∃ q, inB D.passes 0 D.moves = q := ⟨_, rfl⟩
  obtain ⟨q6, hq6⟩ : ∃ q, wholeB (allG D) = q := ⟨_, rfl⟩
  have hq1' : ((D.hands.length : Int) != D.rules.players) = !q1 := by rw [← hq1]; rfl
  have H3 := Lib.hid (fun wx => HI.out D.turn 0 (D.rules.players - 1) wx)
  have H4 := Lib.hid (fun wx => HI.out D.moves 0 D.rules.limit wx)
  have H5 := Lib.hid (fun wx => HI.out D.passes 0 D.moves wx)
  rw [hq0, hq1, hq2, hq3, hq4, hq5, hq6] at hr
  rw [hq0] at hpl HF
  rw [hq3] at H3
  rw [hq4] at H4
  rw [hq5] at H5
  rw [hq6] at HA
  have HR := Lib.hid hr
  have HPl := Lib.hid hpl
  have B0 : ∀ o1 o2, Below w.heap.size w ((w.alloc o1).alloc o2) := fun o1 o2 => ((Below.refl w.heap.size w).alloc (Nat.le_refl _) o1).alloc (by simp) o2
  have H2 := Lib.hid (fun w1 o1 o2 bb => two_boxesR (w := w) (w1 := w1) (o1 := o1) (o2 := o2) bb)
  clear hr hpl hq0 hq1 hq3 hq4 hq5 hq6 h0 h8 h9 h10 f0 f8 fs8 f9 f10 hG HI
  go_enter Tryd.func77, Tryd.ntmps77
  go_wp2_with fail
  refine (HF.out _ (B0 _ _)).mono ?_
  rintro e w1 ⟨⟨v4, v5, f, g, rfl, hvv, hrd⟩, B1⟩
  have hvv := hvv.out
  simp at hvv
  obtain ⟨rfl, rfl⟩ := hvv
  have hz0 : w.heap.size + 2 ≤ w1.heap.size := by have := B1.size; simp at this; omega
  have hrd0 : q0 = true → ReadyAt (w.heap.size + 2) w1 D.rules (.slice p4 D.rules.wild.length c4) (.slice p5 D.rules.skip.length c5) f g := fun e => by obtain ⟨a1, a2, a3, a4⟩ := hrd e; exact ⟨a1, a2, a3.weaken (by simp), a4.weaken (by simp)⟩
  obtain ⟨Bw1, G1, G2⟩ := H2.out _ _ _ B1
  clear B1 hrd
  cases q0 with
  | false =>
    obtain ⟨W2, hW2⟩ : ∃ W2, W2 = w1.alloc (.cells #[.int .i64 0, .int .i64 0, .bool false, .bool false, .slice none 0 0, .slice none 0 0, .int .i64 0, .int .i64 0, .nilFunc, .nilFunc] 110) := ⟨_, rfl⟩
    have b2 : Below w1.heap.size w1 W2 := by rw [hW2]; exact (Below.refl _ _).alloc (Nat.le_refl _) _
    have Bw2 := Bw1.trans (b2.mono Bw1.size)
    have G1b := (b2.block _ (by omega)).trans G1
    have G2b := (b2.block _ (by omega)).trans G2
    have HW2 := Lib.hid hW2
    clear hW2 b2 G1 G2
    unfold readyV
    go_upto_region 2 with fail
    rw [← HW2.out]
    obtain ⟨k0, k1, k2, k3, k4, k5, k6, k7, k8, k9, k10, k11, k12, k13⟩ := SGame_cells G1b
    obtain rfl : false = r := HR.out
    have r0 := SRules_cell G2b
    have r1 := SRules_free G2b
    have N := setAll_full G2b [.int .i64 0, .int .i64 0, .bool false, .bool false, .slice none 0 0, .slice none 0 0, .int .i64 0, .int .i64 0, .nilFunc, .nilFunc] rfl
    have NB := setAll_below (Nat.le_succ w.heap.size) [.int .i64 0, .int .i64 0, .bool false, .bool false, .slice none 0 0, .slice none 0 0, .int .i64 0, .int .i64 0, .nilFunc, .nilFunc] W2 0 Bw2
    have HN2 := Lib.hid (And.intro N NB)
    clear N NB
    go_wp2_with fail
    exact bodyPost_ret (results_row_tmp rfl _ _ (w.heap.size + 1) _ _ _ _ rfl HN2.out.1 Tryd.underlying110 rfl (by kernel_rfl)) rfl ⟨⟨.nilFunc, .nilFunc, .nilFunc, .nilFunc, rfl, fun h => by cases h⟩, HN2.out.2⟩
  | true =>
    obtain ⟨-, -, hmf, hmg⟩ := hrd0 rfl
    obtain ⟨nf, cf, ef, -⟩ := id hmf
    obtain ⟨ng, cg, eg, -⟩ := id hmg
    subst ef eg
    obtain ⟨hp2, hp6⟩ := HPl.out rfl
    obtain ⟨W2, hW2⟩ : ∃ W2, W2 = w1.alloc (.cells #[.int .i64 D.rules.players, .int .i64 D.rules.each, .bool D.rules.sameSuit, .bool D.rules.sameRank, .slice p4 D.rules.wild.length c4, .slice p5 D.rules.skip.length c5, .int .i64 D.rules.take, .int .i64 D.rules.limit, .func (.func nf) #[] cf, .func (.func ng) #[] cg] 110) := ⟨_, rfl⟩
    have b2 : Below w1.heap.size w1 W2 := by rw [hW2]; exact (Below.refl _ _).alloc (Nat.le_refl _) _
    have lr : w1.heap.size < W2.heap.size := by rw [hW2]; simp
    have Bw2 := Bw1.trans (b2.mono Bw1.size)
    have G1b := (b2.block _ (by omega)).trans G1
    have G2b := (b2.block _ (by omega)).trans G2
    have G3b : W2.heap[w1.heap.size]? = some (.cells #[.int .i64 D.rules.players, .int .i64 D.rules.each, .bool D.rules.sameSuit, .bool D.rules.sameRank, .slice p4 D.rules.wild.length c4, .slice p5 D.rules.skip.length c5, .int .i64 D.rules.take, .int .i64 D.rules.limit, .func (.func nf) #[] cf, .func (.func ng) #[] cg] 110 (0, 0)) := by rw [hW2]; exact patNew _ _
    have HRd := Lib.hid (fun wx (hx : Below W2.heap.size W2 wx) => And.intro ((hmf.below b2).below hx) ((hmg.below b2).below hx))
    have HW2 := Lib.hid hW2
    have hz2 : w.heap.size + 2 ≤ W2.heap.size := Nat.le_trans hz0 b2.size
    clear hW2 b2 G1 G2 hmf hmg hrd0
    unfold readyV
    go_upto_region 2 with fail
    rw [← HW2.out]
    obtain ⟨k0, k1, k2, k3, k4, k5, k6, k7, k8, k9, k10, k11, k12, k13⟩ := SGame_cells G1b
    cases q1 with
    | false =>
      obtain rfl : false = r := HR.out
      have r0 := SRules_cell G2b
      have r1 := SRules_free G2b
      have N := setAll_full G2b [.int .i64 0, .int .i64 0, .bool false, .bool false, .slice none 0 0, .slice none 0 0, .int .i64 0, .int .i64 0, .nilFunc, .nilFunc] rfl
      have NB := setAll_below (Nat.le_succ w.heap.size) [.int .i64 0, .int .i64 0, .bool false, .bool false, .slice none 0 0, .slice none 0 0, .int .i64 0, .int .i64 0, .nilFunc, .nilFunc] W2 0 Bw2
      have HN2 := Lib.hid (And.intro N NB)
      clear N NB
      go_wp2_with fail
      exact bodyPost_ret (results_row_tmp rfl _ _ (w.heap.size + 1) _ _ _ _ rfl HN2.out.1 Tryd.underlying110 rfl (by kernel_rfl)) rfl ⟨⟨.nilFunc, .nilFunc, .nilFunc, .nilFunc, rfl, fun h => by cases h⟩, HN2.out.2⟩

    | true =>
      cases q2 with
      | true =>
        obtain rfl : false = r := HR.out
        have r0 := SRules_cell G2b
        have r1 := SRules_free G2b
        have N := setAll_full G2b [.int .i64 0, .int .i64 0, .bool false, .bool false, .slice none 0 0, .slice none 0 0, .int .i64 0, .int .i64 0, .nilFunc, .nilFunc] rfl
        have NB := setAll_below (Nat.le_succ w.heap.size) [.int .i64 0, .int .i64 0, .bool false, .bool false, .slice none 0 0, .slice none 0 0, .int .i64 0, .int .i64 0, .nilFunc, .nilFunc] W2 0 Bw2
        have HN2 := Lib.hid (And.intro N NB)
        clear N NB
        go_wp2_with fail
        exact bodyPost_ret (results_row_tmp rfl _ _ (w.heap.size + 1) _ _ _ _ rfl HN2.out.1 Tryd.underlying110 rfl (by kernel_rfl)) rfl ⟨⟨.nilFunc, .nilFunc, .nilFunc, .nilFunc, rfl, fun h => by cases h⟩, HN2.out.2⟩
      | false =>
        go_wp2_with fail
        refine (H3.out _).mono ?_
        rintro e _w ⟨rfl, rfl⟩
        cases q3 with
        | false =>
          obtain rfl : false = r := HR.out
          have r0 := SRules_cell G2b
          have r1 := SRules_free G2b
          have N := setAll_full G2b [.int .i64 0, .int .i64 0, .bool false, .bool false, .slice none 0 0, .slice none 0 0, .int .i64 0, .int .i64 0, .nilFunc, .nilFunc] rfl
          have NB := setAll_below (Nat.le_succ w.heap.size) [.int .i64 0, .int .i64 0, .bool false, .bool false, .slice none 0 0, .slice none 0 0, .int .i64 0, .int .i64 0, .nilFunc, .nilFunc] W2 0 Bw2
          have HN2 := Lib.hid (And.intro N NB)
          clear N NB
          go_wp2_with fail
          exact bodyPost_ret (results_row_tmp rfl _ _ (w.heap.size + 1) _ _ _ _ rfl HN2.out.1 Tryd.underlying110 rfl (by kernel_rfl)) rfl ⟨⟨.nilFunc, .nilFunc, .nilFunc, .nilFunc, rfl, fun h => by cases h⟩, HN2.out.2⟩
        | true =>
          go_wp2_with fail
          refine (H4.out _).mono ?_
          rintro e _w ⟨rfl, rfl⟩
          cases q4 with
          | false =>
            obtain rfl : false = r := HR.out
            have r0 := SRules_cell G2b
            have r1 := SRules_free G2b
            have N := setAll_full G2b [.int .i64 0, .int .i64 0, .bool false, .bool false, .slice none 0 0, .slice none 0 0, .int .i64 0, .int .i64 0, .nilFunc, .nilFunc] rfl
            have NB := setAll_below (Nat.le_succ w.heap.size) [.int .i64 0, .int .i64 0, .bool false, .bool false, .slice none 0 0, .slice none 0 0, .int .i64 0, .int .i64 0, .nilFunc, .nilFunc] W2 0 Bw2
            have HN2 := Lib.hid (And.intro N NB)
            clear N NB
            go_wp2_with fail
            exact bodyPost_ret (results_row_tmp rfl _ _ (w.heap.size + 1) _ _ _ _ rfl HN2.out.1 Tryd.underlying110 rfl (by kernel_rfl)) rfl ⟨⟨.nilFunc, .nilFunc, .nilFunc, .nilFunc, rfl, fun h => by cases h⟩, HN2.out.2⟩
          | true =>
            go_wp2_with fail
            refine (H5.out _).mono ?_
            rintro e _w ⟨rfl, rfl⟩
            cases q5 with
            | false =>
              obtain rfl : false = r := HR.out
              have r0 := SRules_cell G2b
              have r1 := SRules_free G2b
              have N := setAll_full G2b [.int .i64 0, .int .i64 0, .bool false, .bool false, .slice none 0 0, .slice none 0 0, .int .i64 0, .int .i64 0, .nilFunc, .nilFunc] rfl
              have NB := setAll_below (Nat.le_succ w.heap.size) [.int .i64 0, .int .i64 0, .bool false, .bool false, .slice none 0 0, .slice none 0 0, .int .i64 0, .int .i64 0, .nilFunc, .nilFunc] W2 0 Bw2
              have HN2 := Lib.hid (And.intro N NB)
              clear N NB
              go_wp2_with fail
              exact bodyPost_ret (results_row_tmp rfl _ _ (w.heap.size + 1) _ _ _ _ rfl HN2.out.1 Tryd.underlying110 rfl (by kernel_rfl)) rfl ⟨⟨.nilFunc, .nilFunc, .nilFunc, .nilFunc, rfl, fun h => by cases h⟩, HN2.out.2⟩
            | true =>
              go_wp2_with fail
              refine (HA.out _ Bw2).mono ?_
              rintro e w3 ⟨rfl, B3⟩
              have Bw3 := Bw2.trans (B3.mono Bw2.size)
              have G1c := (B3.block _ (by omega)).trans G1b
              have G2c := (B3.block _ (by omega)).trans G2b
              have G3c := (B3.block _ lr).trans G3b
              obtain ⟨ma, mb⟩ := HRd.out w3 B3
              clear k0 k1 k2 k3 k4 k5 k6 k7 k8 k9 k10 k11 k12 k13 G1b G2b G3b
              obtain ⟨k0, k1, k2, k3, k4, k5, k6, k7, k8, k9, k10, k11, k12, k13⟩ := SGame_cells G1c
              cases q6 with
              | false =>
                obtain rfl : false = r := HR.out
                have r0 := SRules_cell G2c
                have r1 := SRules_free G2c
                have N := setAll_full G2c [.int .i64 0, .int .i64 0, .bool false, .bool false, .slice none 0 0, .slice none 0 0, .int .i64 0, .int .i64 0, .nilFunc, .nilFunc] rfl
                have NB := setAll_below (Nat.le_succ w.heap.size) [.int .i64 0, .int .i64 0, .bool false, .bool false, .slice none 0 0, .slice none 0 0, .int .i64 0, .int .i64 0, .nilFunc, .nilFunc] w3 0 Bw3
                have HN2 := Lib.hid (And.intro N NB)
                clear N NB
                go_wp2_with fail
                exact bodyPost_ret (results_row_tmp rfl _ _ (w.heap.size + 1) _ _ _ _ rfl HN2.out.1 Tryd.underlying110 rfl (by kernel_rfl)) rfl ⟨⟨.nilFunc, .nilFunc, .nilFunc, .nilFunc, rfl, fun h => by cases h⟩, HN2.out.2⟩
              | true =>
                obtain rfl : true = r := HR.out
                obtain ⟨y0, y1, y2, y3, y4, y5, y6, y7, y8, y9⟩ := tenG G3c
                have r0 := SRules_cell G2c
                have r1 := SRules_free G2c
                have N := setAll_full G2c [.int .i64 D.rules.players, .int .i64 D.rules.each, .bool D.rules.sameSuit, .bool D.rules.sameRank, .slice p4 D.rules.wild.length c4, .slice p5 D.rules.skip.length c5, .int .i64 D.rules.take, .int .i64 D.rules.limit, .func (.func nf) #[] cf, .func (.func ng) #[] cg] rfl
                have NB := setAll_below (Nat.le_succ w.heap.size) [.int .i64 D.rules.players, .int .i64 D.rules.each, .bool D.rules.sameSuit, .bool D.rules.sameRank, .slice p4 D.rules.wild.length c4, .slice p5 D.rules.skip.length c5, .int .i64 D.rules.take, .int .i64 D.rules.limit, .func (.func nf) #[] cf, .func (.func ng) #[] cg] w3 0 Bw3
                have hK : Keeps (w.heap.size + 2) w3 (setAll w3 (w.heap.size + 1) 0 [.int .i64 D.rules.players, .int .i64 D.rules.each, .bool D.rules.sameSuit, .bool D.rules.sameRank, .slice p4 D.rules.wild.length c4, .slice p5 D.rules.skip.length c5, .int .i64 D.rules.take, .int .i64 D.rules.limit, .func (.func nf) #[] cf, .func (.func ng) #[] cg]) := ⟨by rw [setAll_size]; exact Nat.le_refl _, fun k h1 h2 => setAll_other _ _ k (by omega) _ _⟩
                have HMm := Lib.hid (And.intro ((ma.keep hK).weaken (Nat.le_add_right w.heap.size 2)) ((mb.keep hK).weaken (Nat.le_add_right w.heap.size 2)))
                have hrr := HRr.out _ NB
                obtain ⟨v4, v5, b4, b5, evv, ra, rb, -⟩ := hrr
                simp at evv
                obtain ⟨rfl, rfl⟩ := evv
                have HN2 := Lib.hid (And.intro N (And.intro NB (And.intro ra rb)))
                clear N NB hK ra rb
                go_wp2_with fail
                exact bodyPost_ret (results_row_tmp rfl _ _ (w.heap.size + 1) _ _ _ _ rfl HN2.out.1 Tryd.underlying110 rfl (by kernel_rfl)) rfl ⟨⟨_, _, _, _, rfl, ⟨⟨_, HN2.out.2.2.1⟩, ⟨_, HN2.out.2.2.2⟩, HMm.out.1, HMm.out.2⟩, (by first | exact Lib.hid ⟨_, _, _, rfl⟩ | exact Lib.hid ⟨rfl, rfl⟩ | exact Lib.hid trivial | exact Lib.hid rfl | exact ⟨rfl, rfl⟩ | (simp; done) | trace_state)⟩, HN2.out.2.1⟩
theorem rulesOf_any (v : Value) (D : MGame) (w : World) (h : RdGame w v D) (hf : D.Few) (hG : Grps w) (r : Bool) (hr : gameB D = r) :
    Calls Tryd.prog 77 #[v] w fun e w' => (∃ v4 v5 f g, e = .returned (.tuple #[readyV D.rules v4 v5 f g r, .bool r]) ∧ (r = true → ReadyAt w.heap.size w' D.rules v4 v5 f g)) ∧ Below w.heap.size w w' :=
  (rulesOf_own v D w h hf hG r hr).mono fun e w' ⟨⟨v4, v5, f, g, he, h1⟩, hb⟩ => ⟨⟨v4, v5, f, g, he, fun h => (h1 h).1⟩, hb⟩
theorem game_moves {D : MGame} (h : gameB D = true) : 0 ≤ D.moves ∧ D.moves ≤ D.rules.limit ∧ D.rules.limit ≤ 400 := by
  unfold gameB at h
  simp only [Bool.and_eq_true] at h
  obtain ⟨h0, -, -, -, h4, -⟩ := h
  unfold rulesB at h0
  simp only [Bool.and_eq_true] at h0
  obtain ⟨-, -, -, -, -, -, h7⟩ := h0
  unfold inB at h4 h7
  simp at h4 h7
  omega
set_option maxRecDepth 100000 in
set_option maxHeartbeats 1000000 in
theorem isGame_any (v : Value) (D : MGame) (w : World) (h : RdGame w v D) (hf : D.Few) (hG : Grps w) (r : Bool) (hr : gameB D = r) :
    Calls Tryd.prog 54 #[v] w fun e w' => e = .returned (.bool r) ∧ Below w.heap.size w w' := by
  have HF := Lib.hid (fun wx (hb : Below w.heap.size w wx) => rulesOf_any v D wx (h.below hb) hf (hG.below hb) r hr)
  obtain ⟨p4, p5, p8, p9, p10, c4, c5, c8, c9, c10, b9, b10, rfl, h0, h8, h9, h10, wf0, wf1, wf2⟩ := h
  obtain ⟨f0, f8, fs8, f9, f10⟩ := hf
  have B0 : ∀ o1, Below w.heap.size w (w.alloc o1) := fun o1 => (Below.refl w.heap.size w).alloc (Nat.le_refl _) o1
  have H1 := Lib.hid (fun w1 o1 bb => one_boxR (w := w) (w1 := w1) (o1 := o1) bb)
  clear h0 h8 h9 h10 f0 f8 fs8 f9 f10
  go_enter Tryd.func54, Tryd.ntmps54
  go_wp2_with fail
  refine (HF.out _ (B0 _)).mono ?_
  rintro e w1 ⟨⟨v4, v5, f, g, rfl, hrd⟩, B1⟩
  have Bw1 := (H1.out _ _ B1).1
  clear B1
  cases r with
  | true =>
    obtain ⟨⟨b4, q4, d4, e4, -⟩, ⟨b5, q5, d5, e5, -⟩, ⟨nf, cf, ef, -⟩, ⟨ng, cg, eg, -⟩⟩ := hrd rfl
    subst e4 e5 ef eg
    unfold readyV
    go_wp2_with fail
    go_ret
    exact ⟨rfl, Bw1.alloc Bw1.size _⟩
  | false =>
    unfold readyV
    go_wp2_with fail
    go_ret
    exact ⟨rfl, Bw1.alloc Bw1.size _⟩
end Go.Proofs.YtmfammgdcdlceaaDoor
