/-
  Games, the model's side: IsGame, l24First, l24Over, Winner, IsEnded, IsDrawn, MovesLeft.
-/
import Derived.Test.YtmfammgdcdlceaaDoorGameP
import Derived.Test.YtmfammgdcdlceaaDoorSet
import Derived.Deep.RegionHeld3
namespace Go.Proofs.YtmfammgdcdlceaaDoor
open Go.RowKit
set_option linter.unusedVariables false
set_option linter.unusedSimpArgs false

theorem flat_takeG (zss : List (List Int)) (k : Nat) (h : k < zss.length) : (zss.take (k + 1)).flatten = (zss.take k).flatten ++ zss[k] := flat_take zss k h
theorem game_movesS {D : MGame} (h : gameB D = true) : 0 ≤ D.moves ∧ D.moves ≤ D.rules.limit ∧ D.rules.limit ≤ 400 := by
  unfold gameB at h
  simp only [Bool.and_eq_true] at h
  obtain ⟨h0, -, -, -, h4, -⟩ := h
  unfold rulesB at h0
  simp only [Bool.and_eq_true] at h0
  obtain ⟨-, -, -, -, -, -, h7⟩ := h0
  unfold inB at h4 h7
  simp at h4 h7
  omega
theorem winner_neg (D : MGame) : decide (winnerG D < 0) = (winnerG D == -1) := by
  have h : -1 ≤ winnerG D := by
    unfold winnerG
    split
    · unfold firstOut
      split
      · omega
      · omega
    · omega
  by_cases e : winnerG D = -1
  · rw [e]; rfl
  · have h2 : (winnerG D == -1) = false := by simpa using e
    rw [h2]; simp; omega
set_option maxRecDepth 100000 in
set_option maxHeartbeats 2000000 in
theorem sIsGame_any (v : Value) (D : MGame) (w : World) (h : RdGame w v D) (hf : D.Few) (r : Bool) (hr : gameB D = r) :
    Calls Tryd.prog 52 #[v] w fun e w' => e = .returned (.bool r) ∧ Below w.heap.size w w' := by
  obtain ⟨i0, hi, hz0, hz1, hz2⟩ := info_parts info_i64
  obtain ⟨p4, p5, p8, p9, p10, c4, c5, c8, c9, c10, b9, b10, rfl, h0, h8, h9, h10, wf0, wf1, wf2⟩ := h
  obtain ⟨f0, f8, fs8, f9, f10⟩ := hf
  have HF := Lib.hid (fun wx (hb : Below w.heap.size w wx) => sIsRules_any _ D.rules wx (h0.below hb) f0 _ rfl)
  have HI := Lib.hid (fun n lo hi wx => inM_any n lo hi wx (inB n lo hi) rfl)
  have hpl : rulesB D.rules = true → 2 ≤ D.rules.players ∧ D.rules.players ≤ 6 := fun e => by
    unfold rulesB at e
    cases e2 : inB D.rules.players 2 6 with
    | false => rw [e2] at e; cases e
    | true => unfold inB at e2; simpa using e2
  unfold gameB at hr
  rw [← all_perm] at hr
  obtain ⟨q0, hq0⟩ : ∃ q, rulesB D.rules = q := ⟨_, rfl⟩
  obtain ⟨q1, hq1⟩ : ∃ q, ((D.hands.length : Int) == D.rules.players) = q := ⟨_, rfl⟩
  obtain ⟨q2, hq2⟩ : ∃ q, ((D.heap.length : Int) == 0) = q := ⟨_, rfl⟩
  obtain ⟨q3, hq3⟩ : ∃ q, inB D.turn 0 (D.rules.players - 1) = q := ⟨_, rfl⟩
  obtain ⟨q4, hq4⟩ : ∃ q, inB D.moves 0 D.rules.limit = q := ⟨_, rfl⟩
  obtain ⟨q5, hq5⟩ : ∃ q, inB D.passes 0 D.moves = q := ⟨_, rfl⟩
  have hq1' : ((D.hands.length : Int) != D.rules.players) = !q1 := by rw [← hq1]; rfl
  have H3 := Lib.hid (fun wx => HI.out D.turn 0 (D.rules.players - 1) wx)
  have H4 := Lib.hid (fun wx => HI.out D.moves 0 D.rules.limit wx)
  have H5 := Lib.hid (fun wx => HI.out D.passes 0 D.moves wx)
  rw [hq0, hq1, hq2, hq3, hq4, hq5] at hr
  rw [hq0] at hpl HF
  rw [hq3] at H3
  rw [hq4] at H4
  rw [hq5] at H5
  have HR := Lib.hid hr
  have HPl := Lib.hid hpl
  have H9 := Lib.hid (fun wx (hb : Below w.heap.size w wx) => (h9.below hb).vals)
  have H10 := Lib.hid (fun wx (hb : Below w.heap.size w wx) => (h10.below hb).vals)
  have Hwf : Hid (∀ x ∈ allS D, (Lit.int .i64 x).wf = true) := Lib.hid (fun x hx => by
    unfold allS at hx
    rcases List.mem_append.1 hx with hx | hx
    · rcases List.mem_append.1 hx with hx | hx
      · exact h9.wf x hx
      · exact h10.wf x hx
    · exact flat_wf h8 x hx)
  have Hrow := Lib.hid (fun wx (hb : Below w.heap.size w wx) j (hj : j < D.hands.length) => (h8.below hb).row hj)
  have Hsum : Hid (∀ j (hj : j < D.hands.length), D.hands[j].length ≤ 1048576) := Lib.hid (fun j hj => Nat.le_trans (len_le_sum D.hands hj) fs8)
  have Hst : Hid (∀ j, sumLen (D.hands.take j) ≤ 1048576) := Lib.hid (fun j => Nat.le_trans (sumLen_take_le D.hands j) fs8)
  have B0 : ∀ o1, Below w.heap.size w (w.alloc o1) := fun o1 => (Below.refl w.heap.size w).alloc (Nat.le_refl _) o1
  have H1 := Lib.hid (fun w1 o1 bb => one_boxR (w := w) (w1 := w1) (o1 := o1) bb)
  clear hr hpl hq0 hq1 hq3 hq4 hq5 h0 h8 h9 h10 f0 HI
  go_enter Tryd.func52, Tryd.ntmps52
  go_wp2_with fail
  refine (HF.out _ (B0 _)).mono ?_
  rintro e w1 ⟨rfl, B1⟩
  have l1 : w.heap.size < w1.heap.size := by have := B1.size; simp at this; omega
  obtain ⟨Bw1, G1⟩ := H1.out _ _ B1
  clear B1
  obtain ⟨k0, k1, k2, k3, k4, k5, k6, k7, k8, k9, k10, k11, k12, k13⟩ := SGame_cells G1
  cases q0 with
  | false =>
    obtain rfl : false = r := HR.out
    go_wp2_with fail
    go_ret
    exact ⟨rfl, Bw1⟩
  | true =>
    obtain ⟨hp2, hp6⟩ := HPl.out rfl
    cases q1 with
    | false =>
      obtain rfl : false = r := HR.out
      go_wp2_with fail
      go_ret
      exact ⟨rfl, Bw1⟩
    | true =>
      cases q2 with
      | true =>
        obtain rfl : false = r := HR.out
        go_wp2_with fail
        go_ret
        exact ⟨rfl, Bw1⟩
      | false =>
        go_wp2_with fail
        refine (H3.out _).mono ?_
        rintro e _w ⟨rfl, rfl⟩
        cases q3 with
        | false =>
          obtain rfl : false = r := HR.out
          go_wp2_with fail
          go_ret
          exact ⟨rfl, Bw1⟩
        | true =>
          go_wp2_with fail
          refine (H4.out _).mono ?_
          rintro e _w ⟨rfl, rfl⟩
          cases q4 with
          | false =>
            obtain rfl : false = r := HR.out
            go_wp2_with fail
            go_ret
            exact ⟨rfl, Bw1⟩
          | true =>
            go_wp2_with fail
            refine (H5.out _).mono ?_
            rintro e _w ⟨rfl, rfl⟩
            cases q5 with
            | false =>
              obtain rfl : false = r := HR.out
              go_wp2_with fail
              go_ret
              exact ⟨rfl, Bw1⟩
            | true =>
              -- the stock and the heap, side by side in a row of its own
              have hown0 := World.ownsRow_lit (base := w1.heap.size) (e := 3) (size := 1) w1.drew #[] 0 (Nat.le_refl _) (Nat.zero_le _) rfl
              have b0 : Below w1.heap.size w1 (w1.drew.alloc (.cells #[] 3)) := ((Below.refl _ _).drew).alloc (Nat.le_refl _) _
              obtain ⟨v2, w2, hr2, hown2, hgr2⟩ := run_append_vals (w1.drew.alloc (.cells #[] 3)) w1.heap.size 30 30 3 i0 (.int .i64 0) 8 Tryd.underlying30 hi hz0 hz1 hz2 rfl _ 0 [] hown0 _ _ (H9.out _ (Bw1.trans (b0.mono Bw1.size))) int_one (by rw [List.length_map]; unfold maxLen; omega) (by rw [List.length_map]; omega) b0.size
              have b2 := b0.grown hgr2 b0.size (own_block hown0)
              rw [List.length_map, Nat.zero_add, List.nil_append] at hown2
              obtain ⟨pa, ca, ea⟩ := own_shape hown2
              subst ea
              obtain ⟨v3, w3, hr3, hown3, hgr3⟩ := run_append_vals w2 w1.heap.size 30 30 3 i0 (.int .i64 0) 8 Tryd.underlying30 hi hz0 hz1 hz2 rfl _ _ _ hown2 _ _ (H10.out _ (Bw1.trans (b2.mono Bw1.size))) int_one (by rw [List.length_map]; unfold maxLen; omega) (by rw [List.length_map]; omega) b2.size
              have b3 := b2.grown hgr3 b2.size (own_block hown2)
              rw [List.length_map, ← List.map_append] at hown3
              obtain ⟨pb, cb, eb⟩ := own_shape hown3
              subst eb
              have Q2 := Lib.hid hr2
              have Q3 := Lib.hid hr3
              have HO3 := Lib.hid hown3
              have HB3 := Lib.hid b3
              have HG : Hid (∀ wx, Below w1.heap.size w1 wx → wx.cell? ⟨w.heap.size, 9, none⟩ = some (.slice p9 D.stock.length c9) ∧ wx.cell? ⟨w.heap.size, 10, none⟩ = some (.slice p10 D.heap.length c10)) := Lib.hid (fun wx hx => by
                have G := (hx.block _ l1).trans G1
                refine ⟨?_, ?_⟩ <;> rw [box_cell G] <;> rfl)
              obtain ⟨x9, x10⟩ := HG.out w2 b2
              obtain ⟨y9, y10⟩ := HG.out w3 b3
              have HX := Lib.hid (And.intro (And.intro x9 x10) (And.intro y9 y10))
              clear hown0 hr2 hown2 hgr2 hr3 hown3 hgr3 b0 b2 b3 x9 x10 y9 y10
              go_wp2_with fail
              go_region_held3 (fun w' => w'.cell? ⟨w.heap.size, 9, none⟩ = some (.slice p9 D.stock.length c9) ∧ w'.cell? ⟨w.heap.size, 10, none⟩ = some (.slice p10 D.heap.length c10)) (go_keep) (first
                | (refine step_append_runP rfl _ _ _ _ rfl _ _ rfl rfl _ _ Q2.out ?_; obtain ⟨⟨x9, x10⟩, -⟩ := HX.out)
                | (refine step_append_runP rfl _ _ _ _ rfl _ _ rfl rfl _ _ Q3.out ?_; obtain ⟨-, ⟨y9, y10⟩⟩ := HX.out))
              all_goals
                have hown := HO3.out
                have B3 := HB3.out
                have Bw3 := Bw1.trans (B3.mono Bw1.size)
                have HR2 : Hid (wholeB (allS D) = r) := Lib.hid HR.out
                have lw3 : w.heap.size < w3.heap.size := Nat.lt_of_lt_of_le l1 B3.size
                have G3 := (B3.block _ l1).trans G1
                have kk := box_cell G3 8
                simp at kk
                clear k0 k1 k2 k3 k4 k5 k6 k7 k8 k9 k10 k11 k12 k13 x9 x10 y9 y10 HR HX Q2 Q3 HO3 HB3 HG hi hp2 hp6 hq1' hq2 G1
                obtain ⟨i1, hi, hz0, hz1, hz2⟩ := info_parts info_i64
                obtain ⟨n, hn⟩ : ∃ n, n = D.hands.length := ⟨_, rfl⟩
                have Hn := Lib.hid hn
                obtain ⟨m0, hm0⟩ : ∃ m, m = D.stock.length + D.heap.length := ⟨_, rfl⟩
                have Hm0 := Lib.hid hm0
                have hm0b : m0 ≤ 2097152 := by omega
                rw [← hm0] at hown
                rw [← hn] at kk f8
                clear f9 f10
                go_wp2_with fail
                rw [← hm0, ← hn]
                clear hm0 hn kk
                go_loopw [3, 4] (fun o i wr => ∃ k : Nat, k ≤ n ∧ i = .int .i64 k ∧ Below w.heap.size w wr ∧ wr.heap[w.heap.size]? = w3.heap[w.heap.size]? ∧ w1.heap.size ≤ wr.heap.size ∧ wr.ownsRow w1.heap.size 3 1 o (m0 + sumLen (D.hands.take k)) (((D.stock ++ D.heap) ++ (D.hands.take k).flatten).map (Value.int .i64))) (fun _ i _ => n - (intOf i).toNat)
                case atStart => exact ⟨0, Nat.zero_le _, rfl, Bw3, rfl, B3.size, by simpa [sumLen] using hown⟩
                case round =>
                  have HG3 := Lib.hid G3
                  clear hown Bw3 G3 lw3
                  obtain ⟨k, hk, rfl, hB, hGm, hsz, hown⟩ := hrel
                  have kk := box_cell (hGm.trans HG3.out) 8
                  simp at kk
                  rw [← Hn.out] at kk
                  have hst := Hst.out (k + 1)
                  have hst0 := Hst.out k
                  by_cases hlt : k < n
                  · have hz : k < D.hands.length := by rw [← Hn.out]; exact hlt
                    obtain ⟨blk, off, cap', p, c, b, hv, hc, hr', -⟩ := Hrow.out wr hB k hz
                    have ha := (Value.slice.inj hv).1
                    clear hv
                    subst ha
                    have hsm := Hsum.out k hz
                    have HTj := sumLen_take D.hands k hz
                    have HFj := flat_takeG D.hands k hz
                    obtain ⟨op, oc, eo⟩ := own_shape hown
                    subst eo
                    obtain ⟨v5, w5, hr5, hown5, hgr5⟩ := run_append_vals wr w1.heap.size 30 30 3 i1 (.int .i64 0) 8 Tryd.underlying30 hi hz0 hz1 hz2 rfl _ _ _ hown _ _ hr'.vals int_one (by rw [List.length_map]; unfold maxLen; omega) (by rw [List.length_map]; omega) hsz
                    rw [List.length_map] at hown5
                    have hown6 : Hid (w5.ownsRow w1.heap.size 3 1 v5 (m0 + sumLen (D.hands.take (k + 1))) (((D.stock ++ D.heap) ++ (D.hands.take (k + 1)).flatten).map (Value.int .i64))) := Lib.hid (by rw [HTj, HFj, ← List.append_assoc, List.map_append, ← Nat.add_assoc]; exact hown5)
                    have hb5 : Below w1.heap.size wr w5 := (Below.refl _ _).grown hgr5 hsz (own_block hown)
                    have HB5 : Hid (Below w.heap.size w w5) := Lib.hid (hB.trans (hb5.mono (Nat.le_of_lt l1)))
                    have HG5 : Hid (w5.heap[w.heap.size]? = w3.heap[w.heap.size]?) := Lib.hid ((hb5.block _ l1).trans hGm)
                    have HS5 : Hid (w1.heap.size ≤ w5.heap.size) := Lib.hid (Nat.le_trans hsz hb5.size)
                    obtain ⟨op5, oc5, eo5⟩ := own_shape hown5
                    subst eo5
                    have Q5 := Lib.hid hr5
                    clear hown hown5 hr5 hgr5 hr' HTj HFj hB hb5 hGm hsz
                    obtain ⟨m, hm⟩ : ∃ m, m = D.hands[k].length := ⟨_, rfl⟩
                    rw [← hm] at hc Q5 hsm hown6
                    clear hm
                    go_wp2_with (at_builtin; refine Lib.wpList_append_run _ rfl _ _ _ _ rfl _ _ rfl rfl _ _ Q5.out ?_)
                    go_roundw
                    case rel => exact ⟨k + 1, by omega, by go_num, HB5.out, HG5.out, HS5.out, hown6.out⟩
                    case measure => simp [intOf]; omega
                  · obtain rfl : k = n := by omega
                    have et : D.hands.take k = D.hands := by rw [Hn.out, List.take_length]
                    have eS : (D.stock ++ D.heap) ++ D.hands.flatten = allS D := rfl
                    have eL : (allS D).length = m0 + sumLen D.hands := by rw [← eS]; simp only [List.length_append, flat_len]; have := Hm0.out; omega
                    rw [et, eS] at hown
                    rw [et] at hst0
                    obtain ⟨b', -, hrd⟩ := RdAt.ofOwn hown eL.symm Hwf.out
                    have HIs := Lib.hid (sIsHand_any _ _ b' wr hrd (by rw [eL]; omega))
                    obtain ⟨op, oc, eo⟩ := own_shape hown
                    subst eo
                    have hW : ((((m0 + sumLen D.hands : Nat) : Int) == 52) && isHand (allS D)) = r := by rw [← HR2.out]; unfold wholeB; rw [eL]
                    obtain ⟨x, hx⟩ : ∃ x, x = m0 + sumLen D.hands := ⟨_, rfl⟩
                    rw [← hx] at HIs hW
                    have hx2 : (m0 : Int) + (sumLen D.hands : Int) = (x : Int) := by omega
                    rw [← hx]
                    obtain ⟨qa, hqa⟩ : ∃ q, ((x : Int) == 52) = q := ⟨_, rfl⟩
                    obtain ⟨qb, hqb⟩ : ∃ q, isHand (allS D) = q := ⟨_, rfl⟩
                    rw [hqa, hqb] at hW
                    rw [hqb] at HIs
                    have HW2 := Lib.hid hW
                    have hxb : x ≤ 4194304 := by omega
                    clear hown hrd eL eS hx hW hqb et hst hst0 hx2
                    cases qa with
                    | false =>
                      obtain rfl : false = r := HW2.out
                      go_wp2_with fail
                      go_ret
                      exact ⟨rfl, hB⟩
                    | true =>
                      obtain rfl : qb = r := HW2.out
                      go_wp2_with fail
                      refine HIs.out.mono ?_
                      rintro e w6 ⟨rfl, B6⟩
                      have B7 := hB.trans (B6.mono hB.size)
                      go_wp2_with fail
                      go_ret
                      exact ⟨rfl, B7⟩
end Go.Proofs.YtmfammgdcdlceaaDoor
