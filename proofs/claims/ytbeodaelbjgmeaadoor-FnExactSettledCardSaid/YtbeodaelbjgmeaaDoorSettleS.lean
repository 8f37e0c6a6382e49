/-
  Settled, the model's side.
-/
import Derived.Test.YtbeodaelbjgmeaaDoorSettle0
import Derived.Test.YtbeodaelbjgmeaaDoorGameT
namespace Go.Proofs.YtbeodaelbjgmeaaDoor
open Go.RowKit
set_option linter.unusedVariables false
set_option linter.unusedSimpArgs false

theorem own_baseS {w : World} {B B' : Nat} {E : TypeId} {size n : Nat} {v : Value} {xs : List Value} (h : w.ownsRow B E size v n xs) (hb : B' ≤ B) : w.ownsRow B' E size v n xs := by
  refine ⟨h.1, h.2.imp id ?_⟩
  rintro ⟨g, cap, cur, e, hg, r⟩
  exact ⟨g, cap, cur, e, Nat.le_trans hb hg, r⟩
/-- The row of what each gets: empty as it was laid, or laid since. -/
def RowS (w0 w1 : Nat) (wr : World) (o : Value) (xs : List Int) : Prop :=
  (o = .slice (some ⟨w0, 0, none⟩) 0 0 ∧ xs = []) ∨ wr.ownsRow w1 3 1 o xs.length (xs.map (Value.int .i64))
theorem RowS.below {w0 w1 : Nat} {wr wx : World} {o : Value} {xs : List Int} (h : RowS w0 w1 wr o xs) (b : Below wr.heap.size wr wx) : RowS w0 w1 wx o xs := by
  rcases h with ⟨h1, h2⟩ | h
  · exact .inl ⟨h1, h2⟩
  · exact .inr (own_below h b)
theorem RowS.wr {w0 w1 : Nat} {wr : World} {o : Value} {xs : List Int} (h : RowS w0 w1 wr o xs) (h01 : w0 ≤ w1) (hw : ∀ n ∈ xs, (Lit.int .i64 n).wf = true) : ∃ b', w0 ≤ b' ∧ WrAt .i64 wr o xs b' := by
  rcases h with ⟨rfl, rfl⟩ | h
  · exact ⟨w0, Nat.le_refl _, WrAt.nil _ _ _ _ _ ⟨Nat.zero_le _, fun e => by cases e⟩⟩
  · obtain ⟨b', hb, hr⟩ := own_wr h hw
    exact ⟨b', by omega, hr⟩
set_option maxRecDepth 100000 in
set_option maxHeartbeats 4000000 in
theorem sSettled_any (v : Value) (D : MGame) (w : World) (h : RdGame w v D) (hf : D.Few) :
    Calls Tryd.prog 25 #[v] w fun e w' => ∃ v' b', e = .returned v' ∧ w.heap.size ≤ b' ∧ WrAt .i64 w' v' (settledG D) b' ∧ Below w.heap.size w w' := by
  have HI := Lib.hid (fun wx (hb : Below w.heap.size w wx) => sIsGame_any v D wx (h.below hb) hf _ rfl)
  have HW := Lib.hid (fun wx (hb : Below w.heap.size w wx) => sWinner_any v D wx (h.below hb) hf _ rfl)
  have HL := Lib.hid (fun wx (hb : Below w.heap.size w wx) => sLeftPoints_any v D wx (h.below hb) hf)
  obtain ⟨i0, hi, hz0, hz1, hz2⟩ := info_parts info_i64
  obtain ⟨p4, p5, p8, p9, p10, c4, c5, c8, c9, c10, b9, b10, hv, h0, h8, h9, h10, wf0, wf1, wf2⟩ := h
  obtain ⟨f0, f8, fs8, f9, f10⟩ := hf
  subst hv
  have HF := Lib.hid fs8
  have G0 : (w.alloc (.cells #[.int .i64 D.rules.players, .int .i64 D.rules.each, .bool D.rules.sameSuit, .bool D.rules.sameRank, .slice p4 D.rules.wild.length c4, .slice p5 D.rules.skip.length c5, .int .i64 D.rules.take, .int .i64 D.rules.limit, .slice p8 D.hands.length c8, .slice p9 D.stock.length c9, .slice p10 D.heap.length c10, .int .i64 D.turn, .int .i64 D.moves, .int .i64 D.passes] 32)).heap[w.heap.size]? = some (.cells #[.int .i64 D.rules.players, .int .i64 D.rules.each, .bool D.rules.sameSuit, .bool D.rules.sameRank, .slice p4 D.rules.wild.length c4, .slice p5 D.rules.skip.length c5, .int .i64 D.rules.take, .int .i64 D.rules.limit, .slice p8 D.hands.length c8, .slice p9 D.stock.length c9, .slice p10 D.heap.length c10, .int .i64 D.turn, .int .i64 D.moves, .int .i64 D.passes] 32 (0, 0)) := heap_alloc_new _ _
  have BW0 : Below w.heap.size w (w.alloc (.cells #[.int .i64 D.rules.players, .int .i64 D.rules.each, .bool D.rules.sameSuit, .bool D.rules.sameRank, .slice p4 D.rules.wild.length c4, .slice p5 D.rules.skip.length c5, .int .i64 D.rules.take, .int .i64 D.rules.limit, .slice p8 D.hands.length c8, .slice p9 D.stock.length c9, .slice p10 D.heap.length c10, .int .i64 D.turn, .int .i64 D.moves, .int .i64 D.passes] 32)) := (Below.refl _ _).alloc (Nat.le_refl _) _
  obtain ⟨W1, hW1⟩ : ∃ W1, W1 = (w.alloc (.cells #[.int .i64 D.rules.players, .int .i64 D.rules.each, .bool D.rules.sameSuit, .bool D.rules.sameRank, .slice p4 D.rules.wild.length c4, .slice p5 D.rules.skip.length c5, .int .i64 D.rules.take, .int .i64 D.rules.limit, .slice p8 D.hands.length c8, .slice p9 D.stock.length c9, .slice p10 D.heap.length c10, .int .i64 D.turn, .int .i64 D.moves, .int .i64 D.passes] 32)).alloc (.cells #[] 3) := ⟨_, rfl⟩
  have BW1 : Below w.heap.size w W1 := by rw [hW1]; exact BW0.alloc BW0.size _
  have lW1 : w.heap.size + 1 < W1.heap.size := by rw [hW1]; simp
  have G1 : W1.heap[w.heap.size]? = some (.cells #[.int .i64 D.rules.players, .int .i64 D.rules.each, .bool D.rules.sameSuit, .bool D.rules.sameRank, .slice p4 D.rules.wild.length c4, .slice p5 D.rules.skip.length c5, .int .i64 D.rules.take, .int .i64 D.rules.limit, .slice p8 D.hands.length c8, .slice p9 D.stock.length c9, .slice p10 D.heap.length c10, .int .i64 D.turn, .int .i64 D.moves, .int .i64 D.passes] 32 (0, 0)) := by
    rw [hW1]
    rw [((Below.refl (w.alloc (.cells #[.int .i64 D.rules.players, .int .i64 D.rules.each, .bool D.rules.sameSuit, .bool D.rules.sameRank, .slice p4 D.rules.wild.length c4, .slice p5 D.rules.skip.length c5, .int .i64 D.rules.take, .int .i64 D.rules.limit, .slice p8 D.hands.length c8, .slice p9 D.stock.length c9, .slice p10 D.heap.length c10, .int .i64 D.turn, .int .i64 D.moves, .int .i64 D.passes] 32)).heap.size _).alloc (Nat.le_refl _) _).block w.heap.size (by simp)]
    exact G0
  have HW1 := Lib.hid hW1
  have HQ : Hid (gameB D = true → winnerG D = firstOut D.hands) := Lib.hid (fun hq => by unfold winnerG; rw [if_pos hq])
  have HS1 : Hid (gameB D = true → settledG D = if firstOut D.hands < 0 then List.replicate (leftPts D.hands).length 0 else stl (leftPts D.hands) (firstOut D.hands).toNat (leftPts D.hands).length) := Lib.hid (fun hq => by unfold settledG; rw [if_pos hq])
  have HS0 : Hid (gameB D = false → settledG D = []) := Lib.hid (fun hq => by unfold settledG; rw [hq]; rfl)
  have HWf : Hid (∀ n ∈ settledG D, (Lit.int .i64 n).wf = true) := Lib.hid (fun n hn => by
    unfold settledG at hn
    split at hn
    · split at hn
      · rw [(List.mem_replicate.1 hn).2]; rfl
      · exact stl_wf fs8 _ _ n hn
    · cases hn)
  obtain ⟨S, hS⟩ : ∃ S, S = settledG D := ⟨_, rfl⟩
  rw [← hS] at HS1 HS0 HWf ⊢
  have HGC : Hid (∀ wx, Below W1.heap.size W1 wx → wx.heap[w.heap.size]? = some (.cells #[.int .i64 D.rules.players, .int .i64 D.rules.each, .bool D.rules.sameSuit, .bool D.rules.sameRank, .slice p4 D.rules.wild.length c4, .slice p5 D.rules.skip.length c5, .int .i64 D.rules.take, .int .i64 D.rules.limit, .slice p8 D.hands.length c8, .slice p9 D.stock.length c9, .slice p10 D.heap.length c10, .int .i64 D.turn, .int .i64 D.moves, .int .i64 D.passes] 32 (0, 0))) := Lib.hid (fun wx hb => (hb.block _ (by omega)).trans G1)
  obtain ⟨k0, k1, k2, k3, k4, k5, k6, k7, k8, k9, k10, k11, k12, k13⟩ := SGame_cells G1
  rw [hW1] at k0 k1 k2 k3 k4 k5 k6 k7 k8 k9 k10 k11 k12 k13
  have HFI := Lib.hid (fun p => @first_is D.hands p)
  have hge := first_out_ge D.hands
  have Hlen : Hid ((leftPts D.hands).length = D.hands.length) := Lib.hid (leftPts_len D.hands)
  have Hzl : Hid (∀ p, ∀ h : p < (leftPts D.hands).length, ∀ h2 : p < D.hands.length, D.hands[p] = [] → (leftPts D.hands)[p] = 0) := Lib.hid (fun p h h2 e => leftPts_zero D.hands p h h2 e)
  have Hsum := Lib.hid (leftPts_sumK D.hands)
  have Hget := Lib.hid (leftPts_get D.hands)
  clear hW1 h0 h8 h9 h10 f0 f9 f10 fs8 hS G0 G1 BW0
  generalize gameB D = q at *
  go_enter Tryd.func25, Tryd.ntmps25
  go_wp2_with fail
  rw [← HW1.out]
  refine (HL.out W1 BW1).mono ?_
  rintro e w2 ⟨v2, b2, rfl, hb2, hw2, B2⟩
  have Bw2 : Below w.heap.size w w2 := BW1.trans (B2.mono BW1.size)
  have hrd2 := hw2.rd
  obtain ⟨n, hn⟩ : ∃ n, n = (leftPts D.hands).length := ⟨_, rfl⟩
  have Hn := Lib.hid hn
  have hnD : n = D.hands.length := by rw [hn, Hlen.out]
  have Hnd := Lib.hid hnD
  obtain ⟨pl, cl, e2, -⟩ := id hw2
  subst e2
  clear hw2 HL k0 k1 k2 k3 k4 k5 k6 k7 k8 k9 k10 k11 k12 k13
  rw [← hnD] at f8
  generalize leftPts D.hands = l at *
  rw [← hn] at hrd2 ⊢
  clear hn hnD
  obtain ⟨k0, k1, k2, k3, k4, k5, k6, k7, k8, k9, k10, k11, k12, k13⟩ := SGame_cells (HGC.out w2 B2)
  have hrl : Hid (RdAt .i64 w2 (.slice pl l.length cl) l b2) := Lib.hid (by rw [← Hn.out]; exact hrd2)
  clear hrd2
  go_wp2_with fail
  refine (HW.out w2 Bw2).mono ?_
  rintro e w3 ⟨rfl, B3⟩
  have B3W : Below W1.heap.size W1 w3 := B2.trans (B3.mono B2.size)
  have Bw3 : Below w.heap.size w w3 := BW1.trans (B3W.mono BW1.size)
  have hrl3 : Hid (∀ wx, Below w3.heap.size w3 wx → RdAt .i64 wx (.slice pl l.length cl) l b2) := Lib.hid (fun wx hb => (hrl.out.below B3).below hb)
  have hG3 : Hid (∀ wx, Below w3.heap.size w3 wx → wx.heap[w.heap.size]? = some (.cells #[.int .i64 D.rules.players, .int .i64 D.rules.each, .bool D.rules.sameSuit, .bool D.rules.sameRank, .slice p4 D.rules.wild.length c4, .slice p5 D.rules.skip.length c5, .int .i64 D.rules.take, .int .i64 D.rules.limit, .slice p8 D.hands.length c8, .slice p9 D.stock.length c9, .slice p10 D.heap.length c10, .int .i64 D.turn, .int .i64 D.moves, .int .i64 D.passes] 32 (0, 0))) := Lib.hid (fun wx hb => HGC.out wx (B3W.trans (hb.mono B3W.size)))
  have h01 : w.heap.size + 1 ≤ w3.heap.size := by have := B3W.size; omega
  clear hrl HGC k0 k1 k2 k3 k4 k5 k6 k7 k8 k9 k10 k11 k12 k13 HW HW1
  cases q with
  | false =>
    obtain rfl := HS0.out rfl
    have hwn : winnerG D = -1 ∨ True := .inr trivial
    generalize winnerG D = t at *
    go_wp2_with fail
    go_loopw [3, 6, 7, 8] (fun o i _ _ wr => i = .int .i64 0 ∧ o = .slice (some ⟨w.heap.size + 1, 0, none⟩) 0 0 ∧ w3 = wr) (fun _ i _ _ _ => 0)
    case atStart => exact ⟨rfl, rfl, by first | trivial | rfl⟩
    case round =>
      obtain ⟨rfl, rfl, rfl⟩ := hrel
      obtain ⟨k0, k1, k2, k3, k4, k5, k6, k7, k8, k9, k10, k11, k12, k13⟩ := SGame_cells (hG3.out w3 (Below.refl _ _))
      by_cases hlt : 0 < n
      · have hi1 : (0 : Int) < (n : Int) := by omega
        go_wp2_with fail
        refine (HI.out w3 Bw3).mono ?_
        rintro e w5 ⟨rfl, B5⟩
        have Bw5 := Bw3.trans (B5.mono Bw3.size)
        go_wp2_with fail
        go_ret
        exact ⟨_, w.heap.size + 1, rfl, by omega, WrAt.nil _ _ _ _ _ ⟨Nat.zero_le _, fun e => by cases e⟩, Bw5⟩
      · obtain rfl : n = 0 := by omega
        go_wp2_with fail
        go_ret
        exact ⟨_, w.heap.size + 1, rfl, by omega, WrAt.nil _ _ _ _ _ ⟨Nat.zero_le _, fun e => by cases e⟩, Bw3⟩
  | true =>
    have HQ1 := HQ.out rfl
    have HS2 := HS1.out rfl
    rw [HQ1]
    clear HQ HQ1 HS0 HS1
    generalize firstOut D.hands = t at *
    have hSn : S.length = n := by
      rw [HS2]; split
      · rw [List.length_replicate, Hn.out]
      · rw [stl_len, Hn.out]
    have HSn := Lib.hid hSn
    have HSg : Hid (∀ k (hk : k < n), S.take (k + 1) = S.take k ++ [if t < 0 then 0 else if (k : Int) = t then (l.take n).sum else -(l.getD k 0)]) := Lib.hid (fun k hk => by
      have hkS : k < S.length := by rw [hSn]; exact hk
      rw [List.take_succ_eq_append_getElem hkS]
      congr 2
      subst HS2
      by_cases ht : t < 0
      · simp only [if_pos ht]; simp
      · have e1 : ((k : Int) = t) = (k = t.toNat) := by apply propext; omega
        simp only [if_neg ht, stl_get, pk, e1, ← Hn.out, hk, if_true])
    clear HS2 hSn
    go_wp2_with fail
    go_loopw [3, 6, 7, 8] (fun o i _ _ wr => ∃ k : Nat, k ≤ n ∧ i = .int .i64 k ∧ Below w3.heap.size w3 wr ∧ Hid (RowS (w.heap.size + 1) w3.heap.size wr o (S.take k))) (fun _ i _ _ _ => n - (intOf i).toNat)
    case atStart => exact ⟨0, Nat.zero_le _, rfl, Below.refl _ _, Lib.hid (.inl ⟨rfl, rfl⟩)⟩
    case round =>
      obtain ⟨k, hk, rfl, Bf, hown⟩ := hrel
      obtain ⟨k0, k1, k2, k3, k4, k5, k6, k7, k8, k9, k10, k11, k12, k13⟩ := SGame_cells (hG3.out _ Bf)
      by_cases hlt : k < n
      · have hi1 : (k : Int) < (n : Int) := by omega
        have Hst := Lib.hid (HSg.out k hlt)
        have HI5 := Lib.hid (HI.out wr (Bw3.trans (Bf.mono Bw3.size)))
        go_wp2_with fail
        refine HI5.out.mono ?_
        rintro e w5 ⟨rfl, B5⟩
        have Bf5 := Bf.trans (B5.mono Bf.size)
        have hown5 := Lib.hid (hown.out.below B5)
        have hszf := Bf5.size
        clear hown HI5 k0 k1 k2 k3 k4 k5 k6 k7 k8 k9 k10 k11 k12 k13 B5 Bf
        have hown := hown5.out
        clear hown5
        by_cases ht : t < 0
        · rw [if_pos ht] at Hst
          rcases hown with ⟨rfl, hxs⟩ | hown
          · rw [hxs] at Hst
            clear hxs
            go_wp2_with (at_builtin; refine wpList_append_grows _ rfl _ _ 22 rfl 3 i0 (.int .i64 0) 1 8 Tryd.underlying22 hi hz0 hz1 hz2 rfl (by decide) (some ⟨w.heap.size + 1, 0, none⟩) 0 0 [] rfl (fun e => by cases e) rfl (fun _ _ j u h => by simp at h) ⟨w5.heap.size, 0, none⟩ 1 1 [.int .i64 0] rfl rfl ?c1 ?c2 (by omega) ?c3 (by omega) ?_)
            case c1 => exact cell_one_new _ _ _
            case c2 => intro u hu; simp at hu; subst hu; rfl
            case c3 => unfold maxLen; omega
            intro v' w6 hown' hgrow
            have hbf3 : Below w3.heap.size w3 w6 := (Bf5.alloc hszf _).grown hgrow (by simp; omega) (fun k hk => by cases hk)
            have hown3 : w6.ownsRow w3.heap.size 3 1 v' ([] ++ [0] : List Int).length (([] ++ [0] : List Int).map (Value.int .i64)) := own_baseS hown' (by first | omega | (simp; omega))
            have hrow := Lib.hid (show RowS (w.heap.size + 1) w3.heap.size w6 v' ([] ++ [0]) from .inr hown3)
            clear hown' hgrow hown3
            go_wp2_with fail
            go_roundw
            case rel => exact ⟨k + 1, by omega, by go_num, hbf3, by rw [Hst.out]; exact hrow⟩
            case measure => simp [intOf]; omega
          · obtain ⟨FF, hFF⟩ : ∃ FF, FF = S.take k := ⟨_, rfl⟩
            have hFl : FF.length ≤ 1048576 := by rw [hFF, List.length_take]; omega
            rw [← hFF] at hown Hst
            clear hFF
            go_wp2_with (at_builtin; refine wpList_append_own _ rfl _ _ 22 rfl w3.heap.size 3 i0 (.int .i64 0) 1 8 Tryd.underlying22 hi hz0 hz1 hz2 rfl (by decide) _ _ _ rfl (hown.alloc _) ⟨w5.heap.size, 0, none⟩ 1 1 [.int .i64 0] rfl rfl ?c1 ?c2 ?c3 ?c4 ?c5 ?_)
            case c1 => exact cell_one_new _ _ _
            case c2 => intro u hu; simp at hu; subst hu; rfl
            case c3 => unfold maxLen; omega
            case c4 => omega
            case c5 => simp; omega
            intro v' w6 hown' hgrow _
            have hbf3 : Below w3.heap.size w3 w6 := (Bf5.alloc hszf _).grown hgrow (by simp; omega) (own_block hown)
            have hrow := Lib.hid (show RowS (w.heap.size + 1) w3.heap.size w6 v' (FF ++ [0]) from .inr (own_snoc hown'))
            clear hown' hgrow hown
            go_wp2_with fail
            go_roundw
            case rel => exact ⟨k + 1, by omega, by go_num, hbf3, by rw [Hst.out]; exact hrow⟩
            case measure => simp [intOf]; omega
        · rw [if_neg ht] at Hst
          by_cases hkt : (k : Int) = t
          · rw [if_pos hkt] at Hst
            subst hkt
            have hL5 := Lib.hid (hrl3.out w5 Bf5)
            have hsb := HF.out
            go_wp2_with fail
            go_loopw [7, 8] (fun s i wr => ∃ q : Nat, q ≤ n ∧ i = .int .i64 q ∧ w5 = wr ∧ s = .int .i64 (l.take q).sum) (fun _ i _ => n - (intOf i).toNat)
            case atStart => exact ⟨0, Nat.zero_le _, rfl, by first | trivial | rfl, by simp⟩
            case round =>
              obtain ⟨q, hq, rfl, rfl, rfl⟩ := hrel
              have hsq := Hsum.out q
              by_cases hqn : q < n
              · have hql : q < l.length := by rw [← Hn.out]; exact hqn
                have hi2 : (q : Int) < (n : Int) := by omega
                have hst := sum_takeS l q hql
                have hsq2 := Hsum.out (q + 1)
                rcases hL5.out.open with ⟨h0, -⟩ | ⟨-, off, cap, e3, -, hcs⟩
                · rw [h0] at hql; simp at hql
                have ep := (Value.slice.inj e3).1
                subst ep
                clear e3
                obtain ⟨x, hx⟩ : ∃ x, l[q] = x := ⟨_, rfl⟩
                have hcx : w5.cell? ⟨b2, off + q, none⟩ = some (.int .i64 x) := by rw [hcs q hql, hx]
                rw [hx] at hst
                rw [hst] at hsq2
                have Hst3 := Lib.hid hst
                clear hcs hst hx
                generalize (l.take q).sum = s at *
                have hw : wrap64 (s + x) = s + x := IntWalk.wrap64_in _ (by omega)
                go_wp2_with fail
                go_roundw
                case rel => exact ⟨q + 1, by omega, by go_num, by first | trivial | rfl, by first | rw [Hst3.out] | rw [Hst3.out, hw]⟩
                case measure => simp [intOf]; omega
              · obtain rfl : q = n := by omega
                obtain ⟨y, hy⟩ : ∃ y, (l.take q).sum = y := ⟨_, rfl⟩
                rw [hy] at Hst hsq ⊢
                clear hy
                rcases hown with ⟨rfl, hxs⟩ | hown
                · rw [hxs] at Hst
                  clear hxs
                  go_wp2_with (at_builtin; refine wpList_append_grows _ rfl _ _ 22 rfl 3 i0 (.int .i64 0) 1 8 Tryd.underlying22 hi hz0 hz1 hz2 rfl (by decide) (some ⟨w.heap.size + 1, 0, none⟩) 0 0 [] rfl (fun e => by cases e) rfl (fun _ _ j u h => by simp at h) ⟨w5.heap.size, 0, none⟩ 1 1 [.int .i64 y] rfl rfl ?c1 ?c2 (by omega) ?c3 (by omega) ?_)
                  case c1 => exact cell_one_new _ _ _
                  case c2 => intro u hu; simp at hu; subst hu; rfl
                  case c3 => unfold maxLen; omega
                  intro v' w6 hown' hgrow
                  have hbf3 : Below w3.heap.size w3 w6 := (Bf5.alloc hszf _).grown hgrow (by simp; omega) (fun k hk => by cases hk)
                  have hown3 : w6.ownsRow w3.heap.size 3 1 v' ([] ++ [y] : List Int).length (([] ++ [y] : List Int).map (Value.int .i64)) := own_baseS hown' (by first | omega | (simp; omega))
                  have hrow := Lib.hid (show RowS (w.heap.size + 1) w3.heap.size w6 v' ([] ++ [y]) from .inr hown3)
                  clear hown' hgrow hown3
                  go_wp2_with fail
                  go_roundw
                  case rel => exact ⟨k + 1, by omega, by go_num, hbf3, by rw [Hst.out]; exact hrow⟩
                  case measure => simp [intOf]; omega
                · obtain ⟨FF, hFF⟩ : ∃ FF, FF = S.take k := ⟨_, rfl⟩
                  have hFl : FF.length ≤ 1048576 := by rw [hFF, List.length_take]; omega
                  rw [← hFF] at hown Hst
                  clear hFF
                  go_wp2_with (at_builtin; refine wpList_append_own _ rfl _ _ 22 rfl w3.heap.size 3 i0 (.int .i64 0) 1 8 Tryd.underlying22 hi hz0 hz1 hz2 rfl (by decide) _ _ _ rfl (hown.alloc _) ⟨w5.heap.size, 0, none⟩ 1 1 [.int .i64 y] rfl rfl ?c1 ?c2 ?c3 ?c4 ?c5 ?_)
                  case c1 => exact cell_one_new _ _ _
                  case c2 => intro u hu; simp at hu; subst hu; rfl
                  case c3 => unfold maxLen; omega
                  case c4 => omega
                  case c5 => simp; omega
                  intro v' w6 hown' hgrow _
                  have hbf3 : Below w3.heap.size w3 w6 := (Bf5.alloc hszf _).grown hgrow (by simp; omega) (own_block hown)
                  have hrow := Lib.hid (show RowS (w.heap.size + 1) w3.heap.size w6 v' (FF ++ [y]) from .inr (own_snoc hown'))
                  clear hown' hgrow hown
                  go_wp2_with fail
                  go_roundw
                  case rel => exact ⟨k + 1, by omega, by go_num, hbf3, by rw [Hst.out]; exact hrow⟩
                  case measure => simp [intOf]; omega
          · rw [if_neg hkt] at Hst
            have hkl : k < l.length := by rw [← Hn.out]; exact hlt
            rcases (hrl3.out w5 Bf5).open with ⟨h0, -⟩ | ⟨-, off, cap, e3, -, hcs⟩
            · rw [h0] at hkl; simp at hkl
            have ep := (Value.slice.inj e3).1
            subst ep
            clear e3
            obtain ⟨x, hx⟩ : ∃ x, l[k] = x := ⟨_, rfl⟩
            have hcx : w5.cell? ⟨b2, off + k, none⟩ = some (.int .i64 x) := by rw [hcs k hkl, hx]
            have hgd : l.getD k 0 = x := by rw [← hx]; simp [List.getD, hkl]
            rw [hgd] at Hst
            have hxb := Hget.out k hkl
            rw [hx] at hxb
            have hsb := HF.out
            have hneg : wrap64 (-x) = -x := IntWalk.wrap64_in _ (by omega)
            have hq : ((k : Int) == t) = false := by rw [beq_eq_false_iff_ne]; exact hkt
            clear hcs hx hgd
            rcases hown with ⟨rfl, hxs⟩ | hown
            · rw [hxs] at Hst
              clear hxs
              go_wp2_with (at_builtin; refine wpList_append_grows _ rfl _ _ 22 rfl 3 i0 (.int .i64 0) 1 8 Tryd.underlying22 hi hz0 hz1 hz2 rfl (by decide) (some ⟨w.heap.size + 1, 0, none⟩) 0 0 [] rfl (fun e => by cases e) rfl (fun _ _ j u h => by simp at h) ⟨w5.heap.size, 0, none⟩ 1 1 [.int .i64 (-x)] rfl rfl ?c1 ?c2 (by omega) ?c3 (by omega) ?_)
              case c1 => exact cell_one_new _ _ _
              case c2 => intro u hu; simp at hu; subst hu; rfl
              case c3 => unfold maxLen; omega
              intro v' w6 hown' hgrow
              have hbf3 : Below w3.heap.size w3 w6 := (Bf5.alloc hszf _).grown hgrow (by simp; omega) (fun k hk => by cases hk)
              have hown3 : w6.ownsRow w3.heap.size 3 1 v' ([] ++ [(-x)] : List Int).length (([] ++ [(-x)] : List Int).map (Value.int .i64)) := own_baseS hown' (by first | omega | (simp; omega))
              have hrow := Lib.hid (show RowS (w.heap.size + 1) w3.heap.size w6 v' ([] ++ [(-x)]) from .inr hown3)
              clear hown' hgrow hown3
              go_wp2_with fail
              go_roundw
              case rel => exact ⟨k + 1, by omega, by go_num, hbf3, by rw [Hst.out]; exact hrow⟩
              case measure => simp [intOf]; omega
            · obtain ⟨FF, hFF⟩ : ∃ FF, FF = S.take k := ⟨_, rfl⟩
              have hFl : FF.length ≤ 1048576 := by rw [hFF, List.length_take]; omega
              rw [← hFF] at hown Hst
              clear hFF
              go_wp2_with (at_builtin; refine wpList_append_own _ rfl _ _ 22 rfl w3.heap.size 3 i0 (.int .i64 0) 1 8 Tryd.underlying22 hi hz0 hz1 hz2 rfl (by decide) _ _ _ rfl (hown.alloc _) ⟨w5.heap.size, 0, none⟩ 1 1 [.int .i64 (-x)] rfl rfl ?c1 ?c2 ?c3 ?c4 ?c5 ?_)
              case c1 => exact cell_one_new _ _ _
              case c2 => intro u hu; simp at hu; subst hu; rfl
              case c3 => unfold maxLen; omega
              case c4 => omega
              case c5 => simp; omega
              intro v' w6 hown' hgrow _
              have hbf3 : Below w3.heap.size w3 w6 := (Bf5.alloc hszf _).grown hgrow (by simp; omega) (own_block hown)
              have hrow := Lib.hid (show RowS (w.heap.size + 1) w3.heap.size w6 v' (FF ++ [(-x)]) from .inr (own_snoc hown'))
              clear hown' hgrow hown
              go_wp2_with fail
              go_roundw
              case rel => exact ⟨k + 1, by omega, by go_num, hbf3, by rw [Hst.out]; exact hrow⟩
              case measure => simp [intOf]; omega
      · obtain rfl : k = n := by omega
        have he : S.take k = S := List.take_of_length_le (by rw [HSn.out]; exact Nat.le_refl _)
        rw [he] at hown
        have HWr := Lib.hid (hown.out.wr h01 HWf.out)
        have Bwr := Bw3.trans (Bf.mono Bw3.size)
        clear hown he
        go_wp2_with fail
        go_ret
        obtain ⟨b', hb', hw'⟩ := HWr.out
        exact ⟨_, b', rfl, by omega, hw', Bwr⟩
end Go.Proofs.YtbeodaelbjgmeaaDoor
