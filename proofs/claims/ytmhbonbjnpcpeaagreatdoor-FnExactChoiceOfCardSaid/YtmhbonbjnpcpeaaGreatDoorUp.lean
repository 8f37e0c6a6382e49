/-
  A game taken up to be played on.
-/
import Derived.Test.YtmhbonbjnpcpeaaGreatDoorM12
import Derived.Laws.OwnMore
import Derived.Laws.CopyOwn
import Derived.Test.YtmhbonbjnpcpeaaGreatDoorM13
import Derived.Test.YtmhbonbjnpcpeaaGreatDoorM10
namespace Go.Proofs.YtmhbonbjnpcpeaaGreatDoor
open Go.RowKit
set_option linter.unusedVariables false
set_option linter.unusedSimpArgs false

theorem rows_two {w : World} {g : Nat} {v0 v1 : Value} {z0 z1 : List Int} {b0 b1 : Nat} {t : TypeId} (hg : w.heap[g]? = some (.cells #[v0, v1] t (0, 0))) (h0 : RdAt .i64 w v0 z0 b0) (h1 : RdAt .i64 w v1 z1 b1) :
    RdRows .i64 w (.slice (some ⟨g, 0, none⟩) 2 2) [z0, z1] := by
  refine ⟨_, 2, rfl, ⟨Nat.le_refl _, by unfold maxLen; decide, fun e => by cases e⟩, .inr ⟨g, 0, rfl, fun j hj => ?_⟩⟩
  have hc : ∀ i, w.cell? ⟨g, i, none⟩ = #[v0, v1][i]? := fun i => by simp [World.cell?, hg]
  match j, hj with
  | 0, _ => exact ⟨v0, b0, by rw [hc]; rfl, h0⟩
  | 1, _ => exact ⟨v1, b1, by rw [hc]; rfl, h1⟩
set_option maxRecDepth 100000 in
set_option maxHeartbeats 2000000 in
theorem copyRows_own (v : Value) (zss : List (List Int)) (w : World) (h : RdRows .i64 w v zss) (hl : zss.length ≤ 1048576) (hl2 : sumLen zss ≤ 1048576) :
    Calls Tryz.prog 43 #[v] w fun e w' => ∃ v', e = .returned v' ∧ OwnR (In w.heap.size w'.heap.size) w' v' zss ∧ Below w.heap.size w w' := by
  obtain ⟨i0, hi, hz0, hz1, hz2⟩ := info_parts info_rowI
  obtain ⟨i1, gi, gz0, gz1, gz2⟩ := info_parts info_i64
  have hrow := fun wx (hb : Below w.heap.size w wx) j (hj : j < zss.length) => (h.below hb).row hj
  obtain ⟨a, cap, rfl, hcap, -⟩ := id h
  obtain ⟨n, hn⟩ : ∃ n, n = zss.length := ⟨_, rfl⟩
  have Hn := Lib.hid hn
  have Hrow := Lib.hid hrow
  have Hsum : Hid (∀ j (hj : j < zss.length), zss[j].length ≤ 1048576) := Lib.hid (fun j hj => Nat.le_trans (len_le_sum zss hj) hl2)
  have Hi := Lib.hid (And.intro gi (And.intro gz0 (And.intro gz1 gz2)))
  rw [← hn] at hl ⊢
  clear hn hrow h hcap hl2 gi gz0 gz1 gz2
  go_enter Tryz.func43, Tryz.ntmps43
  go_wp2_with (at_make; refine wpList_make_full _ rfl _ _ 25 rfl w.heap.size 22 i0 (.slice none 0 0) 1 Tryz.underlying25 hi hz0 hz1 _ _ _ _ n rfl rfl rfl rfl ?c1 ?c2 ?c3 ?_)
  case c1 => rw [hz2]; omega
  case c2 => unfold maxLen; omega
  case c3 => exact Nat.le_refl _
  intro w1 hown hgr
  have hb1 : Below w.heap.size w w1 := (Below.refl _ _).grown hgr (Nat.le_refl _) (fun k hk => by cases hk)
  have hlt1 := own_madeIntS hown
  clear hgr hi hz0 hz1 hz2
  go_wp2_with fail
  go_loopw [4, 5, 11] (fun _ _ i wr => ∃ k : Nat, k ≤ n ∧ i = .int .i64 k ∧ Below w.heap.size w wr ∧ w.heap.size < wr.heap.size ∧ ∃ (xs : List Value) (bf : Nat → Nat), wr.ownsRow w.heap.size 22 1 (.slice (some ⟨w.heap.size, 0, none⟩) n n) n xs ∧
      Hid (∀ i j, i < j → j < k → bf i < bf j) ∧ Hid (∀ j (hj : j < zss.length), j < k → w.heap.size < bf j ∧ bf j < wr.heap.size ∧ ∃ r, xs[j]? = some r ∧ WrAt .i64 wr r zss[j] (bf j) ∧ ∃ p, r = .slice p zss[j].length zss[j].length)) (fun _ _ i _ => n - (intOf i).toNat)
  case atStart => exact ⟨0, Nat.zero_le _, rfl, hb1, hlt1, _, fun _ => 0, hown, Lib.hid (fun i j _ h => by omega), Lib.hid (fun j _ h => by omega)⟩
  case round =>
    clear hown hb1 hlt1
    obtain ⟨k, hk, rfl, B, hlt1, xs, bf, hown, hmono, hxs⟩ := hrel
    by_cases hlt : k < n
    · have hz : k < zss.length := by rw [← Hn.out]; exact hlt
      obtain ⟨blk, off, cap', p, c, b, hv, hcw, hrw, -⟩ := Hrow.out w (Below.refl _ _) k hz
      have ha := (Value.slice.inj hv).1
      clear hv
      subst ha
      have hc := (B.cell (World.block_lt_of_cell? _ _ hcw)).trans hcw
      have hr := hrw.below B
      have hblt := hrw.lt
      clear hcw hrw
      have hsm := Hsum.out k hz
      have Hz : Hid (k < zss.length) := Lib.hid hz
      obtain ⟨zs, hzs⟩ : ∃ zs, zs = zss[k]'hz := ⟨_, rfl⟩
      rw [← hzs] at hc hr hsm hblt
      have Hzs := Lib.hid hzs
      have Hr := Lib.hid hr
      obtain ⟨m, hm⟩ : ∃ m, m = zs.length := ⟨_, rfl⟩
      have Hm := Lib.hid hm
      rw [← hm] at hc hsm
      clear hr hzs hm
      obtain ⟨gi, gz0, gz1, gz2⟩ := Hi.out
      go_wp2_with (at_make; refine wpList_make_full _ rfl _ _ 22 rfl wr.heap.size 3 i1 (.int .i64 0) 1 Tryz.underlying22 gi gz0 gz1 _ _ _ _ m rfl rfl rfl rfl ?d1 ?d2 ?d3 ?_)
      case d1 => rw [gz2]; omega
      case d2 => unfold maxLen; omega
      case d3 => exact Nat.le_refl _
      intro w2 hmk hgr2
      have B2 : Below wr.heap.size wr w2 := (Below.refl _ _).grown hgr2 (Nat.le_refl _) (fun k hk => by cases hk)
      have hlt2 : wr.heap.size < w2.heap.size := own_madeIntS hmk
      have hown2 := own_below hown B2
      have hB2 := B.trans (B2.mono B.size)
      obtain ⟨x, hx⟩ : ∃ x, xs[k]? = some x := ⟨_, List.getElem?_eq_getElem (by rw [hown.1]; omega)⟩
      have hc2 : w2.cell? ⟨w.heap.size, k, none⟩ = some x := by rw [hown2.cellAt k (by omega), hx]
      have hf2 : w2.frozen? ⟨w.heap.size, k, none⟩ = false := hown2.frozenAt k
      have hst := (hown2.stored k (.slice (some ⟨wr.heap.size, 0, none⟩) m m)).1
      obtain ⟨ws, hws⟩ : ∃ ws, ws = w2.setCell ⟨w.heap.size, k, none⟩ (.slice (some ⟨wr.heap.size, 0, none⟩) m m) := ⟨_, rfl⟩
      have hkeep : ∀ q, q ≠ w.heap.size → ws.heap[q]? = w2.heap[q]? := fun q hq => by rw [hws]; exact Below.heap_setCell _ _ _ _ hq
      have hs3 : ws.heap.size = w2.heap.size := by rw [hws]; simp [World.setCell]
      have hBs : Below w.heap.size w ws := by rw [hws]; exact hB2.setCell (Nat.le_refl _) _
      obtain ⟨cur, hcur, hcl⟩ : ∃ cur : List Value, ws.heap[wr.heap.size]? = some (.cells cur.toArray 3 (0, 0)) ∧ cur.length = m := by
        rcases hmk.2 with ⟨e, -⟩ | ⟨g', cap', cur, e, hg, hh, hnc, hcm, hcs, htake⟩
        · cases e
        · simp only [Value.slice.injEq, Option.some.injEq, Addr.mk.injEq, and_true, true_and] at e
          obtain ⟨rfl, rfl⟩ := e
          exact ⟨cur.toList, by rw [hkeep _ (by omega)]; simpa using hh, by simpa using hcs⟩
      rw [← hws] at hst
      have HL : Hid (ws.cell? ⟨w.heap.size, k, none⟩ = some (.slice (some ⟨wr.heap.size, 0, none⟩) m m)) := Lib.hid (by
        rw [hst.cellAt k (by omega), List.getElem?_set_self (by rw [hown.1]; omega)])
      have hpos : 0 < (zs.map (Value.int .i64)).length → (some ⟨wr.heap.size, 0, none⟩ : Option Addr) = some ⟨wr.heap.size, 0, none⟩ ∧ ∃ ad, p = some ad ∧ ∀ j v, (zs.map (Value.int .i64))[j]? = some v → ws.cell? (ad.add j) = some v := fun h0 => by
        refine ⟨rfl, ?_⟩
        rcases Hr.out.open with ⟨e, -⟩ | ⟨hne, off2, cap2, e, hcap2, hcc⟩
        · rw [e] at h0; simp at h0
        · simp only [Value.slice.injEq] at e
          refine ⟨_, e.1, fun j u hu => ?_⟩
          have hj : j < zs.length := by have := (List.getElem?_eq_some_iff.1 hu).1; simpa using this
          have e2 : (⟨b, off2, none⟩ : Addr).add j = ⟨b, off2 + j, none⟩ := by simp [Addr.add]
          have hjc := hcc j hj
          have hbl := hblt (by intro e; rw [e] at hj; simp at hj)
          rw [e2, World.cell?_of_block (w := wr) (a := ⟨b, off2 + j, none⟩) ((hkeep b (by omega)).trans (B2.block b (by omega))), hjc]
          simpa [hj] using hu
      have HP := Lib.hid hpos
      have HcL : Hid ((zs.map (Value.int .i64)).length = m) := Lib.hid (by rw [List.length_map]; exact Hm.out.symm)
      have HR : Hid (ws.heap[wr.heap.size]? = some (.cells cur.toArray 3 (0, 0))) := Lib.hid hcur
      have Hcl := Lib.hid hcl
      have hone : ∀ u ∈ zs.map (Value.int .i64), u.oneCell' = true := by intro u hu; simp at hu; obtain ⟨y, _, rfl⟩ := hu; rfl
      -- what holds behind the copy
      have HN : Hid (∀ w4, w4.heap[wr.heap.size]? = some (.cells (splice cur 0 (zs.map (Value.int .i64))).toArray 3 (0, 0)) → Below wr.heap.size ws w4 → Below w.heap.size w w4 ∧ w.heap.size < w4.heap.size ∧ ∃ (xs : List Value) (bf : Nat → Nat), w4.ownsRow w.heap.size 22 1 (.slice (some ⟨w.heap.size, 0, none⟩) n n) n xs ∧
          Hid (∀ i j, i < j → j < k + 1 → bf i < bf j) ∧ Hid (∀ j (hj : j < zss.length), j < k + 1 → w.heap.size < bf j ∧ bf j < w4.heap.size ∧ ∃ r, xs[j]? = some r ∧ WrAt .i64 w4 r zss[j] (bf j) ∧ ∃ p, r = .slice p zss[j].length zss[j].length)) := Lib.hid (fun w4 h4 B4 => by
        have hsz4 := B4.size
        refine ⟨hBs.trans (B4.mono (by omega)), by omega, xs.set k (.slice (some ⟨wr.heap.size, 0, none⟩) m m), fun j => if j = k then wr.heap.size else bf j, ?_, ?_, ?_⟩
        · obtain ⟨hl0, hst⟩ := hst
          refine ⟨hl0, hst.imp id ?_⟩
          rintro ⟨g', cap', cur', e, hg, hh, r⟩
          refine ⟨g', cap', cur', e, hg, ?_, r⟩
          simp only [Value.slice.injEq, Option.some.injEq, Addr.mk.injEq, and_true, true_and] at e
          rw [B4.block g' (by omega)]; exact hh
        · refine Lib.hid (fun i j hij hj => ?_)
          have hik : i ≠ k := by omega
          have hiz : i < zss.length := by have := Hz.out; omega
          simp only [if_neg hik]
          by_cases e : j = k
          · rw [if_pos e]; exact (hxs.out i hiz (by omega)).2.1
          · rw [if_neg e]; exact hmono.out i j hij (by omega)
        · refine Lib.hid (fun j hjz hj => ?_)
          by_cases e : j = k
          · subst e
            simp only [if_true]
            refine ⟨hlt1, by omega, _, by rw [List.getElem?_set_self (by rw [hown.1]; omega)], ?_⟩
            rw [← Hzs.out]
            have hwf := Hr.out.wf
            have hsp : splice cur 0 (zs.map (Value.int .i64)) = zs.map (Value.int .i64) := by
              unfold splice
              rw [List.take_zero, List.nil_append, Nat.zero_add, HcL.out, List.drop_eq_nil_of_le (by rw [Hcl.out]; exact Nat.le_refl _), List.append_nil]
            rw [hsp] at h4
            refine ⟨⟨_, m, by rw [Hm.out], ⟨by rw [Hm.out]; exact Nat.le_refl _, by unfold maxLen; omega, fun e => by cases e⟩, hwf, .inr ⟨0, rfl, fun i hi => ?_, fun i hi => ?_⟩⟩, _, by rw [Hm.out]⟩
            · simp [World.cell?, h4, hi]
            · simp [World.frozen?, h4]
          · obtain ⟨g1, g2, r, g3, g4⟩ := hxs.out j hjz (by omega)
            simp only [if_neg e]
            refine ⟨g1, by omega, r, by rw [List.getElem?_set_ne (by omega)]; exact g3, ?_⟩
            exact ⟨g4.1.keep fun _ => (B4.block _ g2).trans ((hkeep _ (by omega)).trans (B2.block _ g2)), g4.2⟩)
      have HWS := Lib.hid hws
      have HBsz : Hid (wr.heap.size ≤ ws.heap.size) := Lib.hid (by omega)
      clear hpos hcur hcl hst hBs hs3 hkeep hmk hown2 hB2 B2 hgr2 hx hown hxs hmono B hws hblt
      go_upto_region 6 with fail
      rw [← HWS.out]
      have hld := HL.out
      go_wp2_with (first | (refine wpList_copy_splice rfl (.tmp 25) (.tmp 26) 22 22 rfl 3 Tryz.underlying22 (by kernel_rfl) (some ⟨wr.heap.size, 0, none⟩) p m m m c rfl rfl wr.heap.size 0 cur 3 HR.out (zs.map (Value.int .i64)) (by rw [HcL.out]; exact (Nat.min_self m).symm) HP.out (by rw [HcL.out, Hcl.out]; omega) hone wr.heap.size ws (Below.refl _ _) (Nat.le_refl _) ?_) | fail)
      intro w4 hg4 hb4
      obtain ⟨n1, n2, xs2, bf2, n3, n4, n5⟩ := HN.out w4 hg4.out hb4
      clear hg4 hb4 hld
      go_wp2_with fail
      go_roundw
      case rel => exact ⟨k + 1, by omega, by go_num, n1, n2, xs2, bf2, n3, n4, n5⟩
      case measure => simp [intOf]; omega
    · obtain rfl : k = n := by omega
      have hfin : Hid (OwnR (In w.heap.size wr.heap.size) wr (.slice (some ⟨w.heap.size, 0, none⟩) k k) zss) := Lib.hid (by
        have hown' : wr.ownsRow w.heap.size 22 1 (.slice (some ⟨w.heap.size, 0, none⟩) k k) zss.length xs := by rw [← Hn.out]; exact hown
        refine ⟨xs, own_to0 hown', fun g hg => ⟨own_block hown' g hg, own_lt hown' hg⟩, fun j hj => ?_, fun i j ri rj hij hi hj g hgi hgj => ?_⟩
        · obtain ⟨g1, g2, r, g3, g4, p, e⟩ := hxs.out j hj (by rw [Hn.out]; exact hj)
          exact ⟨r, g3, OwnI.full e g4 (fun _ => ⟨⟨by omega, g2⟩, by simp [Value.ownBlock]; omega⟩)⟩
        · have hl := hown'.1
          have hi' : i < zss.length := by have := (List.getElem?_eq_some_iff.1 hi).1; omega
          have hj' : j < zss.length := by have := (List.getElem?_eq_some_iff.1 hj).1; omega
          obtain ⟨-, -, r, g3, g4, p, e⟩ := hxs.out i hi' (by rw [Hn.out]; exact hi')
          obtain ⟨-, -, r', g3', g4', p', e'⟩ := hxs.out j hj' (by rw [Hn.out]; exact hj')
          obtain rfl : r = ri := Option.some.inj (g3.symm.trans hi)
          obtain rfl : r' = rj := Option.some.inj (g3'.symm.trans hj)
          have hkn := Hn.out
          have a1 : bf i = g := by
            rcases full_held e g4 with ⟨-, h⟩ | ⟨-, h⟩ <;> rw [h] at hgi
            · cases hgi
            · exact Option.some.inj hgi
          have a2 : bf j = g := by
            rcases full_held e' g4' with ⟨-, h⟩ | ⟨-, h⟩ <;> rw [h] at hgj
            · cases hgj
            · exact Option.some.inj hgj
          rcases Nat.lt_or_gt_of_ne hij with h | h
          · have := hmono.out i j h (by omega); omega
          · have := hmono.out j i h (by omega); omega)
      clear hxs hmono hown
      go_wp2_with fail
      go_ret
      exact ⟨_, rfl, hfin.out, B⟩
/-- What a game in play holds: the rules made ready as they were in world wc, hands and cards of the call's own. -/
structure Up (L : Nat) (wc w : World) (D : MGame) (v4 v5 f g : Value) (q8 qc : Option Addr) (d8 dc : Nat) (S8 Sc : Nat → Prop) : Prop where
  ready : ReadyAt L wc D.rules v4 v5 f g
  keep : Keeps L wc w
  le : L ≤ wc.heap.size
  r4 : ∃ b, RdAt .i64 w v4 D.rules.wild b ∧ (D.rules.wild ≠ [] → b < L)
  r5 : ∃ b, RdAt .i64 w v5 D.rules.skip b ∧ (D.rules.skip ≠ [] → b < L)
  hands : OwnR S8 w (.slice q8 D.hands.length d8) D.hands
  cards : OwnI Sc w (.slice qc (D.stock.length + D.heap.length) dc) (D.stock ++ D.heap)
  in8 : ∀ b, S8 b → wc.heap.size ≤ b ∧ b < w.heap.size
  inc : ∀ b, Sc b → wc.heap.size ≤ b ∧ b < w.heap.size
  apart : ∀ b, S8 b → ¬ Sc b
theorem Up.below {L : Nat} {wc w w' : World} {D : MGame} {v4 v5 f g : Value} {q8 qc : Option Addr} {d8 dc : Nat} {S8 Sc : Nat → Prop} (h : Up L wc w D v4 v5 f g q8 qc d8 dc S8 Sc) (b : Below w.heap.size w w') : Up L wc w' D v4 v5 f g q8 qc d8 dc S8 Sc := by
  obtain ⟨h1, h2, h3, ⟨b4, h4, h4'⟩, ⟨b5, h5, h5'⟩, h6, h7, h8, h9, h10⟩ := h
  have hw := h2.1
  exact ⟨h1, ⟨Nat.le_trans hw b.size, fun k a1 a2 => (b.block k (by omega)).trans (h2.2 k a1 a2)⟩, h3, ⟨b4, h4.below b, h4'⟩, ⟨b5, h5.below b, h5'⟩, h6.below b, h7.below b, fun k hk => ⟨(h8 k hk).1, by have := (h8 k hk).2; have := b.size; omega⟩, fun k hk => ⟨(h9 k hk).1, by have := (h9 k hk).2; have := b.size; omega⟩, h10⟩
set_option maxRecDepth 100000 in
set_option maxHeartbeats 4000000 in
theorem takeUp_any (v : Value) (D : MGame) (w : World) (h : RdGame w v D) (hf : D.Few) (hG : Grps w) :
    Calls Tryz.prog 30 #[v] w fun e w' => (∃ cs : Array Value, e = .returned (.tuple #[.agg cs, .bool (goesOn D)]) ∧ (goesOn D = false → cs = #[.int .i64 0, .int .i64 0, .bool false, .bool false, .slice none 0 0, .slice none 0 0, .int .i64 0, .int .i64 0, .nilFunc, .nilFunc, .slice none 0 0, .int .i64 0, .int .i64 0, .slice none 0 0, .int .i64 0, .int .i64 0, .int .i64 0]) ∧ (goesOn D = true → ∃ wc v4 v5 nf cf ng cg q8 qc d8 dc S8 Sc, cs = #[.int .i64 D.rules.players, .int .i64 D.rules.each, .bool D.rules.sameSuit, .bool D.rules.sameRank, v4, v5, .int .i64 D.rules.take, .int .i64 D.rules.limit, .func (.func nf) #[] cf, .func (.func ng) #[] cg, .slice q8 D.hands.length d8, .int .i64 D.rules.players, .int .i64 D.turn, .slice qc (D.stock.length + D.heap.length) dc, .int .i64 D.stock.length, .int .i64 D.moves, .int .i64 D.passes] ∧ Up (w.heap.size + 2) wc w' D v4 v5 (.func (.func nf) #[] cf) (.func (.func ng) #[] cg) q8 qc d8 dc S8 Sc)) ∧ Below w.heap.size w w' := by
  have h00 := h
  obtain ⟨p4, p5, p8, p9, p10, c4, c5, c8, c9, c10, b9, b10, rfl, h0, h8, h9, h10, wf0, wf1, wf2⟩ := h
  obtain ⟨f0, f8, fs8, f9, f10⟩ := id hf
  have HRo := Lib.hid (fun wx (hb : Below w.heap.size w wx) => rulesOf_own _ D wx (h00.below hb) hf (hG.below hb) _ rfl)
  have HO := Lib.hid (fun wx (hb : Below w.heap.size w wx) => isAtEnd_any _ D wx (h00.below hb) hf _ rfl)
  have HCr := Lib.hid (fun wx (hb : Below w.heap.size w wx) => copyRows_own _ D.hands wx (h8.below hb) f8 fs8)
  have HCc : Hid (∀ wx, Below w.heap.size w wx → ∀ x, wx.heap[x]? = some (.cells #[.slice p9 D.stock.length c9, .slice p10 D.heap.length c10] 22 (0, 0)) → Calls Tryz.prog 44 #[.slice (some ⟨x, 0, none⟩) 2 2] wx fun e w' => ∃ v', e = .returned v' ∧ OwnI (In wx.heap.size w'.heap.size) w' v' (D.stock ++ D.heap) ∧ Below wx.heap.size wx w') := Lib.hid (fun wx hb x hx => by
    have hr := rows_two hx (h9.below hb) (h10.below hb)
    refine (catAll_any _ _ wx hr (by simp) (by simp [sumLen]; omega)).mono ?_
    rintro e w' ⟨v', rfl, hown, B'⟩
    have e1 : [D.stock, D.heap].flatten = D.stock ++ D.heap := by simp
    have e2 : sumLen [D.stock, D.heap] = (D.stock ++ D.heap).length := by simp [sumLen]
    rw [e1, e2] at hown
    exact ⟨v', rfl, OwnI.of hown (fun y hy => (List.mem_append.1 hy).elim (h9.wf y) (h10.wf y)), B'⟩)
  have H2 := Lib.hid (fun w1 o1 o2 bb => two_boxesR (w := w) (w1 := w1) (o1 := o1) (o2 := o2) bb)
  have B0 : ∀ o1 o2, Below w.heap.size w ((w.alloc o1).alloc o2) := fun o1 o2 => ((Below.refl w.heap.size w).alloc (Nat.le_refl _) o1).alloc (by simp) o2
  have Hr45 : Hid ((∃ b, RdAt .i64 w (.slice p4 D.rules.wild.length c4) D.rules.wild b) ∧ ∃ b, RdAt .i64 w (.slice p5 D.rules.skip.length c5) D.rules.skip b) := Lib.hid (by
    obtain ⟨v4, v5, b4, b5, e, h4, h5, -⟩ := h0
    simp at e
    obtain ⟨rfl, rfl⟩ := e
    exact ⟨⟨b4, h4⟩, ⟨b5, h5⟩⟩)
  clear h00 h0 h8 h9 h10 hf f0 f8 fs8 f9 f10 hG wf0 wf1 wf2
  go_enter Tryz.func30, Tryz.ntmps30
  go_wp2_with fail
  refine (HRo.out _ (B0 _ _)).mono ?_
  rintro e w1 ⟨⟨v4, v5, f, g, rfl, hrd⟩, B1⟩
  obtain ⟨Bw1, G1, R1⟩ := H2.out _ _ _ B1
  have l1 : w.heap.size + 1 < w1.heap.size := (Array.getElem?_eq_some_iff.1 R1).1
  have hsz : ((w.alloc (.cells #[.int .i64 D.rules.players, .int .i64 D.rules.each, .bool D.rules.sameSuit, .bool D.rules.sameRank, .slice p4 D.rules.wild.length c4, .slice p5 D.rules.skip.length c5, .int .i64 D.rules.take, .int .i64 D.rules.limit, .slice p8 D.hands.length c8, .slice p9 D.stock.length c9, .slice p10 D.heap.length c10, .int .i64 D.turn, .int .i64 D.moves, .int .i64 D.passes] 32)).alloc (.cells #[.int .i64 0, .int .i64 0, .bool false, .bool false, .slice none 0 0, .slice none 0 0, .int .i64 0, .int .i64 0, .nilFunc, .nilFunc, .slice none 0 0, .int .i64 0, .int .i64 0, .slice none 0 0, .int .i64 0, .int .i64 0, .int .i64 0] 67)).heap.size = w.heap.size + 2 := by simp
  rw [hsz] at hrd
  clear B1 hsz
  cases hq : gameB D with
  | false =>
    have hb := Lib.hid (goes_0 hq)
    obtain ⟨wA, hwA⟩ : ∃ W, W = w1.alloc (.cells #[.int .i64 0, .int .i64 0, .bool false, .bool false, .slice none 0 0, .slice none 0 0, .int .i64 0, .int .i64 0, .nilFunc, .nilFunc] 61) := ⟨_, rfl⟩
    have bA : Below w1.heap.size w1 wA := by rw [hwA]; exact (Below.refl _ _).alloc (Nat.le_refl _) _
    have RA := (bA.block _ l1).trans R1
    have BA := Bw1.trans (bA.mono Bw1.size)
    have N2 := Lib.hid (And.intro (setRow_heap wA (w.heap.size + 1) _ #[.int .i64 0, .int .i64 0, .bool false, .bool false, .slice none 0 0, .slice none 0 0, .int .i64 0, .int .i64 0, .nilFunc, .nilFunc, .slice none 0 0, .int .i64 0, .int .i64 0, .slice none 0 0, .int .i64 0, .int .i64 0, .int .i64 0] _ _ RA) (below_setRow BA (Nat.le_succ _) #[.int .i64 0, .int .i64 0, .bool false, .bool false, .slice none 0 0, .slice none 0 0, .int .i64 0, .int .i64 0, .nilFunc, .nilFunc, .slice none 0 0, .int .i64 0, .int .i64 0, .slice none 0 0, .int .i64 0, .int .i64 0, .int .i64 0]))
    have HwA := Lib.hid hwA
    clear hq hrd bA hwA BA G1 R1
    unfold readyV
    go_upto_region 3 with fail
    rw [← HwA.out]
    obtain ⟨NZ, BZ⟩ := N2.out
    refine wp_region_lit ?_
    refine wpList_plain (by rfl) (fun K hK => ?_)
    go_simp
    refine hK _ _ ?_
    clear hK K
    refine wpList_store_row rfl 67 _ _ rfl (w.heap.size + 1) #[.int .i64 0, .int .i64 0, .bool false, .bool false, .slice none 0 0, .slice none 0 0, .int .i64 0, .int .i64 0, .nilFunc, .nilFunc, .slice none 0 0, .int .i64 0, .int .i64 0, .slice none 0 0, .int .i64 0, .int .i64 0, .int .i64 0] rfl rfl 67 _ RA (by kernel_rfl) rfl (by simp [Value.oneCell']) ?_
    clear RA NZ BZ
    go_wp2_with fail
    refine bodyPost_ret (results_row_tmp rfl _ _ (w.heap.size + 1) _ _ _ _ rfl N2.out.1 Tryz.underlying67 rfl (by kernel_rfl)) rfl ⟨⟨#[.int .i64 0, .int .i64 0, .bool false, .bool false, .slice none 0 0, .slice none 0 0, .int .i64 0, .int .i64 0, .nilFunc, .nilFunc, .slice none 0 0, .int .i64 0, .int .i64 0, .slice none 0 0, .int .i64 0, .int .i64 0, .int .i64 0], ?_, fun _ => rfl, ?_⟩, N2.out.2⟩
    · rw [hb.out]; rfl
    · intro h; rw [hb.out] at h; cases h
  | true =>
    have HQ := Lib.hid hq
    rw [hq] at hrd
    obtain ⟨⟨⟨b4, hr4⟩, ⟨b5, hr5⟩, hmf, hmg⟩, hsame⟩ := hrd rfl
    obtain ⟨x8, x9, x10, hs⟩ := hsame.out
    simp at hs
    obtain ⟨rfl, rfl, -⟩ := hs
    clear hsame
    obtain ⟨nf, cf, ef, -⟩ := id hmf
    obtain ⟨ng, cg, eg, -⟩ := id hmg
    subst ef eg
    have hready : Hid (ReadyAt (w.heap.size + 2) w1 D.rules (.slice p4 D.rules.wild.length c4) (.slice p5 D.rules.skip.length c5) (.func (.func nf) #[] cf) (.func (.func ng) #[] cg)) := Lib.hid ⟨⟨b4, hr4⟩, ⟨b5, hr5⟩, hmf, hmg⟩
    obtain ⟨wA, hwA⟩ : ∃ W, W = w1.alloc (.cells #[.int .i64 D.rules.players, .int .i64 D.rules.each, .bool D.rules.sameSuit, .bool D.rules.sameRank, .slice p4 D.rules.wild.length c4, .slice p5 D.rules.skip.length c5, .int .i64 D.rules.take, .int .i64 D.rules.limit, .func (.func nf) #[] cf, .func (.func ng) #[] cg] 61) := ⟨_, rfl⟩
    have bA : Below w1.heap.size w1 wA := by rw [hwA]; exact (Below.refl _ _).alloc (Nat.le_refl _) _
    have GA := (bA.block _ (show w.heap.size < w1.heap.size by omega)).trans G1
    have RA := (bA.block _ l1).trans R1
    have FA : wA.heap[w1.heap.size]? = some (.cells #[.int .i64 D.rules.players, .int .i64 D.rules.each, .bool D.rules.sameSuit, .bool D.rules.sameRank, .slice p4 D.rules.wild.length c4, .slice p5 D.rules.skip.length c5, .int .i64 D.rules.take, .int .i64 D.rules.limit, .func (.func nf) #[] cf, .func (.func ng) #[] cg] 61 (0, 0)) := by rw [hwA]; exact heap_alloc_new _ _
    have lA : w1.heap.size < wA.heap.size := (Array.getElem?_eq_some_iff.1 FA).1
    have BA := Bw1.trans (bA.mono Bw1.size)
    have HbA := Lib.hid bA
    have HwA := Lib.hid hwA
    obtain ⟨k0, k1, k2, k3, k4, k5, k6, k7, k8, k9, k10, k11, k12, k13⟩ := SGame_cells GA
    have hz2 : Hid (w.heap.size + 2 ≤ w1.heap.size) := Lib.hid (by omega)
    clear hrd hr4 hr5 hmf hmg hwA bA G1 R1 hq
    unfold readyV
    go_upto_region 2 with fail
    rw [← HwA.out]
    go_wp2_with fail
    refine (HO.out _ BA).mono ?_
    rintro e w2 ⟨rfl, B2⟩
    have BB := BA.trans (B2.mono BA.size)
    have G2 := (B2.block _ (show w.heap.size < wA.heap.size by omega)).trans GA
    have R2 := (B2.block _ (show w.heap.size + 1 < wA.heap.size by omega)).trans RA
    have F2 := (B2.block _ lA).trans FA
    have Hb2 := Lib.hid (HbA.out.trans (B2.mono HbA.out.size))
    clear k0 k1 k2 k3 k4 k5 k6 k7 k8 k9 k10 k11 k12 k13
    cases ho : overB D with
    | true =>
      have hb := Lib.hid (goes_1 ho)
      have N2 := Lib.hid (And.intro (setRow_heap w2 (w.heap.size + 1) _ #[.int .i64 0, .int .i64 0, .bool false, .bool false, .slice none 0 0, .slice none 0 0, .int .i64 0, .int .i64 0, .nilFunc, .nilFunc, .slice none 0 0, .int .i64 0, .int .i64 0, .slice none 0 0, .int .i64 0, .int .i64 0, .int .i64 0] _ _ R2) (below_setRow BB (Nat.le_succ _) #[.int .i64 0, .int .i64 0, .bool false, .bool false, .slice none 0 0, .slice none 0 0, .int .i64 0, .int .i64 0, .nilFunc, .nilFunc, .slice none 0 0, .int .i64 0, .int .i64 0, .slice none 0 0, .int .i64 0, .int .i64 0, .int .i64 0]))
      clear GA RA FA lA BA B2 BB G2 F2 ho
      go_upto_region 3 with fail
      refine wp_region_lit ?_
      refine wpList_plain (by rfl) (fun K hK => ?_)
      go_simp
      refine hK _ _ ?_
      clear hK K
      refine wpList_store_row rfl 67 _ _ rfl (w.heap.size + 1) #[.int .i64 0, .int .i64 0, .bool false, .bool false, .slice none 0 0, .slice none 0 0, .int .i64 0, .int .i64 0, .nilFunc, .nilFunc, .slice none 0 0, .int .i64 0, .int .i64 0, .slice none 0 0, .int .i64 0, .int .i64 0, .int .i64 0] rfl rfl 67 _ R2 (by kernel_rfl) rfl (by simp [Value.oneCell']) ?_
      clear R2
      go_wp2_with fail
      refine bodyPost_ret (results_row_tmp rfl _ _ (w.heap.size + 1) _ _ _ _ rfl N2.out.1 Tryz.underlying67 rfl (by kernel_rfl)) rfl ⟨⟨#[.int .i64 0, .int .i64 0, .bool false, .bool false, .slice none 0 0, .slice none 0 0, .int .i64 0, .int .i64 0, .nilFunc, .nilFunc, .slice none 0 0, .int .i64 0, .int .i64 0, .slice none 0 0, .int .i64 0, .int .i64 0, .int .i64 0], ?_, fun _ => rfl, ?_⟩, N2.out.2⟩
      · rw [hb.out]; rfl
      · intro h; rw [hb.out] at h; cases h
    | false =>
      have hb : Hid (goesOn D = true) := Lib.hid (by
        cases hg : gameB D with
        | true => exact goes_2 hg ho
        | false => exact absurd HQ.out (by rw [hg]; decide))
      have hz3 : Hid (w1.heap.size < w2.heap.size) := Lib.hid (by have := B2.size; omega)
      have Bx : ∀ wx, Below w2.heap.size w2 wx → Below w.heap.size w wx := fun wx hb => BB.trans (hb.mono BB.size)
      have H8 := Lib.hid (fun wx (hb : Below w2.heap.size w2 wx) => HCr.out wx (Bx wx hb))
      have HCat := Lib.hid (fun wx (hb : Below w2.heap.size w2 wx) x hx => HCc.out wx (Bx wx hb) x hx)
      have HC := Lib.hid (fun wx (hb : Below w2.heap.size w2 wx) => And.intro (SGame_cells ((hb.block _ (show w.heap.size < w2.heap.size by have := B2.size; omega)).trans G2)) (tenG ((hb.block _ (show w1.heap.size < w2.heap.size by have := B2.size; omega)).trans F2)))
      have HR := Lib.hid (fun wx (hb : Below w2.heap.size w2 wx) => (hb.block _ (show w.heap.size + 1 < w2.heap.size by have := B2.size; omega)).trans R2)
      have HBx := Lib.hid Bx
      clear GA RA FA lA BA B2 BB G2 R2 F2 ho Bx
      go_upto_region 4 with fail
      refine wp_region_table [(0, some 18, .is (.agg #[.int .i64 D.rules.players, .int .i64 D.rules.each, .bool D.rules.sameSuit, .bool D.rules.sameRank, .slice p4 D.rules.wild.length c4, .slice p5 D.rules.skip.length c5, .int .i64 D.rules.take, .int .i64 D.rules.limit, .func (.func nf) #[] cf, .func (.func ng) #[] cg])), (1, some 19, .is (.pointer (some ⟨w.heap.size, 8, none⟩))), (2, some 20, .is (.slice p8 D.hands.length c8)), (3, some 21, .rows D.hands), (4, some 22, .is (.pointer (some ⟨w.heap.size, 0, none⟩))), (5, some 23, .is (.pointer (some ⟨w.heap.size, 0, none⟩))), (6, some 24, .is (.int .i64 D.rules.players)), (7, some 25, .is (.pointer (some ⟨w.heap.size, 11, none⟩))), (8, some 26, .is (.int .i64 D.turn)), (9, some 27, .is (.agg #[.int .i64 D.rules.players, .int .i64 D.turn])), (10, some 28, .is (.pointer (some ⟨w.heap.size, 9, none⟩))), (11, some 29, .is (.slice p9 D.stock.length c9)), (12, some 30, .is (.pointer (some ⟨w.heap.size, 10, none⟩))), (13, some 31, .is (.slice p10 D.heap.length c10)), (14, some 32, .own (fun S w v => ∃ x, v = .slice (some ⟨x, 0, none⟩) 2 2 ∧ w.heap[x]? = some (.cells #[.slice p9 D.stock.length c9, .slice p10 D.heap.length c10] 22 (0, 0))) (fun S w w' v h b => by obtain ⟨x, e, h⟩ := h; exact ⟨x, e, (b.block _ (Array.getElem?_eq_some_iff.1 h).1).trans h⟩)), (15, some 33, .ints (D.stock ++ D.heap)), (16, some 34, .is (.pointer (some ⟨w.heap.size, 9, none⟩))), (17, some 35, .is (.slice p9 D.stock.length c9)), (18, some 36, .is (.int .i64 D.stock.length)), (19, some 37, .fn [15] (fun vs => .agg #[vs.getD 0 undef, .int .i64 D.stock.length])), (20, some 38, .is (.pointer (some ⟨w.heap.size, 12, none⟩))), (21, some 39, .is (.int .i64 D.moves)), (22, some 40, .is (.pointer (some ⟨w.heap.size, 13, none⟩))), (23, some 41, .is (.int .i64 D.passes))] 3 (by kernel_rfl) (by kernel_rfl) (by kernel_rfl) (by kernel_rfl) (by kernel_rfl) (L := #[true, true, true, true, true, true, true, true, true, true, true, true, true, true, true, true, true, true, true, true, true, true, true, true, false, false, false]) (by kernel_rfl) ?steps ?fin
      case steps =>
        refine StepsT.cons [] (by simp only [List.getElem?_toArray, List.getElem?_cons_succ, List.getElem?_cons_zero]; rfl) (by kernel_rfl) (by rfl) (fun wx val iv hB hV K hK => ?_) ?_
        · (obtain ⟨⟨k0, k1, k2, k3, k4, k5, k6, k7, k8, k9, k10, k11, k12, k13⟩, j0, j1, j2, j3, j4, j5, j6, j7, j8, j9⟩ := HC.out wx hB); clear hV; simp only [putT, List.foldl_cons, List.foldl_nil, Made.val, Act.put, List.setIfInBounds_toArray, List.set_cons_zero, List.set_cons_succ]; go_simp; exact hK.out _ _ rfl (Below.refl _ _)
        refine StepsT.cons [] (by simp only [List.getElem?_toArray, List.getElem?_cons_succ, List.getElem?_cons_zero]; rfl) (by kernel_rfl) (by rfl) (fun wx val iv hB hV K hK => ?_) ?_
        · clear hV; simp only [putT, List.foldl_cons, List.foldl_nil, Made.val, Act.put, List.setIfInBounds_toArray, List.set_cons_zero, List.set_cons_succ]; go_simp; exact hK.out _ _ rfl (Below.refl _ _)
        refine StepsT.cons [(1, some 19, .is (.pointer (some ⟨w.heap.size, 8, none⟩)))] (by simp only [List.getElem?_toArray, List.getElem?_cons_succ, List.getElem?_cons_zero]; rfl) (by kernel_rfl) (by rfl) (fun wx val iv hB hV K hK => ?_) ?_
        · (obtain ⟨⟨k0, k1, k2, k3, k4, k5, k6, k7, k8, k9, k10, k11, k12, k13⟩, j0, j1, j2, j3, j4, j5, j6, j7, j8, j9⟩ := HC.out wx hB); clear hV; simp only [putT, List.foldl_cons, List.foldl_nil, Made.val, Act.put, List.setIfInBounds_toArray, List.set_cons_zero, List.set_cons_succ]; go_simp; exact hK.out _ _ rfl (Below.refl _ _)
        refine StepsT.cons [(2, some 20, .is (.slice p8 D.hands.length c8))] (by simp only [List.getElem?_toArray, List.getElem?_cons_succ, List.getElem?_cons_zero]; rfl) (by kernel_rfl) (by rfl) (fun wx val iv hB hV K hK => ?_) ?_
        · (clear hV; simp only [putT, List.foldl_cons, List.foldl_nil, Made.val, Act.put, List.setIfInBounds_toArray, List.set_cons_zero, List.set_cons_succ]; go_simp; go_at_call 43; refine (H8.out wx hB).mono ?_; rintro e wa ⟨va, rfl, hwa, Ba⟩; exact hK.out _ _ hwa Ba)
        refine StepsT.cons [] (by simp only [List.getElem?_toArray, List.getElem?_cons_succ, List.getElem?_cons_zero]; rfl) (by kernel_rfl) (by rfl) (fun wx val iv hB hV K hK => ?_) ?_
        · clear hV; simp only [putT, List.foldl_cons, List.foldl_nil, Made.val, Act.put, List.setIfInBounds_toArray, List.set_cons_zero, List.set_cons_succ]; go_simp; exact hK.out _ _ rfl (Below.refl _ _)
        refine StepsT.cons [(4, some 22, .is (.pointer (some ⟨w.heap.size, 0, none⟩)))] (by simp only [List.getElem?_toArray, List.getElem?_cons_succ, List.getElem?_cons_zero]; rfl) (by kernel_rfl) (by rfl) (fun wx val iv hB hV K hK => ?_) ?_
        · clear hV; simp only [putT, List.foldl_cons, List.foldl_nil, Made.val, Act.put, List.setIfInBounds_toArray, List.set_cons_zero, List.set_cons_succ]; go_simp; exact hK.out _ _ rfl (Below.refl _ _)
        refine StepsT.cons [(5, some 23, .is (.pointer (some ⟨w.heap.size, 0, none⟩)))] (by simp only [List.getElem?_toArray, List.getElem?_cons_succ, List.getElem?_cons_zero]; rfl) (by kernel_rfl) (by rfl) (fun wx val iv hB hV K hK => ?_) ?_
        · (obtain ⟨⟨k0, k1, k2, k3, k4, k5, k6, k7, k8, k9, k10, k11, k12, k13⟩, j0, j1, j2, j3, j4, j5, j6, j7, j8, j9⟩ := HC.out wx hB); clear hV; simp only [putT, List.foldl_cons, List.foldl_nil, Made.val, Act.put, List.setIfInBounds_toArray, List.set_cons_zero, List.set_cons_succ]; go_simp; exact hK.out _ _ rfl (Below.refl _ _)
        refine StepsT.cons [] (by simp only [List.getElem?_toArray, List.getElem?_cons_succ, List.getElem?_cons_zero]; rfl) (by kernel_rfl) (by rfl) (fun wx val iv hB hV K hK => ?_) ?_
        · clear hV; simp only [putT, List.foldl_cons, List.foldl_nil, Made.val, Act.put, List.setIfInBounds_toArray, List.set_cons_zero, List.set_cons_succ]; go_simp; exact hK.out _ _ rfl (Below.refl _ _)
        refine StepsT.cons [(7, some 25, .is (.pointer (some ⟨w.heap.size, 11, none⟩)))] (by simp only [List.getElem?_toArray, List.getElem?_cons_succ, List.getElem?_cons_zero]; rfl) (by kernel_rfl) (by rfl) (fun wx val iv hB hV K hK => ?_) ?_
        · (obtain ⟨⟨k0, k1, k2, k3, k4, k5, k6, k7, k8, k9, k10, k11, k12, k13⟩, j0, j1, j2, j3, j4, j5, j6, j7, j8, j9⟩ := HC.out wx hB); clear hV; simp only [putT, List.foldl_cons, List.foldl_nil, Made.val, Act.put, List.setIfInBounds_toArray, List.set_cons_zero, List.set_cons_succ]; go_simp; exact hK.out _ _ rfl (Below.refl _ _)
        refine StepsT.cons [(6, some 24, .is (.int .i64 D.rules.players)), (8, some 26, .is (.int .i64 D.turn))] (by simp only [List.getElem?_toArray, List.getElem?_cons_succ, List.getElem?_cons_zero]; rfl) (by kernel_rfl) (by rfl) (fun wx val iv hB hV K hK => ?_) ?_
        · clear hV; simp only [putT, List.foldl_cons, List.foldl_nil, Made.val, Act.put, List.setIfInBounds_toArray, List.set_cons_zero, List.set_cons_succ]; go_simp; exact hK.out _ _ rfl (Below.refl _ _)
        refine StepsT.cons [] (by simp only [List.getElem?_toArray, List.getElem?_cons_succ, List.getElem?_cons_zero]; rfl) (by kernel_rfl) (by rfl) (fun wx val iv hB hV K hK => ?_) ?_
        · clear hV; simp only [putT, List.foldl_cons, List.foldl_nil, Made.val, Act.put, List.setIfInBounds_toArray, List.set_cons_zero, List.set_cons_succ]; go_simp; exact hK.out _ _ rfl (Below.refl _ _)
        refine StepsT.cons [(10, some 28, .is (.pointer (some ⟨w.heap.size, 9, none⟩)))] (by simp only [List.getElem?_toArray, List.getElem?_cons_succ, List.getElem?_cons_zero]; rfl) (by kernel_rfl) (by rfl) (fun wx val iv hB hV K hK => ?_) ?_
        · (obtain ⟨⟨k0, k1, k2, k3, k4, k5, k6, k7, k8, k9, k10, k11, k12, k13⟩, j0, j1, j2, j3, j4, j5, j6, j7, j8, j9⟩ := HC.out wx hB); clear hV; simp only [putT, List.foldl_cons, List.foldl_nil, Made.val, Act.put, List.setIfInBounds_toArray, List.set_cons_zero, List.set_cons_succ]; go_simp; exact hK.out _ _ rfl (Below.refl _ _)
        refine StepsT.cons [] (by simp only [List.getElem?_toArray, List.getElem?_cons_succ, List.getElem?_cons_zero]; rfl) (by kernel_rfl) (by rfl) (fun wx val iv hB hV K hK => ?_) ?_
        · clear hV; simp only [putT, List.foldl_cons, List.foldl_nil, Made.val, Act.put, List.setIfInBounds_toArray, List.set_cons_zero, List.set_cons_succ]; go_simp; exact hK.out _ _ rfl (Below.refl _ _)
        refine StepsT.cons [(12, some 30, .is (.pointer (some ⟨w.heap.size, 10, none⟩)))] (by simp only [List.getElem?_toArray, List.getElem?_cons_succ, List.getElem?_cons_zero]; rfl) (by kernel_rfl) (by rfl) (fun wx val iv hB hV K hK => ?_) ?_
        · (obtain ⟨⟨k0, k1, k2, k3, k4, k5, k6, k7, k8, k9, k10, k11, k12, k13⟩, j0, j1, j2, j3, j4, j5, j6, j7, j8, j9⟩ := HC.out wx hB); clear hV; simp only [putT, List.foldl_cons, List.foldl_nil, Made.val, Act.put, List.setIfInBounds_toArray, List.set_cons_zero, List.set_cons_succ]; go_simp; exact hK.out _ _ rfl (Below.refl _ _)
        refine StepsT.cons [(11, some 29, .is (.slice p9 D.stock.length c9)), (13, some 31, .is (.slice p10 D.heap.length c10))] (by simp only [List.getElem?_toArray, List.getElem?_cons_succ, List.getElem?_cons_zero]; rfl) (by kernel_rfl) (by rfl) (fun wx val iv hB hV K hK => ?_) ?_
        · clear hV; simp only [putT, List.foldl_cons, List.foldl_nil, Made.val, Act.put, List.setIfInBounds_toArray, List.set_cons_zero, List.set_cons_succ]; go_simp; exact hK.out _ _ ⟨_, rfl, heap_alloc_new _ _⟩ ((Below.refl _ _).alloc (Nat.le_refl _) _)
        refine StepsT.cons [(3, some 21, .rows D.hands), (14, some 32, .own (fun S w v => ∃ x, v = .slice (some ⟨x, 0, none⟩) 2 2 ∧ w.heap[x]? = some (.cells #[.slice p9 D.stock.length c9, .slice p10 D.heap.length c10] 22 (0, 0))) (fun S w w' v h b => by obtain ⟨x, e, h⟩ := h; exact ⟨x, e, (b.block _ (Array.getElem?_eq_some_iff.1 h).1).trans h⟩))] (by simp only [List.getElem?_toArray, List.getElem?_cons_succ, List.getElem?_cons_zero]; rfl) (by kernel_rfl) (by rfl) (fun wx val iv hB hV K hK => ?_) ?_
        · (obtain ⟨x, ex, hx⟩ := hV (14, some 32, .own (fun S w v => ∃ x, v = .slice (some ⟨x, 0, none⟩) 2 2 ∧ w.heap[x]? = some (.cells #[.slice p9 D.stock.length c9, .slice p10 D.heap.length c10] 22 (0, 0))) (fun S w w' v h b => by obtain ⟨x, e, h⟩ := h; exact ⟨x, e, (b.block _ (Array.getElem?_eq_some_iff.1 h).1).trans h⟩)) (by simp); (try dsimp only at ex); simp only [putT, List.foldl_cons, List.foldl_nil, Made.val, Act.put, List.setIfInBounds_toArray, List.set_cons_zero, List.set_cons_succ]; rw [ex]; go_simp; go_at_call 44; refine (HCat.out wx hB x hx).mono ?_; rintro e wa ⟨va, rfl, hwa, Ba⟩; rw [← ex]; exact hK.out _ _ hwa Ba)
        refine StepsT.cons [] (by simp only [List.getElem?_toArray, List.getElem?_cons_succ, List.getElem?_cons_zero]; rfl) (by kernel_rfl) (by rfl) (fun wx val iv hB hV K hK => ?_) ?_
        · clear hV; simp only [putT, List.foldl_cons, List.foldl_nil, Made.val, Act.put, List.setIfInBounds_toArray, List.set_cons_zero, List.set_cons_succ]; go_simp; exact hK.out _ _ rfl (Below.refl _ _)
        refine StepsT.cons [(16, some 34, .is (.pointer (some ⟨w.heap.size, 9, none⟩)))] (by simp only [List.getElem?_toArray, List.getElem?_cons_succ, List.getElem?_cons_zero]; rfl) (by kernel_rfl) (by rfl) (fun wx val iv hB hV K hK => ?_) ?_
        · (obtain ⟨⟨k0, k1, k2, k3, k4, k5, k6, k7, k8, k9, k10, k11, k12, k13⟩, j0, j1, j2, j3, j4, j5, j6, j7, j8, j9⟩ := HC.out wx hB); clear hV; simp only [putT, List.foldl_cons, List.foldl_nil, Made.val, Act.put, List.setIfInBounds_toArray, List.set_cons_zero, List.set_cons_succ]; go_simp; exact hK.out _ _ rfl (Below.refl _ _)
        refine StepsT.cons [(17, some 35, .is (.slice p9 D.stock.length c9))] (by simp only [List.getElem?_toArray, List.getElem?_cons_succ, List.getElem?_cons_zero]; rfl) (by kernel_rfl) (by rfl) (fun wx val iv hB hV K hK => ?_) ?_
        · clear hV; simp only [putT, List.foldl_cons, List.foldl_nil, Made.val, Act.put, List.setIfInBounds_toArray, List.set_cons_zero, List.set_cons_succ]; go_simp; exact hK.out _ _ rfl (Below.refl _ _)
        refine StepsT.cons [(15, some 33, .ints (D.stock ++ D.heap)), (18, some 36, .is (.int .i64 D.stock.length))] (by simp only [List.getElem?_toArray, List.getElem?_cons_succ, List.getElem?_cons_zero]; rfl) (by kernel_rfl) (by rfl) (fun wx val iv hB hV K hK => ?_) ?_
        · (obtain ⟨qz, dz, eq⟩ := OwnI.shape (hV (15, some 33, .ints (D.stock ++ D.heap)) (by simp)); (try dsimp only at eq); rw [List.length_append] at eq; simp only [putT, List.foldl_cons, List.foldl_nil, Made.val, Act.put, List.setIfInBounds_toArray, List.set_cons_zero, List.set_cons_succ]; rw [eq]; go_simp; rw [← eq]; exact hK.out _ _ rfl (Below.refl _ _))
        refine StepsT.cons [] (by simp only [List.getElem?_toArray, List.getElem?_cons_succ, List.getElem?_cons_zero]; rfl) (by kernel_rfl) (by rfl) (fun wx val iv hB hV K hK => ?_) ?_
        · clear hV; simp only [putT, List.foldl_cons, List.foldl_nil, Made.val, Act.put, List.setIfInBounds_toArray, List.set_cons_zero, List.set_cons_succ]; go_simp; exact hK.out _ _ rfl (Below.refl _ _)
        refine StepsT.cons [(20, some 38, .is (.pointer (some ⟨w.heap.size, 12, none⟩)))] (by simp only [List.getElem?_toArray, List.getElem?_cons_succ, List.getElem?_cons_zero]; rfl) (by kernel_rfl) (by rfl) (fun wx val iv hB hV K hK => ?_) ?_
        · (obtain ⟨⟨k0, k1, k2, k3, k4, k5, k6, k7, k8, k9, k10, k11, k12, k13⟩, j0, j1, j2, j3, j4, j5, j6, j7, j8, j9⟩ := HC.out wx hB); clear hV; simp only [putT, List.foldl_cons, List.foldl_nil, Made.val, Act.put, List.setIfInBounds_toArray, List.set_cons_zero, List.set_cons_succ]; go_simp; exact hK.out _ _ rfl (Below.refl _ _)
        refine StepsT.cons [] (by simp only [List.getElem?_toArray, List.getElem?_cons_succ, List.getElem?_cons_zero]; rfl) (by kernel_rfl) (by rfl) (fun wx val iv hB hV K hK => ?_) ?_
        · clear hV; simp only [putT, List.foldl_cons, List.foldl_nil, Made.val, Act.put, List.setIfInBounds_toArray, List.set_cons_zero, List.set_cons_succ]; go_simp; exact hK.out _ _ rfl (Below.refl _ _)
        refine StepsT.cons [(22, some 40, .is (.pointer (some ⟨w.heap.size, 13, none⟩)))] (by simp only [List.getElem?_toArray, List.getElem?_cons_succ, List.getElem?_cons_zero]; rfl) (by kernel_rfl) (by rfl) (fun wx val iv hB hV K hK => ?_) ?_
        · (obtain ⟨⟨k0, k1, k2, k3, k4, k5, k6, k7, k8, k9, k10, k11, k12, k13⟩, j0, j1, j2, j3, j4, j5, j6, j7, j8, j9⟩ := HC.out wx hB); clear hV; simp only [putT, List.foldl_cons, List.foldl_nil, Made.val, Act.put, List.setIfInBounds_toArray, List.set_cons_zero, List.set_cons_succ]; go_simp; exact hK.out _ _ rfl (Below.refl _ _)
        exact StepsT.nil
      case fin =>
        intro wx val iv BX hV hD
        obtain ⟨hv8, l8, u8⟩ := hV (3, some 21, .rows D.hands) (by simp)
        obtain ⟨hvc, lc, uc⟩ := hV (15, some 33, .ints (D.stock ++ D.heap)) (by simp)
        have hvp := (hV (19, some 37, .fn [15] (fun vs => .agg #[vs.getD 0 undef, .int .i64 D.stock.length])) (by simp)).1
        have hd1 := hD 3 (by simp) 15 (by simp) (by decide)
        clear hV hD
        obtain ⟨q8, d8, e8⟩ := OwnR.shape hv8
        obtain ⟨qc, dc, ec⟩ := OwnI.shape hvc
        dsimp only [Made.means] at hv8 hvc hvp l8 u8 lc uc
        (try dsimp only at e8 ec)
        have hvp2 : val 19 = .agg #[val 15, .int .i64 D.stock.length] := hvp
        rw [List.length_append] at ec
        rw [ec] at hvp2 hvc
        rw [e8] at hv8
        simp only [putT, List.foldl_cons, List.foldl_nil, Made.val, Act.put, List.setIfInBounds_toArray, List.set_cons_zero, List.set_cons_succ]
        rw [hvp2, e8, ec]
        have R3 := HR.out wx BX
        obtain ⟨cs, hcs⟩ : ∃ cs : Array Value, cs = #[.int .i64 D.rules.players, .int .i64 D.rules.each, .bool D.rules.sameSuit, .bool D.rules.sameRank, .slice p4 D.rules.wild.length c4, .slice p5 D.rules.skip.length c5, .int .i64 D.rules.take, .int .i64 D.rules.limit, .func (.func nf) #[] cf, .func (.func ng) #[] cg, .slice q8 D.hands.length d8, .int .i64 D.rules.players, .int .i64 D.turn, .slice qc (D.stock.length + D.heap.length) dc, .int .i64 D.stock.length, .int .i64 D.moves, .int .i64 D.passes] := ⟨_, rfl⟩
        have N3 := setRow_heap wx (w.heap.size + 1) _ cs _ _ R3
        have BN := below_setRow (HBx.out wx BX) (Nat.le_succ w.heap.size) cs
        have tN := touch_setRow wx (w.heap.size + 1) cs
        have hsN : (wx.setRow (w.heap.size + 1) cs).heap.size = wx.heap.size := by simp [World.setRow]
        have HUp : Hid (Up (w.heap.size + 2) w1 (wx.setRow (w.heap.size + 1) cs) D (.slice p4 D.rules.wild.length c4) (.slice p5 D.rules.skip.length c5) (.func (.func nf) #[] cf) (.func (.func ng) #[] cg) q8 qc d8 dc (In (iv 3).1 (iv 3).2) (In (iv 15).1 (iv 15).2)) := Lib.hid (by
          have z2 := hz2.out
          have z3 := hz3.out
          have hbig := HBx.out wx BX
          obtain ⟨⟨b4, h4⟩, ⟨b5, h5⟩⟩ := Hr45.out
          refine ⟨hready.out, ⟨?_, fun k h1 h2 => ?_⟩, z2, ⟨b4, (h4.below hbig).keep (fun hz => setRow_other _ _ _ _ (by have := h4.lt hz; omega)), fun hz => by have := h4.lt hz; omega⟩, ⟨b5, (h5.below hbig).keep (fun hz => setRow_other _ _ _ _ (by have := h5.lt hz; omega)), fun hz => by have := h5.lt hz; omega⟩, hv8.touch tN (fun b hb e => by have := hb.1; omega), hvc.touch tN (fun b hb e => by have := hb.1; omega), fun b hb => ?_, fun b hb => ?_, fun b h1 h2 => ?_⟩
          · have := Hb2.out.size; have := BX.size; omega
          · have := Hb2.out.size
            rw [setRow_other _ _ _ _ (by omega), BX.block k (by omega)]; exact Hb2.out.block k h2
          · obtain ⟨h1, h2⟩ := hb; exact ⟨by omega, by omega⟩
          · obtain ⟨h1, h2⟩ := hb; exact ⟨by omega, by omega⟩
          · obtain ⟨h3, h4⟩ := h1; obtain ⟨h5, h6⟩ := h2; omega)
        have HN := Lib.hid (And.intro N3 BN)
        subst hcs
        clear hv8 hvc hvp hvp2 e8 ec l8 u8 lc uc hd1 tN hsN N3 BN
        refine wpAny_one (i := 24) (by kernel_rfl) (by simp only [List.getElem?_toArray, List.getElem?_cons_succ, List.getElem?_cons_zero]; rfl) (fun K hK => ?_)
        go_simp
        refine hK.out _ _ ?_
        clear hK K
        refine wpAny_one (i := 25) (by kernel_rfl) (by simp only [List.getElem?_toArray, List.getElem?_cons_succ, List.getElem?_cons_zero]; rfl) (fun K hK => ?_)
        rw [if_pos (by rfl)]
        refine wp_store_row 67 (.tmp 2) (.tmp 42) (by rfl) (w.heap.size + 1) #[.int .i64 D.rules.players, .int .i64 D.rules.each, .bool D.rules.sameSuit, .bool D.rules.sameRank, .slice p4 D.rules.wild.length c4, .slice p5 D.rules.skip.length c5, .int .i64 D.rules.take, .int .i64 D.rules.limit, .func (.func nf) #[] cf, .func (.func ng) #[] cg, .slice q8 D.hands.length d8, .int .i64 D.rules.players, .int .i64 D.turn, .slice qc (D.stock.length + D.heap.length) dc, .int .i64 D.stock.length, .int .i64 D.moves, .int .i64 D.passes] (by rfl) (by rfl) 67 _ R3 (by kernel_rfl) (by rfl) (by simp [Value.oneCell']) (hK.out _ _ ?_)
        clear hK K
        refine wpAny_one (i := 26) (by kernel_rfl) (by simp only [List.getElem?_toArray, List.getElem?_cons_succ, List.getElem?_cons_zero]; rfl) (fun K hK => ?_)
        go_simp
        refine hK.out _ _ ?_
        clear hK K
        refine wpAny_end (by kernel_rfl) ?_
        clear R3
        go_wp2_with fail
        refine bodyPost_ret (results_row_tmp rfl _ _ (w.heap.size + 1) _ _ _ _ rfl HN.out.1 Tryz.underlying67 rfl (by kernel_rfl)) rfl ⟨⟨#[.int .i64 D.rules.players, .int .i64 D.rules.each, .bool D.rules.sameSuit, .bool D.rules.sameRank, .slice p4 D.rules.wild.length c4, .slice p5 D.rules.skip.length c5, .int .i64 D.rules.take, .int .i64 D.rules.limit, .func (.func nf) #[] cf, .func (.func ng) #[] cg, .slice q8 D.hands.length d8, .int .i64 D.rules.players, .int .i64 D.turn, .slice qc (D.stock.length + D.heap.length) dc, .int .i64 D.stock.length, .int .i64 D.moves, .int .i64 D.passes], ?_, fun h => absurd h (by rw [hb.out]; decide), fun _ => ⟨w1, _, _, _, _, _, _, _, _, _, _, _, _, rfl, HUp.out⟩⟩, HN.out.2⟩
        rw [hb.out]; rfl
end Go.Proofs.YtmhbonbjnpcpeaaGreatDoor
