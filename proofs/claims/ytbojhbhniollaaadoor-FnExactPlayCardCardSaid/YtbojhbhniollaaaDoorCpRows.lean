/-
  copyRows: rows of the call's own.
-/
import Derived.Test.YtbojhbhniollaaaDoorOwn
import Derived.Laws.OwnMore
import Derived.Laws.CopyOwn
import Derived.Lib.AppendZerosOnto
namespace Go.Proofs.YtbojhbhniollaaaDoor
open Go.RowKit
set_option linter.unusedVariables false
set_option linter.unusedSimpArgs false

set_option maxRecDepth 100000 in
set_option maxHeartbeats 2000000 in
theorem copyRows_own (v : Value) (zss : List (List Int)) (w : World) (h : RdRows .i64 w v zss) (hl : zss.length ≤ 1048576) (hl2 : sumLen zss ≤ 1048576) :
    Calls Tryd.prog 66 #[v] w fun e w' => ∃ v', e = .returned v' ∧ OwnR (In w.heap.size w'.heap.size) w' v' zss ∧ Below w.heap.size w w' := by
  obtain ⟨i0, hi, hz0, hz1, hz2⟩ := info_parts info_rowI
  obtain ⟨i1, gi, gz0, gz1, gz2⟩ := info_parts info_i64
  have hrow := fun wx (hb : Below w.heap.size w wx) j (hj : j < zss.length) => (h.below hb).row hj
  obtain ⟨a, cap, rfl, hcap, -⟩ := id h
  obtain ⟨n, hn⟩ : ∃ n, n = zss.length := ⟨_, rfl⟩
  have Hn := Lib.hid hn
  have Hrow := Lib.hid hrow
  have Hsum : Hid (∀ j (hj : j < zss.length), zss[j].length ≤ 1048576) := Lib.hid (fun j hj => Nat.le_trans (len_le_sum zss hj) hl2)
  have Hi := Lib.hid (And.intro gi (And.intro gz0 (And.intro gz1 gz2)))
  rw [← hn] at hl ⊢
  clear hn hrow h hcap hl2 gi gz0 gz1 gz2
  go_enter Tryd.func66, Tryd.ntmps66
  go_wp2_with (at_make; refine wpList_make_full _ rfl _ _ 22 rfl w.heap.size 23 i0 (.slice none 0 0) 1 Tryd.underlying22 hi hz0 hz1 _ _ _ _ n rfl rfl rfl rfl ?c1 ?c2 ?c3 ?_)
  case c1 => rw [hz2]; omega
  case c2 => unfold maxLen; omega
  case c3 => exact Nat.le_refl _
  intro w1 hown hgr
  have hb1 : Below w.heap.size w w1 := (Below.refl _ _).grown hgr (Nat.le_refl _) (fun k hk => by cases hk)
  have hlt1 := own_madeIntS hown
  clear hgr hi hz0 hz1 hz2
  go_wp2_with fail
  go_loopw [4, 5, 11] (fun _ _ i wr => ∃ k : Nat, k ≤ n ∧ i = .int .i64 k ∧ Below w.heap.size w wr ∧ w.heap.size < wr.heap.size ∧ ∃ (xs : List Value) (bf : Nat → Nat), wr.ownsRow w.heap.size 23 1 (.slice (some ⟨w.heap.size, 0, none⟩) n n) n xs ∧
      Hid (∀ i j, i < j → j < k → bf i < bf j) ∧ Hid (∀ j (hj : j < zss.length), j < k → w.heap.size < bf j ∧ bf j < wr.heap.size ∧ ∃ r, xs[j]? = some r ∧ WrAt .i64 wr r zss[j] (bf j) ∧ ∃ p, r = .slice p zss[j].length zss[j].length)) (fun _ _ i _ => n - (intOf i).toNat)
  case atStart => exact ⟨0, Nat.zero_le _, rfl, hb1, hlt1, _, fun _ => 0, hown, Lib.hid (fun i j _ h => by omega), Lib.hid (fun j _ h => by omega)⟩
  case round =>
    clear hown hb1 hlt1
    obtain ⟨k, hk, rfl, B, hlt1, xs, bf, hown, hmono, hxs⟩ := hrel
    by_cases hlt : k < n
    · have hz : k < zss.length := by rw [← Hn.out]; exact hlt
      obtain ⟨blk, off, cap', p, c, b, hv, hcw, hrw, -⟩ := Hrow.out w (Below.refl _ _) k hz
      have ha := (Value.slice.inj hv).1
      clear hv
      subst ha
      have hc := (B.cell (World.block_lt_of_cell? _ _ hcw)).trans hcw
      have hr := hrw.below B
      have hblt := hrw.lt
      clear hcw hrw
      have hsm := Hsum.out k hz
      have Hz : Hid (k < zss.length) := Lib.hid hz
      obtain ⟨zs, hzs⟩ : ∃ zs, zs = zss[k]'hz := ⟨_, rfl⟩
      rw [← hzs] at hc hr hsm hblt
      have Hzs := Lib.hid hzs
      have Hr := Lib.hid hr
      obtain ⟨m, hm⟩ : ∃ m, m = zs.length := ⟨_, rfl⟩
      have Hm := Lib.hid hm
      rw [← hm] at hc hsm
      clear hr hzs hm
      obtain ⟨gi, gz0, gz1, gz2⟩ := Hi.out
      go_wp2_with (at_make; refine wpList_make_full _ rfl _ _ 23 rfl wr.heap.size 3 i1 (.int .i64 0) 1 Tryd.underlying23 gi gz0 gz1 _ _ _ _ m rfl rfl rfl rfl ?d1 ?d2 ?d3 ?_)
      case d1 => rw [gz2]; omega
      case d2 => unfold maxLen; omega
      case d3 => exact Nat.le_refl _
      intro w2 hmk hgr2
      have B2 : Below wr.heap.size wr w2 := (Below.refl _ _).grown hgr2 (Nat.le_refl _) (fun k hk => by cases hk)
      have hlt2 : wr.heap.size < w2.heap.size := own_madeIntS hmk
      have hown2 := own_below hown B2
      have hB2 := B.trans (B2.mono B.size)
      obtain ⟨x, hx⟩ : ∃ x, xs[k]? = some x := ⟨_, List.getElem?_eq_getElem (by rw [hown.1]; omega)⟩
      have hc2 : w2.cell? ⟨w.heap.size, k, none⟩ = some x := by rw [hown2.cellAt k (by omega), hx]
      have hf2 : w2.frozen? ⟨w.heap.size, k, none⟩ = false := hown2.frozenAt k
      have hst := (hown2.stored k (.slice (some ⟨wr.heap.size, 0, none⟩) m m)).1
      obtain ⟨ws, hws⟩ : ∃ ws, ws = w2.setCell ⟨w.heap.size, k, none⟩ (.slice (some ⟨wr.heap.size, 0, none⟩) m m) := ⟨_, rfl⟩
      have hkeep : ∀ q, q ≠ w.heap.size → ws.heap[q]? = w2.heap[q]? := fun q hq => by rw [hws]; exact Below.heap_setCell _ _ _ _ hq
      have hs3 : ws.heap.size = w2.heap.size := by rw [hws]; simp [World.setCell]
      have hBs : Below w.heap.size w ws := by rw [hws]; exact hB2.setCell (Nat.le_refl _) _
      obtain ⟨cur, hcur, hcl⟩ : ∃ cur : List Value, ws.heap[wr.heap.size]? = some (.cells cur.toArray 3 (0, 0)) ∧ cur.length = m := by
        rcases hmk.2 with ⟨e, -⟩ | ⟨g', cap', cur, e, hg, hh, hnc, hcm, hcs, htake⟩
        · cases e
        · simp only [Value.slice.injEq, Option.some.injEq, Addr.mk.injEq, and_true, true_and] at e
          obtain ⟨rfl, rfl⟩ := e
          exact ⟨cur.toList, by rw [hkeep _ (by omega)]; simpa using hh, by simpa using hcs⟩
      rw [← hws] at hst
      have HL : Hid (ws.cell? ⟨w.heap.size, k, none⟩ = some (.slice (some ⟨wr.heap.size, 0, none⟩) m m)) := Lib.hid (by
        rw [hst.cellAt k (by omega), List.getElem?_set_self (by rw [hown.1]; omega)])
      have hpos : 0 < (zs.map (Value.int .i64)).length → (some ⟨wr.heap.size, 0, none⟩ : Option Addr) = some ⟨wr.heap.size, 0, none⟩ ∧ ∃ ad, p = some ad ∧ ∀ j v, (zs.map (Value.int .i64))[j]? = some v → ws.cell? (ad.add j) = some v := fun h0 => by
        refine ⟨rfl, ?_⟩
        rcases Hr.out.open with ⟨e, -⟩ | ⟨hne, off2, cap2, e, hcap2, hcc⟩
        · rw [e] at h0; simp at h0
        · simp only [Value.slice.injEq] at e
          refine ⟨_, e.1, fun j u hu => ?_⟩
          have hj : j < zs.length := by have := (List.getElem?_eq_some_iff.1 hu).1; simpa using this
          have e2 : (⟨b, off2, none⟩ : Addr).add j = ⟨b, off2 + j, none⟩ := by simp [Addr.add]
          have hjc := hcc j hj
          have hbl := hblt (by intro e; rw [e] at hj; simp at hj)
          rw [e2, World.cell?_of_block (w := wr) (a := ⟨b, off2 + j, none⟩) ((hkeep b (by omega)).trans (B2.block b (by omega))), hjc]
          simpa [hj] using hu
      have HP := Lib.hid hpos
      have HcL : Hid ((zs.map (Value.int .i64)).length = m) := Lib.hid (by rw [List.length_map]; exact Hm.out.symm)
      have HR : Hid (ws.heap[wr.heap.size]? = some (.cells cur.toArray 3 (0, 0))) := Lib.hid hcur
      have Hcl := Lib.hid hcl
      have hone : ∀ u ∈ zs.map (Value.int .i64), u.oneCell' = true := by intro u hu; simp at hu; obtain ⟨y, _, rfl⟩ := hu; rfl
      -- what holds behind the copy
      have HN : Hid (∀ w4, w4.heap[wr.heap.size]? = some (.cells (splice cur 0 (zs.map (Value.int .i64))).toArray 3 (0, 0)) → Below wr.heap.size ws w4 → Below w.heap.size w w4 ∧ w.heap.size < w4.heap.size ∧ ∃ (xs : List Value) (bf : Nat → Nat), w4.ownsRow w.heap.size 23 1 (.slice (some ⟨w.heap.size, 0, none⟩) n n) n xs ∧
          Hid (∀ i j, i < j → j < k + 1 → bf i < bf j) ∧ Hid (∀ j (hj : j < zss.length), j < k + 1 → w.heap.size < bf j ∧ bf j < w4.heap.size ∧ ∃ r, xs[j]? = some r ∧ WrAt .i64 w4 r zss[j] (bf j) ∧ ∃ p, r = .slice p zss[j].length zss[j].length)) := Lib.hid (fun w4 h4 B4 => by
        have hsz4 := B4.size
        refine ⟨hBs.trans (B4.mono (by omega)), by omega, xs.set k (.slice (some ⟨wr.heap.size, 0, none⟩) m m), fun j => if j = k then wr.heap.size else bf j, ?_, ?_, ?_⟩
        · obtain ⟨hl0, hst⟩ := hst
          refine ⟨hl0, hst.imp id ?_⟩
          rintro ⟨g', cap', cur', e, hg, hh, r⟩
          refine ⟨g', cap', cur', e, hg, ?_, r⟩
          simp only [Value.slice.injEq, Option.some.injEq, Addr.mk.injEq, and_true, true_and] at e
          rw [B4.block g' (by omega)]; exact hh
        · refine Lib.hid (fun i j hij hj => ?_)
          have hik : i ≠ k := by omega
          have hiz : i < zss.length := by have := Hz.out; omega
          simp only [if_neg hik]
          by_cases e : j = k
          · rw [if_pos e]; exact (hxs.out i hiz (by omega)).2.1
          · rw [if_neg e]; exact hmono.out i j hij (by omega)
        · refine Lib.hid (fun j hjz hj => ?_)
          by_cases e : j = k
          · subst e
            simp only [if_true]
            refine ⟨hlt1, by omega, _, by rw [List.getElem?_set_self (by rw [hown.1]; omega)], ?_⟩
            rw [← Hzs.out]
            have hwf := Hr.out.wf
            have hsp : splice cur 0 (zs.map (Value.int .i64)) = zs.map (Value.int .i64) := by
              unfold splice
              rw [List.take_zero, List.nil_append, Nat.zero_add, HcL.out, List.drop_eq_nil_of_le (by rw [Hcl.out]; exact Nat.le_refl _), List.append_nil]
            rw [hsp] at h4
            refine ⟨⟨_, m, by rw [Hm.out], ⟨by rw [Hm.out]; exact Nat.le_refl _, by unfold maxLen; omega, fun e => by cases e⟩, hwf, .inr ⟨0, rfl, fun i hi => ?_, fun i hi => ?_⟩⟩, _, by rw [Hm.out]⟩
            · simp [World.cell?, h4, hi]
            · simp [World.frozen?, h4]
          · obtain ⟨g1, g2, r, g3, g4⟩ := hxs.out j hjz (by omega)
            simp only [if_neg e]
            refine ⟨g1, by omega, r, by rw [List.getElem?_set_ne (by omega)]; exact g3, ?_⟩
            exact ⟨g4.1.keep fun _ => (B4.block _ g2).trans ((hkeep _ (by omega)).trans (B2.block _ g2)), g4.2⟩)
      have HWS := Lib.hid hws
      have HBsz : Hid (wr.heap.size ≤ ws.heap.size) := Lib.hid (by omega)
      clear hpos hcur hcl hst hBs hs3 hkeep hmk hown2 hB2 B2 hgr2 hx hown hxs hmono B hws hblt
      go_upto_region 6 with fail
      rw [← HWS.out]
      have hld := HL.out
      go_wp2_with (first | (refine wpList_copy_splice rfl (.tmp 25) (.tmp 26) 23 23 rfl 3 Tryd.underlying23 (by kernel_rfl) (some ⟨wr.heap.size, 0, none⟩) p m m m c rfl rfl wr.heap.size 0 cur 3 HR.out (zs.map (Value.int .i64)) (by rw [HcL.out]; exact (Nat.min_self m).symm) HP.out (by rw [HcL.out, Hcl.out]; omega) hone wr.heap.size ws (Below.refl _ _) (Nat.le_refl _) ?_) | fail)
      intro w4 hg4 hb4
      obtain ⟨n1, n2, xs2, bf2, n3, n4, n5⟩ := HN.out w4 hg4.out hb4
      clear hg4 hb4 hld
      go_wp2_with fail
      go_roundw
      case rel => exact ⟨k + 1, by omega, by go_num, n1, n2, xs2, bf2, n3, n4, n5⟩
      case measure => simp [intOf]; omega
    · obtain rfl : k = n := by omega
      have hfin : Hid (OwnR (In w.heap.size wr.heap.size) wr (.slice (some ⟨w.heap.size, 0, none⟩) k k) zss) := Lib.hid (by
        have hown' : wr.ownsRow w.heap.size 23 1 (.slice (some ⟨w.heap.size, 0, none⟩) k k) zss.length xs := by rw [← Hn.out]; exact hown
        refine ⟨xs, own_to0 hown', fun g hg => ⟨own_block hown' g hg, own_lt hown' hg⟩, fun j hj => ?_, fun i j ri rj hij hi hj g hgi hgj => ?_⟩
        · obtain ⟨g1, g2, r, g3, g4, p, e⟩ := hxs.out j hj (by rw [Hn.out]; exact hj)
          exact ⟨r, g3, OwnI.full e g4 (fun _ => ⟨⟨by omega, g2⟩, by simp [Value.ownBlock]; omega⟩)⟩
        · have hl := hown'.1
          have hi' : i < zss.length := by have := (List.getElem?_eq_some_iff.1 hi).1; omega
          have hj' : j < zss.length := by have := (List.getElem?_eq_some_iff.1 hj).1; omega
          obtain ⟨-, -, r, g3, g4, p, e⟩ := hxs.out i hi' (by rw [Hn.out]; exact hi')
          obtain ⟨-, -, r', g3', g4', p', e'⟩ := hxs.out j hj' (by rw [Hn.out]; exact hj')
          obtain rfl : r = ri := Option.some.inj (g3.symm.trans hi)
          obtain rfl : r' = rj := Option.some.inj (g3'.symm.trans hj)
          have hkn := Hn.out
          have a1 : bf i = g := by
            rcases full_held e g4 with ⟨-, h⟩ | ⟨-, h⟩ <;> rw [h] at hgi
            · cases hgi
            · exact Option.some.inj hgi
          have a2 : bf j = g := by
            rcases full_held e' g4' with ⟨-, h⟩ | ⟨-, h⟩ <;> rw [h] at hgj
            · cases hgj
            · exact Option.some.inj hgj
          rcases Nat.lt_or_gt_of_ne hij with h | h
          · have := hmono.out i j h (by omega); omega
          · have := hmono.out j i h (by omega); omega)
      clear hxs hmono hown
      go_wp2_with fail
      go_ret
      exact ⟨_, rfl, hfin.out, B⟩
end Go.Proofs.YtbojhbhniollaaaDoor
