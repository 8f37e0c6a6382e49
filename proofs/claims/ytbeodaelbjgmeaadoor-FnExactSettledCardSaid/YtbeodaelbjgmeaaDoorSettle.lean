/-
  Settled, the program's side.
-/
import Derived.Test.YtbeodaelbjgmeaaDoorSettle0
import Derived.Test.YtbeodaelbjgmeaaDoorGameQ
import Derived.Deep.RegionHeld3
namespace Go.Proofs.YtbeodaelbjgmeaaDoor
open Go.RowKit
set_option linter.unusedVariables false
set_option linter.unusedSimpArgs false

set_option maxRecDepth 100000 in
theorem give_any (g i j : Nat) (a b x : Int) (w : World) (hi : w.cell? ⟨g, i, none⟩ = some (.int .i64 a)) (hj : (w.setCell ⟨g, i, none⟩ (.int .i64 (a - x))).cell? ⟨g, j, none⟩ = some (.int .i64 b)) (fi : w.frozen? ⟨g, i, none⟩ = false) (fj : w.frozen? ⟨g, j, none⟩ = false)
    (ha : wrap64 (a - x) = a - x) (hb : wrap64 (b + x) = b + x) :
    Calls Tryd.prog 51 #[.pointer (some ⟨g, i, none⟩), .pointer (some ⟨g, j, none⟩), .int .i64 x] w fun e w' => e = .returned (.tuple #[]) ∧ w' = (w.setCell ⟨g, i, none⟩ (.int .i64 (a - x))).setCell ⟨g, j, none⟩ (.int .i64 (b + x)) := by
  have fj2 : (w.setCell ⟨g, i, none⟩ (.int .i64 (a - x))).frozen? ⟨g, j, none⟩ = false := by rw [World.frozen?_setCell]; exact fj
  clear fj
  go_enter Tryd.func51, Tryd.ntmps51
  go_wp2_with fail
  exact bodyPost_end (v := .tuple #[]) (by first | rfl | simp [results, go_sem]) rfl ⟨rfl, rfl⟩
theorem give_step (l : List Int) (p k g : Nat) (x : Int) (w : World) (hk : k < l.length) (hp : p < l.length) (hz : l[p] = 0) (hx : l[k] = x) (hc : Cells .i64 w g 0 (stl l p k)) (hf : Free w g 0 l.length)
    (hb : ∀ j, -10485760 ≤ pk l p k j ∧ pk l p k j ≤ 10485760) (hxb : 0 ≤ x ∧ x ≤ 10485760) :
    Calls Tryd.prog 51 #[.pointer (some ⟨g, k, none⟩), .pointer (some ⟨g, p, none⟩), .int .i64 x] w fun e w' => e = .returned (.tuple #[]) ∧ Cells .i64 w' g 0 (stl l p (k + 1)) ∧ Free w' g 0 l.length ∧ (∀ B w0, B ≤ g → Below B w0 w → Below B w0 w') ∧ ∀ b, b ≠ g → w'.heap[b]? = w.heap[b]? := by
  have hk2 : k < (stl l p k).length := by rw [stl_len]; exact hk
  have hp2 : p < (stl l p k).length := by rw [stl_len]; exact hp
  have ck := hc k hk2
  have cp := hc p hp2
  rw [stl_get] at ck cp
  have bk := hb k
  have bp := hb p
  have hs1 := hc.store hk2 (pk l p k k - x)
  have hp3 : p < ((stl l p k).set k (pk l p k k - x)).length := by simpa using hp2
  have fk := hf k hk
  have fp := hf p hp
  rw [Nat.zero_add] at ck cp fk fp hs1
  by_cases e : k = p
  · subst e
    have x0 : x = 0 := by rw [← hx]; exact hz
    subst x0
    have cj : (w.setCell ⟨g, k, none⟩ (.int .i64 (pk l k k k - 0))).cell? ⟨g, k, none⟩ = some (.int .i64 (pk l k k k - 0)) := by
      have := hs1 k hp3
      rw [Nat.zero_add] at this
      rw [this]; simp
    have hs2 := hs1.store hp3 (pk l k k k - 0 + 0)
    rw [Nat.zero_add] at hs2
    refine (give_any g k k _ _ 0 w ck cj fk fk (IntWalk.wrap64_in _ (by omega)) (IntWalk.wrap64_in _ (by omega))).mono ?_
    rintro e w' ⟨rfl, rfl⟩
    refine ⟨rfl, by rw [← stl_eq l k hk hz]; exact hs2, (hf.store _ _).store _ _, fun B w0 hB b => (b.setCell hB _).setCell hB _, fun b hne => ?_⟩
    rw [Below.heap_setCell _ _ _ _ (by exact hne), Below.heap_setCell _ _ _ _ (by exact hne)]
  · have cj : (w.setCell ⟨g, k, none⟩ (.int .i64 (pk l p k k - x))).cell? ⟨g, p, none⟩ = some (.int .i64 (pk l p k p)) := by
      rw [World.cell?_setCell_other _ _ _ _ (by simp [e])]; exact cp
    have hs2 := hs1.store hp3 (pk l p k p + x)
    rw [Nat.zero_add] at hs2
    refine (give_any g k p _ _ x w ck cj fk fp (IntWalk.wrap64_in _ (by omega)) (IntWalk.wrap64_in _ (by omega))).mono ?_
    rintro e w' ⟨rfl, rfl⟩
    refine ⟨rfl, by rw [← stl_ne l p k hk e hp, hx]; exact hs2, (hf.store _ _).store _ _, fun B w0 hB b => (b.setCell hB _).setCell hB _, fun b hne => ?_⟩
    rw [Below.heap_setCell _ _ _ _ (by exact hne), Below.heap_setCell _ _ _ _ (by exact hne)]
set_option maxRecDepth 100000 in
set_option maxHeartbeats 2000000 in
theorem settled_any (v : Value) (D : MGame) (w : World) (h : RdGame w v D) (hf : D.Few) (hG : Grps w) :
    Calls Tryd.prog 26 #[v] w fun e w' => ∃ v' b', e = .returned v' ∧ w.heap.size ≤ b' ∧ WrAt .i64 w' v' (settledG D) b' ∧ Below w.heap.size w w' := by
  have HI := Lib.hid (fun wx (hb : Below w.heap.size w wx) => isGame_any v D wx (h.below hb) hf (hG.below hb) _ rfl)
  have HW := Lib.hid (fun wx (hb : Below w.heap.size w wx) => winner_any v D wx (h.below hb) hf (hG.below hb) _ rfl)
  have HL := Lib.hid (fun wx (hb : Below w.heap.size w wx) => leftPoints_any v D wx (h.below hb) hf)
  obtain ⟨i0, hi, hz0, hz1, hz2⟩ := info_parts info_i64
  obtain ⟨p4, p5, p8, p9, p10, c4, c5, c8, c9, c10, b9, b10, hv, h0, h8, h9, h10, wf0, wf1, wf2⟩ := h
  obtain ⟨f0, f8, fs8, f9, f10⟩ := hf
  subst hv
  have HF := Lib.hid fs8
  obtain ⟨W0, hW0⟩ : ∃ W0, W0 = w.alloc (.cells #[.int .i64 D.rules.players, .int .i64 D.rules.each, .bool D.rules.sameSuit, .bool D.rules.sameRank, .slice p4 D.rules.wild.length c4, .slice p5 D.rules.skip.length c5, .int .i64 D.rules.take, .int .i64 D.rules.limit, .slice p8 D.hands.length c8, .slice p9 D.stock.length c9, .slice p10 D.heap.length c10, .int .i64 D.turn, .int .i64 D.moves, .int .i64 D.passes] 32) := ⟨_, rfl⟩
  have G0 : W0.heap[w.heap.size]? = some (.cells #[.int .i64 D.rules.players, .int .i64 D.rules.each, .bool D.rules.sameSuit, .bool D.rules.sameRank, .slice p4 D.rules.wild.length c4, .slice p5 D.rules.skip.length c5, .int .i64 D.rules.take, .int .i64 D.rules.limit, .slice p8 D.hands.length c8, .slice p9 D.stock.length c9, .slice p10 D.heap.length c10, .int .i64 D.turn, .int .i64 D.moves, .int .i64 D.passes] 32 (0, 0)) := by rw [hW0]; exact heap_alloc_new _ _
  have BW0 : Below w.heap.size w W0 := by rw [hW0]; exact (Below.refl _ _).alloc (Nat.le_refl _) _
  have lW0 : w.heap.size < W0.heap.size := by rw [hW0]; simp
  have HW0 := Lib.hid hW0
  have HQ : Hid (gameB D = true → winnerG D = firstOut D.hands) := Lib.hid (fun hq => by unfold winnerG; rw [if_pos hq])
  have HS1 : Hid (gameB D = true → settledG D = if firstOut D.hands < 0 then List.replicate (leftPts D.hands).length 0 else stl (leftPts D.hands) (firstOut D.hands).toNat (leftPts D.hands).length) := Lib.hid (fun hq => by unfold settledG; rw [if_pos hq])
  have HS0 : Hid (gameB D = false → settledG D = []) := Lib.hid (fun hq => by unfold settledG; rw [hq]; rfl)
  obtain ⟨S, hS⟩ : ∃ S, S = settledG D := ⟨_, rfl⟩
  rw [← hS] at HS1 HS0 ⊢
  have HGC : Hid (∀ wx, Below W0.heap.size W0 wx → wx.heap[w.heap.size]? = some (.cells #[.int .i64 D.rules.players, .int .i64 D.rules.each, .bool D.rules.sameSuit, .bool D.rules.sameRank, .slice p4 D.rules.wild.length c4, .slice p5 D.rules.skip.length c5, .int .i64 D.rules.take, .int .i64 D.rules.limit, .slice p8 D.hands.length c8, .slice p9 D.stock.length c9, .slice p10 D.heap.length c10, .int .i64 D.turn, .int .i64 D.moves, .int .i64 D.passes] 32 (0, 0))) := Lib.hid (fun wx hb => (hb.block _ lW0).trans G0)
  clear hW0 h0 h8 h9 h10 f0 f9 f10 fs8 hS G0 hG
  generalize gameB D = q at *
  go_enter Tryd.func26, Tryd.ntmps26
  go_wp2_with fail
  rw [← HW0.out]
  refine (HI.out W0 BW0).mono ?_
  rintro e w1 ⟨rfl, B1⟩
  have Bw1 := BW0.trans (B1.mono BW0.size)
  cases q with
  | false =>
    have e0 := HS0.out rfl
    subst e0
    go_wp2_with fail
    go_ret
    exact ⟨_, w1.heap.size, rfl, Bw1.size, WrAt.nil _ _ _ _ _ ⟨Nat.zero_le _, fun h => by cases h⟩, Bw1.alloc Bw1.size _⟩
  | true =>
    have HQ1 := Lib.hid (HQ.out rfl)
    have HS2 := Lib.hid (HS1.out rfl)
    rw [HQ1.out] at HW
    obtain ⟨n, hn⟩ : ∃ n, n = D.hands.length := ⟨_, rfl⟩
    have Hn := Lib.hid hn
    obtain ⟨k0, k1, k2, k3, k4, k5, k6, k7, k8, k9, k10, k11, k12, k13⟩ := SGame_cells (HGC.out w1 B1)
    rw [← hn] at k8 f8
    clear hn HQ HS1 HS0 HQ1
    go_wp2_with (at_make; refine wpList_make_full _ rfl _ _ 22 rfl w1.heap.size 3 i0 (.int .i64 0) 1 Tryd.underlying22 hi hz0 hz1 _ _ _ _ n rfl rfl rfl rfl ?c1 ?c2 ?c3 ?_)
    case c1 => rw [hz2]; omega
    case c2 => unfold maxLen; omega
    case c3 => exact Nat.le_refl _
    intro w2 hown hgr
    have Bg : Below w1.heap.size w1 w2 := (Below.refl _ _).grown hgr (Nat.le_refl _) (fun k hk => by cases hk)
    have B2 : Below W0.heap.size W0 w2 := B1.trans (Bg.mono B1.size)
    have Bw2 : Below w.heap.size w w2 := BW0.trans (B2.mono BW0.size)
    have hg2 : w1.heap.size < w2.heap.size := own_madeIntS hown
    have hC2 : Cells .i64 w2 w1.heap.size 0 (List.replicate n 0) := fun j hj => by
      have hj2 : j < n := by simpa using hj
      rw [Nat.zero_add, hown.cellAt j (by omega), toList_madeCells_one, List.getElem?_replicate, if_pos hj2]; simp
    have hF2 : Free w2 w1.heap.size 0 n := fun j hj => by rw [Nat.zero_add]; exact hown.frozenAt j
    have hgW : W0.heap.size ≤ w1.heap.size := B1.size
    have hgw : w.heap.size ≤ w1.heap.size := Bw1.size
    obtain ⟨g, hgg⟩ : ∃ g, g = w1.heap.size := ⟨_, rfl⟩
    rw [← hgg] at hC2 hF2 hg2 hgW hgw
    have HC2 := Lib.hid hC2
    have HF2 := Lib.hid hF2
    clear hi hz0 hz1 hz2 hown hgr Bg hC2 hF2 k0 k1 k2 k3 k4 k5 k6 k7 k8 k9 k10 k11 k12 k13
    obtain ⟨k0, k1, k2, k3, k4, k5, k6, k7, k8, k9, k10, k11, k12, k13⟩ := SGame_cells (HGC.out w2 B2)
    rw [← hgg]
    clear hgg B1 Bw1
    go_wp2_with fail
    refine (HW.out w2 Bw2).mono ?_
    rintro e w3 ⟨rfl, B3⟩
    have B3W : Below W0.heap.size W0 w3 := B2.trans (B3.mono B2.size)
    have Bw3 : Below w.heap.size w w3 := BW0.trans (B3W.mono BW0.size)
    have HC3 : Hid (Cells .i64 w3 g 0 (List.replicate n 0)) := Lib.hid (fun j hj => by
      rw [World.cell?_of_block (w := w2) (a := ⟨g, 0 + j, none⟩) (B3.block g hg2)]; exact HC2.out j hj)
    have HF3 : Hid (Free w3 g 0 n) := Lib.hid (fun j hj => by
      rw [World.frozen?_of_block (w := w2) (a := ⟨g, 0 + j, none⟩) (B3.block g hg2)]; exact HF2.out j hj)
    have hg3 : g < w3.heap.size := Nat.lt_of_lt_of_le hg2 B3.size
    clear HC2 HF2 k0 k1 k2 k3 k4 k5 k6 k7 k8 k9 k10 k11 k12 k13
    have hge := first_out_ge D.hands
    have HFI := Lib.hid (fun p => @first_is D.hands p)
    generalize firstOut D.hands = t at *
    by_cases ht : t < 0
    · obtain rfl : t = -1 := by omega
      have hS3 : S = List.replicate n 0 := by rw [HS2.out, if_pos (by decide), leftPts_len, ← Hn.out]
      have HWr : Hid (WrAt .i64 w3 (.slice (some ⟨g, 0, none⟩) n n) S g) := Lib.hid (by
        rw [hS3]
        have := WrAt.of (k := .i64) (w := w3) (b := g) (off := 0) (zs := List.replicate n 0) n (by rw [List.length_replicate]; exact ⟨Nat.le_refl _, by unfold maxLen; omega⟩) (fun x hx => by rw [(List.mem_replicate.1 hx).2]; rfl) HC3.out (by rw [List.length_replicate]; exact HF3.out)
        rw [List.length_replicate] at this
        exact this)
      clear hS3 hge ht
      go_wp2_with fail
      go_ret
      exact ⟨_, g, rfl, hgw, HWr.out, Bw3⟩
    · obtain ⟨p, rfl⟩ : ∃ p : Nat, t = (p : Int) := ⟨t.toNat, by omega⟩
      obtain ⟨hpD, hp0⟩ := HFI.out p rfl
      have hzl : ∀ h : p < (leftPts D.hands).length, (leftPts D.hands)[p] = 0 := fun h => leftPts_zero D.hands p h hpD hp0
      have hS3 : S = stl (leftPts D.hands) p n := by rw [HS2.out, if_neg ht, leftPts_len, ← Hn.out]; rfl
      have Hpk := Lib.hid (fun k j => pk_le D.hands p k j)
      have Hwf := Lib.hid (fun k => stl_wf HF.out p k)
      have Hget := Lib.hid (leftPts_get D.hands)
      have hln : (leftPts D.hands).length = n := by rw [leftPts_len, Hn.out]
      have hpn : p < n := by rw [Hn.out]; exact hpD
      obtain ⟨k0, k1, k2, k3, k4, k5, k6, k7, k8, k9, k10, k11, k12, k13⟩ := SGame_cells (HGC.out w3 B3W)
      have HL3 := Lib.hid (HL.out w3 Bw3)
      generalize leftPts D.hands = l at *
      clear hge ht hp0 hpD HS2 HFI
      have hq : ((p : Int) == -1) = false := by rw [beq_eq_false_iff_ne]; omega
      have Hl := Lib.hid hln
      have Hzl : Hid (∀ h : p < l.length, l[p] = 0) := Lib.hid hzl
      have HS3 := Lib.hid hS3
      clear hln hzl hS3
      go_wp2_with fail
      refine HL3.out.mono ?_
      rintro e w4 ⟨v4, b4, rfl, hb4, hw4, B4⟩
      have hne : l ≠ [] := by intro e; have := Hl.out; rw [e] at this; simp at this; omega
      rcases hw4.rd.open with ⟨h0, -⟩ | ⟨-, off, cap, rfl, -, hcl⟩
      · exact absurd h0 hne
      have hgb : b4 ≠ g := by omega
      have B4W : Below W0.heap.size W0 w4 := B3W.trans (B4.mono B3W.size)
      have HC4 : Hid (Cells .i64 w4 g 0 (stl l p 0)) := Lib.hid (fun j hj => by
        have hj2 : j < (List.replicate n (0 : Int)).length := by rw [stl_len, Hl.out] at hj; simpa using hj
        rw [World.cell?_of_block (w := w3) (a := ⟨g, 0 + j, none⟩) (B4.block g hg3), HC3.out j hj2]
        simp [stl_0])
      have HF4 : Hid (Free w4 g 0 n) := Lib.hid (fun j hj => by
        rw [World.frozen?_of_block (w := w3) (a := ⟨g, 0 + j, none⟩) (B4.block g hg3)]; exact HF3.out j hj)
      have HL4 : Hid (∀ j (hj : j < l.length), w4.cell? ⟨b4, off + j, none⟩ = some (.int .i64 l[j])) := Lib.hid hcl
      rw [Hl.out]
      clear HC3 HF3 hw4 hcl hne k0 k1 k2 k3 k4 k5 k6 k7 k8 k9 k10 k11 k12 k13 HW HL HL3 HI HGC HW0
      go_wp2_with fail
      go_loopw [5, 6, 23] (fun _ _ i wr => ∃ k : Nat, k ≤ n ∧ i = .int .i64 k ∧ Below W0.heap.size W0 wr ∧ Hid (Cells .i64 wr g 0 (stl l p k)) ∧ Hid (Free wr g 0 n) ∧ Hid (∀ j (hj : j < l.length), wr.cell? ⟨b4, off + j, none⟩ = some (.int .i64 l[j]))) (fun _ _ i _ => n - (intOf i).toNat)
      case atStart => exact ⟨0, Nat.zero_le _, rfl, B4W, HC4, HF4, HL4⟩
      case round =>
        obtain ⟨k, hk, rfl, hb2, hC, hFr, hL⟩ := hrel
        by_cases hlt : k < n
        · have hkl : k < l.length := by rw [Hl.out]; exact hlt
          have hpl : p < l.length := by rw [Hl.out]; exact hpn
          obtain ⟨x, hx⟩ : ∃ x, l[k] = x := ⟨_, rfl⟩
          have hcx : wr.cell? ⟨b4, off + k, none⟩ = some (.int .i64 x) := by rw [hL.out k hkl, hx]
          have hs := HF.out
          have hxb := Hget.out k hkl
          rw [hx] at hxb
          have HGv := Lib.hid (give_step l p k g x wr.drew hkl hpl (Hzl.out hpl) hx hC.out (by rw [Hl.out]; exact hFr.out) (fun j => by have := Hpk.out k j; omega) (by omega))
          rw [Hl.out] at HGv
          have hi1 : (k : Int) < (n : Int) := by omega
          have hi2 : (p : Int) < (n : Int) := by omega
          clear hxb hs hx hpl
          go_wp2_with fail
          go_region_held3 (fun _ => True) (trivial) (first
            | (go_at_call 51; refine HGv.out.mono ?_; rintro e w5 ⟨rfl, hc5, hf5, hB5, hb5⟩))
          all_goals
            have B5 := hB5 _ _ hgW hb2.drew
            have HC5 := Lib.hid hc5
            have HF5 := Lib.hid hf5
            have HL5 : Hid (∀ j (hj : j < l.length), w5.cell? ⟨b4, off + j, none⟩ = some (.int .i64 l[j])) := Lib.hid (fun j hj => by
              rw [World.cell?_of_block (w := wr.drew) (a := ⟨b4, off + j, none⟩) (hb5 b4 hgb)]; exact hL.out j hj)
            clear hc5 hf5 hB5 hb5 hb2 hcx hC hFr hL HGv
            go_wp2_with fail
            go_roundw
            case rel => exact ⟨k + 1, by omega, by go_num, B5, HC5, HF5, HL5⟩
            case measure => simp [intOf]; omega
        · obtain rfl : k = n := by omega
          have HWr : Hid (WrAt .i64 wr (.slice (some ⟨g, 0, none⟩) k k) S g) := Lib.hid (by
            rw [HS3.out]
            have := WrAt.of (k := .i64) (w := wr) (b := g) (off := 0) (zs := stl l p k) k (by rw [stl_len, Hl.out]; exact ⟨Nat.le_refl _, by unfold maxLen; omega⟩) (Hwf.out k) hC.out (by rw [stl_len, Hl.out]; exact hFr.out)
            rw [stl_len, Hl.out] at this
            exact this)
          have Bwr := BW0.trans (hb2.mono BW0.size)
          clear hC hFr hL
          go_wp2_with fail
          go_ret
          exact ⟨_, g, rfl, hgw, HWr.out, Bwr⟩
end Go.Proofs.YtbeodaelbjgmeaaDoor
