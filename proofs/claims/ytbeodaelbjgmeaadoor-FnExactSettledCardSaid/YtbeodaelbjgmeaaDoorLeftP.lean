/-
  LeftPoints, both sides.
-/
import Derived.Test.YtbeodaelbjgmeaaDoorNGame
import Derived.Test.YtbeodaelbjgmeaaDoorValueOf
import Derived.StillTailTactics
import Derived.BigQuiet
namespace Go.Proofs.YtbeodaelbjgmeaaDoor
open Go.RowKit
set_option linter.unusedVariables false
set_option linter.unusedSimpArgs false

theorem valueOf_le (c : Int) : 0 ≤ valueOf c ∧ valueOf c ≤ 10 := by
  cases h : isCard c with
  | false => rw [value_out h]; omega
  | true =>
    by_cases h2 : c % 13 = 12
    · rw [value_ace h h2]; omega
    · by_cases h3 : 8 < c % 13
      · rw [value_pic h h2 h3]; omega
      · rw [value_num h h3]; omega
def ptsOf (zs : List Int) : Int := (zs.map valueOf).sum
theorem pts_take (zs : List Int) (k : Nat) (h : k < zs.length) : ptsOf (zs.take (k + 1)) = ptsOf (zs.take k) + valueOf zs[k] := by
  unfold ptsOf
  rw [List.take_succ_eq_append_getElem h, List.map_append, List.sum_append]; simp
theorem pts_le (zs : List Int) : 0 ≤ ptsOf zs ∧ ptsOf zs ≤ 10 * zs.length := by
  unfold ptsOf
  induction zs with
  | nil => simp
  | cons z zs ih =>
    have := valueOf_le z
    simp only [List.map_cons, List.sum_cons, List.length_cons]
    omega
theorem pts_take_le (zs : List Int) (k : Nat) : 0 ≤ ptsOf (zs.take k) ∧ ptsOf (zs.take k) ≤ 10 * zs.length := by
  have := pts_le (zs.take k)
  rw [List.length_take] at this
  omega
def leftPts (zss : List (List Int)) : List Int := zss.map ptsOf
theorem leftPts_take (zss : List (List Int)) (k : Nat) (h : k < zss.length) : leftPts (zss.take (k + 1)) = leftPts (zss.take k) ++ [ptsOf zss[k]] := by
  unfold leftPts
  rw [List.take_succ_eq_append_getElem h, List.map_append]; rfl
theorem leftPts_len (zss : List (List Int)) : (leftPts zss).length = zss.length := by simp [leftPts]
theorem leftPts_wf {zss : List (List Int)} (h : sumLen zss ≤ 1048576) : ∀ n ∈ leftPts zss, (Lit.int .i64 n).wf = true := by
  intro n hn
  simp only [leftPts, List.mem_map] at hn
  obtain ⟨zs, hz, rfl⟩ := hn
  obtain ⟨j, hj, rfl⟩ := List.getElem_of_mem hz
  have := len_le_sum zss hj
  have := pts_le zss[j]
  exact WalkArith.wf_i64 (by omega)
set_option maxRecDepth 100000 in
set_option maxHeartbeats 1000000 in
theorem sSum10_any (v : Value) (zs : List Int) (b : Nat) (w : World) (h : RdAt .i64 w v zs b) (hl : zs.length ≤ 1048576) :
    Calls Tryd.prog 62 #[v] w fun e w' => e = .returned (.int .i64 (ptsOf zs)) ∧ w = w' := by
  obtain ⟨a, cap, rfl, -, hwf, hcell⟩ := h
  obtain ⟨n, hn⟩ : ∃ n, n = zs.length := ⟨_, rfl⟩
  have Hn := Lib.hid hn
  have Hle := Lib.hid (pts_take_le zs)
  rw [← hn] at hl Hle ⊢
  clear hn
  go_enter Tryd.func62, Tryd.ntmps62
  go_wp2_with fail
  go_loopw [3, 4] (fun o i wr => ∃ k : Nat, k ≤ n ∧ i = .int .i64 k ∧ wr = w ∧ o = .int .i64 (ptsOf (zs.take k))) (fun _ i _ => n - (intOf i).toNat)
  case atStart => exact ⟨0, Nat.zero_le _, rfl, by trivial, rfl⟩
  case round =>
    obtain ⟨k, hk, rfl, rfl, rfl⟩ := hrel
    have hle := Hle.out k
    by_cases hlt : k < n
    · have hzl : k < zs.length := by rw [← Hn.out]; exact hlt
      rcases hcell with h0 | ⟨off, rfl, hc⟩
      · subst h0; simp at hzl
      obtain ⟨y, hy⟩ : ∃ y, Hid (y = zs[k]) := ⟨_, Lib.hid rfl⟩
      have hc1 : wr.cell? ⟨b, off + k, none⟩ = some (.int .i64 y) := by rw [hc k hzl, hy.out]
      have hst := pts_take zs k hzl
      rw [← hy.out] at hst
      have HV := Lib.hid (sValueOf_any y wr _ rfl)
      have hv := valueOf_le y
      have Hst := Lib.hid hst
      generalize valueOf y = x at *
      generalize ptsOf (zs.take k) = s at *
      clear hc hst
      go_wp2_with fail
      refine HV.out.mono ?_
      rintro e _w ⟨rfl, rfl⟩
      go_wp2_with fail
      go_roundw
      case rel => exact ⟨k + 1, by omega, by go_num, by trivial, by rw [Hst.out]⟩
      case measure => simp [intOf]; omega
    · obtain rfl : k = n := by omega
      have e : zs.take k = zs := List.take_of_length_le (by rw [Hn.out]; exact Nat.le_refl _)
      rw [e]
      go_wp2_with fail
      go_ret
      exact ⟨rfl, rfl⟩
set_option maxRecDepth 100000 in
set_option maxHeartbeats 1000000 in
theorem sLeftPoints_any (v : Value) (D : MGame) (w : World) (h : RdGame w v D) (hf : D.Few) :
    Calls Tryd.prog 48 #[v] w fun e w' => ∃ v' b', e = .returned v' ∧ w.heap.size ≤ b' ∧ WrAt .i64 w' v' (leftPts D.hands) b' ∧ Below w.heap.size w w' := by
  obtain ⟨i0, hi, hz0, hz1, hz2⟩ := info_parts info_i64
  obtain ⟨p4, p5, p8, p9, p10, c4, c5, c8, c9, c10, b9, b10, hv, h0, h8, h9, h10, wf0, wf1, wf2⟩ := h
  obtain ⟨f0, f8, fs8, f9, f10⟩ := hf
  have Hrow := Lib.hid (fun wx (hb : Below w.heap.size w wx) j (hj : j < D.hands.length) => (h8.below hb).row hj)
  have Hsum : Hid (∀ j (hj : j < D.hands.length), D.hands[j].length ≤ 1048576) := Lib.hid (fun j hj => Nat.le_trans (len_le_sum D.hands hj) fs8)
  have Hwf := Lib.hid (leftPts_wf fs8)
  have Htk := Lib.hid (fun k (hk : k < D.hands.length) => leftPts_take D.hands k hk)
  have Hln := Lib.hid (fun zss => leftPts_len zss)
  subst hv
  have TI : True := trivial
  obtain ⟨W0, hW0⟩ : ∃ W0, W0 = w.alloc (.cells #[.int .i64 D.rules.players, .int .i64 D.rules.each, .bool D.rules.sameSuit, .bool D.rules.sameRank, .slice p4 D.rules.wild.length c4, .slice p5 D.rules.skip.length c5, .int .i64 D.rules.take, .int .i64 D.rules.limit, .slice p8 D.hands.length c8, .slice p9 D.stock.length c9, .slice p10 D.heap.length c10, .int .i64 D.turn, .int .i64 D.moves, .int .i64 D.passes] 32) := ⟨_, rfl⟩
  have G0 : W0.heap[w.heap.size]? = some (.cells #[.int .i64 D.rules.players, .int .i64 D.rules.each, .bool D.rules.sameSuit, .bool D.rules.sameRank, .slice p4 D.rules.wild.length c4, .slice p5 D.rules.skip.length c5, .int .i64 D.rules.take, .int .i64 D.rules.limit, .slice p8 D.hands.length c8, .slice p9 D.stock.length c9, .slice p10 D.heap.length c10, .int .i64 D.turn, .int .i64 D.moves, .int .i64 D.passes] 32 (0, 0)) := by rw [hW0]; exact heap_alloc_new _ _
  have BW0 : Below w.heap.size w W0 := by rw [hW0]; exact (Below.refl _ _).alloc (Nat.le_refl _) _
  have lW0 : w.heap.size < W0.heap.size := by rw [hW0]; simp
  have HZ0 : Hid (W0.heap.size = w.heap.size + 1) := Lib.hid (by rw [hW0]; simp)
  have HW0 := Lib.hid hW0
  clear hW0 h0 h8 h9 h10 f0 f9 f10 fs8
  have kk := box_cell G0 8
  simp at kk
  go_enter Tryd.func48, Tryd.ntmps48
  go_wp2_with fail
  rw [← HW0.out]
  have hown0 := World.ownsRow_lit (base := W0.heap.size) (e := 3) (size := 1) W0 #[] 0 (Nat.le_refl _) (Nat.zero_le _) rfl
  clear kk
  go_loopw [3, 4] (fun o i wr => ∃ k : Nat, k ≤ D.hands.length ∧ i = .int .i64 k ∧ Below W0.heap.size W0 wr ∧ wr.ownsRow W0.heap.size 3 1 o (leftPts (D.hands.take k)).length ((leftPts (D.hands.take k)).map (Value.int .i64))) (fun _ i _ => D.hands.length - (intOf i).toNat)
  case atStart => exact ⟨0, Nat.zero_le _, rfl, (Below.refl _ _).alloc (Nat.le_refl _) _, by rw [← HZ0.out]; exact hown0⟩
  case round =>
    clear hown0
    obtain ⟨k, hk, rfl, hb2, hown⟩ := hrel
    have hBw := BW0.trans (hb2.mono BW0.size)
    have kk := box_cell ((hb2.block _ lW0).trans G0) 8
    simp at kk
    by_cases hlt : k < D.hands.length
    · obtain ⟨blk, off, cap', p, c, b, hv, hc, hr, -⟩ := Hrow.out wr hBw k hlt
      have ha := (Value.slice.inj hv).1
      clear hv
      subst ha
      obtain ⟨m, hm⟩ : ∃ m, m = D.hands[k].length := ⟨_, rfl⟩
      have Hm := Lib.hid hm
      have hsm := Hsum.out k hlt
      have hstep := Lib.hid (Htk.out k hlt)
      have hln := Hln.out (D.hands.take k)
      rw [List.length_take] at hln
      have HS := Lib.hid (fun wx (hb : Below wr.heap.size wr wx) => sSum10_any _ D.hands[k] b wx (hr.below hb) (by omega))
      rw [← hm] at hc HS
      obtain ⟨s, hs⟩ : ∃ s, s = ptsOf D.hands[k] := ⟨_, rfl⟩
      rw [← hs] at HS hstep
      have hsz := hb2.size
      clear hm hr hs
      obtain ⟨F, hF⟩ : ∃ F, F = leftPts (D.hands.take k) := ⟨_, rfl⟩
      rw [← hF] at hown hln hstep
      clear hF
      have hln2 : F.length ≤ 1048576 := by omega
      clear hln
      go_wp2_with fail
      refine (HS.out _ (Below.refl _ _)).mono ?_
      rintro e _w ⟨rfl, rfl⟩
      go_wp2_with (at_builtin; refine wpList_append_own _ rfl _ _ 22 rfl W0.heap.size 3 i0 (.int .i64 0) 1 8 Tryd.underlying22 hi hz0 hz1 hz2 rfl (by decide) _ _ _ rfl (hown.alloc _) ⟨wr.heap.size, 0, none⟩ 1 1 [.int .i64 s] rfl rfl ?c1 ?c2 ?c3 ?c4 ?c5 ?_)
      case c1 => exact cell_one_new _ _ _
      case c2 => intro u hu; simp at hu; subst hu; rfl
      case c3 => unfold maxLen; omega
      case c4 => omega
      case c5 => simp; omega
      intro v' w1 hown' hgrow _
      have hb3 : Below W0.heap.size W0 w1 := (hb2.alloc hb2.size _).grown hgrow (by simp; omega) (own_block hown)
      have hown3 := own_snoc hown'
      clear hown' hgrow hown hb2 kk
      go_wp2_with fail
      go_roundw
      case rel => exact ⟨k + 1, by omega, by go_num, hb3, by rw [hstep.out]; exact hown3⟩
      case measure => simp [intOf]; omega
    · obtain rfl : k = D.hands.length := by omega
      have e : D.hands.take D.hands.length = D.hands := List.take_length
      rw [e] at hown
      have hwr := Lib.hid (own_wr hown Hwf.out)
      clear hown e
      go_wp2_with fail
      go_ret
      obtain ⟨b', hb', hw'⟩ := hwr.out
      exact ⟨_, b', rfl, Nat.le_trans BW0.size hb', hw', hBw⟩
set_option maxRecDepth 100000 in
set_option maxHeartbeats 2000000 in
theorem leftPoints_any (v : Value) (D : MGame) (w : World) (h : RdGame w v D) (hf : D.Few) :
    Calls Tryd.prog 50 #[v] w fun e w' => ∃ v' b', e = .returned v' ∧ w.heap.size ≤ b' ∧ WrAt .i64 w' v' (leftPts D.hands) b' ∧ Below w.heap.size w w' := by
  obtain ⟨i0, hi, hz0, hz1, hz2⟩ := info_parts info_i64
  obtain ⟨p4, p5, p8, p9, p10, c4, c5, c8, c9, c10, b9, b10, hv, h0, h8, h9, h10, wf0, wf1, wf2⟩ := h
  obtain ⟨f0, f8, fs8, f9, f10⟩ := hf
  have Hrow := Lib.hid (fun wx (hb : Below w.heap.size w wx) j (hj : j < D.hands.length) => (h8.below hb).row hj)
  have Hsum : Hid (∀ j (hj : j < D.hands.length), D.hands[j].length ≤ 1048576) := Lib.hid (fun j hj => Nat.le_trans (len_le_sum D.hands hj) fs8)
  have Hwf := Lib.hid (leftPts_wf fs8)
  subst hv
  obtain ⟨W0, hW0⟩ : ∃ W0, W0 = w.alloc (.cells #[.int .i64 D.rules.players, .int .i64 D.rules.each, .bool D.rules.sameSuit, .bool D.rules.sameRank, .slice p4 D.rules.wild.length c4, .slice p5 D.rules.skip.length c5, .int .i64 D.rules.take, .int .i64 D.rules.limit, .slice p8 D.hands.length c8, .slice p9 D.stock.length c9, .slice p10 D.heap.length c10, .int .i64 D.turn, .int .i64 D.moves, .int .i64 D.passes] 32) := ⟨_, rfl⟩
  have G0 : W0.heap[w.heap.size]? = some (.cells #[.int .i64 D.rules.players, .int .i64 D.rules.each, .bool D.rules.sameSuit, .bool D.rules.sameRank, .slice p4 D.rules.wild.length c4, .slice p5 D.rules.skip.length c5, .int .i64 D.rules.take, .int .i64 D.rules.limit, .slice p8 D.hands.length c8, .slice p9 D.stock.length c9, .slice p10 D.heap.length c10, .int .i64 D.turn, .int .i64 D.moves, .int .i64 D.passes] 32 (0, 0)) := by rw [hW0]; exact heap_alloc_new _ _
  have BW0 : Below w.heap.size w W0 := by rw [hW0]; exact (Below.refl _ _).alloc (Nat.le_refl _) _
  have lW0 : w.heap.size < W0.heap.size := by rw [hW0]; simp
  have HZ0 : Hid (W0.heap.size = w.heap.size + 1) := Lib.hid (by rw [hW0]; simp)
  have HW0 := Lib.hid hW0
  obtain ⟨n, hn⟩ : ∃ n, n = D.hands.length := ⟨_, rfl⟩
  have Hn := Lib.hid hn
  rw [← hn] at HW0 G0 f8
  clear hW0 h0 h8 h9 h10 f0 f9 f10 fs8
  have kk := box_cell G0 8
  simp at kk
  go_enter Tryd.func50, Tryd.ntmps50
  rw [← hn]
  clear hn
  go_wp2_with (at_make; rw [← HW0.out]; refine wpList_make_full _ rfl _ _ 22 rfl W0.heap.size 3 i0 (.int .i64 0) 1 Tryd.underlying22 hi hz0 hz1 _ _ _ _ n rfl rfl rfl rfl ?c1 ?c2 ?c3 ?_)
  case c1 => rw [hz2]; omega
  case c2 => unfold maxLen; omega
  case c3 => exact Nat.le_refl _
  intro w1 hown hgr
  have hb1 : Below W0.heap.size W0 w1 := (Below.refl _ _).grown hgr (Nat.le_refl _) (fun k hk => by cases hk)
  clear hgr hi hz0 hz1 hz2 kk
  have kk := box_cell ((hb1.block _ lW0).trans G0) 8
  simp at kk
  go_wp2_with fail
  clear kk
  go_loopw [4, 5, 7, 15] (fun _ _ _ i wr => ∃ k : Nat, k ≤ n ∧ i = .int .i64 k ∧ Below W0.heap.size W0 wr ∧ ∃ xs, wr.ownsRow W0.heap.size 3 1 (.slice (some ⟨W0.heap.size, 0, none⟩) n n) n xs ∧ Hid (∀ j (hj : j < D.hands.length), xs[j]? = some (.int .i64 (if j < k then ptsOf D.hands[j] else 0)))) (fun _ _ _ i _ => n - (intOf i).toNat)
  case atStart =>
    refine ⟨0, Nat.zero_le _, rfl, hb1, _, hown, Lib.hid (fun j hj => ?_)⟩
    have : j < n := by rw [Hn.out]; exact hj
    rw [toList_madeCells_one, if_neg (Nat.not_lt_zero _), List.getElem?_replicate, if_pos this]
  case round =>
    clear hown hb1
    obtain ⟨k, hk, rfl, hb2, xs, hown, hxs⟩ := hrel
    have hBw := BW0.trans (hb2.mono BW0.size)
    by_cases hlt : k < n
    · have hz : k < D.hands.length := by rw [← Hn.out]; exact hlt
      obtain ⟨blk, off, cap', p, c, b, hv, hc0, hr, -⟩ := Hrow.out w (Below.refl _ _) k hz
      have ha := (Value.slice.inj hv).1
      clear hv
      subst ha
      obtain ⟨m, hm⟩ : ∃ m, m = D.hands[k].length := ⟨_, rfl⟩
      have Hm := Lib.hid hm
      have hsm := Hsum.out k hz
      rw [← hm] at hc0 hr
      have hc : wr.cell? ⟨blk, off + k, none⟩ = some (.slice p m c) := (hBw.cell (World.block_lt_of_cell? _ _ hc0)).trans hc0
      have HR := Lib.hid (fun wx (hx : Below w.heap.size w wx) => hr.below hx)
      clear hc0
      have hx0 := hxs.out k hz
      rw [if_neg (Nat.lt_irrefl _)] at hx0
      rw [← hm] at hsm
      clear hm hr
      go_wp2_with fail
      go_loopw [7, 22] (fun _ i wr => ∃ q : Nat, q ≤ m ∧ i = .int .i64 q ∧ Below W0.heap.size W0 wr ∧ ∃ ys, wr.ownsRow W0.heap.size 3 1 (.slice (some ⟨W0.heap.size, 0, none⟩) n n) n ys ∧ Hid (ys[k]? = some (.int .i64 (ptsOf (D.hands[k].take q)))) ∧ Hid (∀ j, j ≠ k → ys[j]? = xs[j]?)) (fun _ i _ => m - (intOf i).toNat)
      case atStart => exact ⟨0, Nat.zero_le _, rfl, hb2, xs, hown, Lib.hid (by rw [hx0]; rfl), Lib.hid (fun j _ => rfl)⟩
      case round =>
        clear hown
        obtain ⟨q, hq, rfl, hbq, ys, hown, hyk, hyj⟩ := hrel
        by_cases hqlt : q < m
        · have hqz : q < D.hands[k].length := by rw [← Hm.out]; exact hqlt
          have hBq := BW0.trans (hbq.mono BW0.size)
          rcases (HR.out wr hBq).open with ⟨h0, -⟩ | ⟨-, off3, cap3, e3, -, hcs⟩
          · rw [h0] at hqz; simp at hqz
          have ep := (Value.slice.inj e3).1
          subst ep
          obtain ⟨y, hy⟩ : ∃ y, Hid (y = D.hands[k][q]) := ⟨_, Lib.hid rfl⟩
          have hcy : wr.cell? ⟨b, off3 + q, none⟩ = some (.int .i64 y) := by rw [hcs q hqz, hy.out]
          have hst := pts_take D.hands[k] q hqz
          rw [← hy.out] at hst
          have hpl := pts_take_le D.hands[k] q
          rw [← Hm.out] at hpl
          obtain ⟨x, hx⟩ : ∃ x, valueOf y = x := ⟨_, rfl⟩
          have hv := valueOf_le y
          rw [hx] at hst hv
          obtain ⟨s, hs⟩ : ∃ s, ptsOf (D.hands[k].take q) = s := ⟨_, rfl⟩
          rw [hs] at hst hpl
          have hyk2 := hyk.out
          rw [hs] at hyk2
          have hck : wr.cell? ⟨W0.heap.size, k, none⟩ = some (.int .i64 s) := by rw [hown.cellAt k (by omega), hyk2]
          have hfk : wr.frozen? ⟨W0.heap.size, k, none⟩ = false := hown.frozenAt k
          have HB3 : Hid (Below W0.heap.size W0 (wr.drew.setCell ⟨W0.heap.size, k, none⟩ (.int .i64 (s + x)))) := Lib.hid (hbq.drew.setCell (Nat.le_refl _) _)
          have HO3 : Hid ((wr.drew.setCell ⟨W0.heap.size, k, none⟩ (.int .i64 (s + x))).ownsRow W0.heap.size 3 1 (.slice (some ⟨W0.heap.size, 0, none⟩) n n) n (ys.set k (.int .i64 (s + x)))) := Lib.hid ((show wr.drew.ownsRow W0.heap.size 3 1 (.slice (some ⟨W0.heap.size, 0, none⟩) n n) n ys from hown).stored k _).1
          have HY1 : Hid ((ys.set k (.int .i64 (s + x)))[k]? = some (.int .i64 (ptsOf (D.hands[k].take (q + 1))))) := Lib.hid (by rw [List.getElem?_set_self (by rw [hown.1]; omega), hst])
          have HY2 : Hid (∀ j, j ≠ k → (ys.set k (.int .i64 (s + x)))[j]? = xs[j]?) := Lib.hid (fun j hj => by rw [List.getElem?_set_ne (fun e => hj e.symm)]; exact hyj.out j hj)
          have qa : (k : Int) < (n : Int) := by omega
          have qb : IntKind.i64.wrap (s + x) = s + x := IntWalk.i64_in _ (by omega)
          clear hst hs hyk2 hyk hyj hbq hown hcs e3
          go_wp2_with fail
          refine wp_region_still_tail 8 (by kernel_rfl) (by kernel_rfl) ?_
          simp only [List.take_succ_cons, List.take_zero, List.drop_succ_cons, List.drop_zero]
          still_step
          still_step
          still_step
          still_step
          still_step
          still_call ((valueOf_any y _ x hx).mono (by rintro e w'' ⟨rfl, rfl⟩; exact ⟨rfl, rfl⟩))
          still_step
          still_step
          refine wpStill_nil ?_
          go_wp2_with fail
          go_roundw
          case rel => exact ⟨q + 1, by omega, by go_num, HB3.out, _, HO3.out, HY1, HY2⟩
          case measure => simp [intOf]; omega
        · obtain rfl : q = m := by omega
          have e : D.hands[k].take q = D.hands[k] := List.take_of_length_le (by rw [Hm.out]; exact Nat.le_refl _)
          have hx2 : Hid (∀ j (hj : j < D.hands.length), ys[j]? = some (.int .i64 (if j < k + 1 then ptsOf D.hands[j] else 0))) := Lib.hid (fun j hj => by
            by_cases ej : j = k
            · subst ej
              rw [if_pos (by omega)]
              have := hyk.out
              rw [e] at this; exact this
            · rw [hyj.out j ej, hxs.out j hj]
              by_cases h1 : j < k
              · rw [if_pos h1, if_pos (by omega)]
              · rw [if_neg h1, if_neg (by omega)])
          clear hyk hyj e
          go_wp2_with fail
          go_roundw
          case rel => exact ⟨k + 1, by omega, by go_num, hbq, ys, hown, hx2⟩
          case measure => simp [intOf]; omega
    · obtain rfl : k = n := by omega
      go_wp2_with fail
      go_ret
      have hx2 : xs = (leftPts D.hands).map (Value.int .i64) := by
        refine List.ext_getElem? fun j => ?_
        by_cases hj : j < D.hands.length
        · rw [hxs.out j hj, if_pos (by rw [Hn.out]; exact hj)]
          simp [leftPts, hj]
        · rw [List.getElem?_eq_none (by rw [hown.1, Hn.out]; omega), List.getElem?_eq_none (by simp [leftPts]; omega)]
      rw [hx2] at hown
      have hown2 : wr.ownsRow W0.heap.size 3 1 (.slice (some ⟨W0.heap.size, 0, none⟩) k k) (leftPts D.hands).length ((leftPts D.hands).map (Value.int .i64)) := by rw [leftPts_len, ← Hn.out]; exact hown
      obtain ⟨b', hb', hw'⟩ := own_wr hown2 Hwf.out
      exact ⟨_, b', rfl, Nat.le_trans BW0.size hb', hw', hBw⟩
end Go.Proofs.YtbeodaelbjgmeaaDoor
