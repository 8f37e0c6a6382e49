/-
  readVarints, by contract.
-/
import Derived.Test.YtjigglnepcabmaaGroups
import Derived.WalkMore
import Derived.ScopeJumps
namespace Go.Proofs.Ytjigglnepcabmaa
open Go.RowKit

set_option maxRecDepth 100000 in
set_option maxHeartbeats 20000000 in
theorem readVarints_any (v : Value) (zs : List Int) (b : Nat) (c : Int) (cnt : Nat) (w : World) (h : RdAt .u8 w v zs b) (hl : zs.length ≤ 1099511627776) (wc : (Lit.int .i64 c).wf = true) (hcnt : cnt ≤ 100) :
    Calls Try.prog 66 #[v, .int .i64 c, .int .i64 cnt] w fun e w' => ∃ v' b', e = .returned (.tuple #[v', .int .i64 (rdN (rdList zs c cnt)), .bool (rdB (rdList zs c cnt))]) ∧ w.heap.size ≤ b' ∧ WrAt .i64 w' v' (rdZ (rdList zs c cnt)) b' ∧ Below w.heap.size w w' := by
  obtain ⟨i0, hi, hz0, hz1, hz2⟩ := info_parts info_i64
  obtain ⟨r, hr⟩ : ∃ r, r = rdList zs c cnt := ⟨_, rfl⟩
  rw [← hr]
  have hwf := h.wf
  obtain ⟨p0, cap0, hv0, -⟩ := id h
  obtain ⟨n, hn⟩ : ∃ n, n = zs.length := ⟨_, rfl⟩
  have Hn := Lib.hid hn
  by_cases hin : 0 ≤ c ∧ c ≤ (n : Int)
  · obtain ⟨s0, rfl⟩ := Int.eq_ofNat_of_zero_le hin.1
    have hR0 : Hid (r = rdAll zs cnt (s0 : Int) []) := Lib.hid (by rw [hr]; exact if_pos (by rw [← hn]; exact hin))
    have hs0 : s0 ≤ n := by omega
    have hnl : n ≤ 1099511627776 := by rw [hn]; exact hl
    rw [← hn] at hv0
    clear hr hn
    go_enter Try.func66, Try.ntmps66
    subst hv0
    go_wp2_with fail
    go_step3
    go_wp2_with fail
    refine (inRange_any _ _ _ _ true (by simp; omega)).mono ?_
    rintro e _w ⟨rfl, rfl⟩
    go_wp2_with fail
    go_step3
    go_wp2_with fail
    have hown0 := World.ownsRow_lit (base := w.heap.size) (e := 3) (size := 1) w #[] 0 (Nat.le_refl _) (Nat.zero_le _) rfl
    go_loopg [9, 10] cnt (fun g vs nx wr => ∃ (s : Nat) (acc : List Int) (L : Nat), Hid (L = acc.length) ∧ L + g = cnt ∧ s ≤ n ∧ nx = .int .i64 s ∧ Hid (r = rdAll zs g (s : Int) acc) ∧ (∀ x ∈ acc, (Lit.int .i64 x).wf = true) ∧ Below w.heap.size w wr ∧ wr.ownsRow w.heap.size 3 1 vs L (acc.map (Value.int .i64)))
    case atStart => exact ⟨s0, [], 0, Lib.hid rfl, by omega, hs0, rfl, hR0, by simp, (Below.refl _ _).alloc (Nat.le_refl _) _, hown0⟩
    case round =>
      clear hown0
      obtain ⟨s, acc, L, HL, hg, hs, rfl, hR, hacc, hb2, hown⟩ := hrel
      obtain ⟨oa, ocap, rfl⟩ := own_shape hown
      have Hacc := Lib.hid hacc
      clear hacc
      cases gk with
      | zero =>
        obtain rfl : L = cnt := by omega
        have hyes : Hid (r = some (acc, (s : Int))) := Lib.hid (by rw [hR.out]; rfl)
        have hwr := Lib.hid (own_wr (by rw [← HL.out]; exact hown) Hacc.out)
        clear hown hR
        go_wp2_with fail
        try rw [Exit.noGoto_ret]
        go_ret3
        obtain ⟨b', hb', hw'⟩ := hwr.out
        exact ⟨_, b', by rw [hyes.out]; rfl, hb', by rw [hyes.out]; exact hw', hb2⟩
      | succ g =>
        have hlt : L < cnt := by omega
        have hrd := h.below hb2
        have hsz := hb2.size
        go_wp2_with fail
        refine (groupsFrom_any _ zs b s wr hrd hl (by rw [← Hn.out]; exact hs)).mono ?_
        rintro e wy ⟨gv, rfl, hgr, hbg⟩
        have hb3 := hb2.trans (hbg.mono hsz)
        have hown2 := own_below hown hbg
        obtain ⟨ga, gcap, rfl, hgcap, -, hgcell⟩ := hgr
        obtain ⟨gl, hgl⟩ : ∃ gl, gl = (groups zs s).length := ⟨_, rfl⟩
        have Hgl := Lib.hid hgl
        rw [← hgl] at hgcap ⊢
        have hgl2 : gl = min 6 (n - s) := by rw [hgl, groups_len, Hn.out]
        have hgl3 : gl ≤ 6 ∧ s + gl ≤ n ∧ (gl < 6 → n ≤ s + gl) := by omega
        obtain ⟨hgl4, hgl5, hgl6⟩ := hgl3
        have Hgl6 := Lib.hid hgl6
        clear hgl hgl2 hgl6 hown hb2 hbg hrd hgcap
        have hst : Hid (rdU zs s = rdGo zs s (6 - 0) 0 0) := Lib.hid (by unfold rdU; rw [if_neg (by omega), Int.toNat_natCast])
        go_wp2_with fail
        go_loopg [9, 10, 11, 30] gl (fun g2 vs nx nn kk wx => ∃ (k : Nat) (m : Int), vs = .slice oa L ocap ∧ nx = .int .i64 s ∧ k + g2 = gl ∧ kk = .int .i64 k ∧ nn = .int .i64 m ∧ 0 ≤ m ∧ m < 128 ^ k ∧ wx = wy ∧ Hid (rdU zs s = rdGo zs s (6 - k) k m))
        case atStart => exact ⟨0, 0, rfl, rfl, by omega, rfl, rfl, by omega, by decide, rfl, hst⟩
        case round =>
          clear hst
          obtain ⟨k, m, rfl, rfl, hk, rfl, rfl, hm0, hm1, rfl, hgo⟩ := hrel
          cases gk with
          | zero =>
            obtain rfl : k = gl := by omega
            have hno : Hid (r = none) := Lib.hid (by
              rw [hR.out]
              refine rdAll_none ?_
              rw [hgo.out]
              by_cases h6 : k = 6
              · rw [h6]; rfl
              · rw [show 6 - k = (5 - k) + 1 by omega, rdGo, if_pos (by have := Hgl6.out (by omega); rw [← Hn.out]; exact this)])
            clear hgo hm1
            go_wp2_with fail
            try rw [Exit.noGoto_ret]
            go_ret3
            exact ⟨_, w.heap.size, by rw [hno.out]; rfl, Nat.le_refl _, by rw [hno.out]; exact WrAt.nil _ _ _ _ _ ⟨Nat.zero_le _, fun h => by cases h⟩, hb3.alloc hb3.size _⟩
          | succ g2 =>
          have hkg : k < gl := by omega
          have hzs : s + k < zs.length := by rw [← Hn.out]; omega
          have hkg2 : k < (groups zs s).length := by rw [← Hgl.out]; exact hkg
          rcases hgcell with h0 | ⟨off2, rfl, hc⟩
          · rw [h0] at hkg2; simp at hkg2
          obtain ⟨y, hy⟩ : ∃ y, Hid (y = zs[s + k]) := ⟨_, Lib.hid rfl⟩
          have by8 := bounds_u8 (hwf _ (List.getElem_mem hzs))
          rw [← hy.out] at by8
          obtain ⟨hy0', hy1''⟩ := by8
          have hy1' : y < 256 := by omega
          have hgc : wr.cell? ⟨b, off2 + k, none⟩ = some (.int .u8 y) := by rw [hc k hkg2, groups_at zs s k hkg2 hzs, hy.out]
          have hgo2 : Hid (rdU zs s = if y < 128 then if (y = 0 ∧ 0 < k) ∨ 1000000000000 < m + (y % 128) * 128 ^ k then none else some (m + (y % 128) * 128 ^ k, (s : Int) + k + 1) else rdGo zs s (6 - (k + 1)) (k + 1) (m + (y % 128) * 128 ^ k)) := Lib.hid (by
            rw [hgo.out, show 6 - k = (5 - k) + 1 by omega, rdGo, if_neg (by omega), show 6 - (k + 1) = 5 - k by omega]
            have e : zs.getD (s + k) 0 = y := by rw [hy.out]; simp [List.getD, hzs]
            rw [e])
          have handn := u8_andNot y hy0' hy1'
          have hor := or_join k (by omega) m (y % 128) hm0 hm1 (by omega) (by omega)
          clear hc hgo hkg2 hy hzs
          obtain rfl | rfl | rfl | rfl | rfl | rfl : k = 0 ∨ k = 1 ∨ k = 2 ∨ k = 3 ∨ k = 4 ∨ k = 5 := by omega
          · have hm2 : m < 1 := by simpa using hm1
            obtain rfl : m = 0 := by omega
            have hor2 : bits .or .i64 0 (y % 128) = y % 128 := by simpa using hor
            have hgo3 : Hid (rdU zs s = if y < 128 then if 1000000000000 < y % 128 then none else some (y % 128, (s : Int) + 1) else rdGo zs s (6 - (0 + 1)) (0 + 1) (y % 128)) := Lib.hid (by have := hgo2.out; simpa using this)
            have hgc2 : wr.cell? ⟨b, off2, none⟩ = some (.int .u8 y) := by simpa using hgc
            clear hm1 hor hgo2 hgc
            by_cases hy1 : y < 128
            · have hand2 : bits .and .u8 y 128 = 0 := by rw [u8_and y hy0' hy1']; exact if_pos hy1
              have hbad : ¬ (1000000000000 < y % 128) := by omega
              have hyes : Hid (rdU zs s = some (y % 128, (s : Int) + 1)) := Lib.hid (by rw [hgo3.out, if_pos hy1, if_neg hbad])
              clear hgo3
              cases hq : (y == 0) with
              | true =>
                have hR2 : Hid (r = rdAll zs g ((s : Int) + 1) (acc ++ [y % 128])) := Lib.hid (by rw [hR.out]; exact rdAll_some hyes.out)
                clear hyes
                have hsz3 := hb3.size
                go_wp2_with (at_builtin; refine wpList_append_own _ rfl _ _ 35 rfl w.heap.size 3 i0 (.int .i64 0) 1 8 Try.underlying35 hi hz0 hz1 hz2 rfl (by decide) _ _ _ rfl (hown2.alloc _) ⟨wr.heap.size, 0, none⟩ 1 1 [.int .i64 (y % 128)] rfl rfl (cell_one_new _ _ _) (one_cell _ _) ?e3 ?e4 (by simp; omega) ?_)
                case e3 => unfold maxLen; omega
                case e4 => omega
                intro v3 w3 hown3 hgr3 _
                have hb4 : Below w.heap.size w w3 := (hb3.alloc hb3.size _).grown hgr3 (by simp; omega) (own_block hown2)
                have hown4 : w3.ownsRow w.heap.size 3 1 v3 (L + 1) ((acc ++ [y % 128]).map (Value.int .i64)) := by
                  rw [List.map_append]; exact hown3
                clear hown3 hgr3 hown2 hb3
                go_wp2_with fail
                go_roundg g
                case measure => omega
                case rel => exact ⟨s + 1, acc ++ [y % 128], L + 1, Lib.hid (by rw [List.length_append, ← HL.out]; rfl), by omega, by omega, by go_num, by have := hR2.out; simpa [Int.add_assoc] using Lib.hid this, fun x hx => (List.mem_append.1 hx).elim (Hacc.out x) (fun h => by simp at h; subst h; exact WalkArith.wf_i64 (by omega)), hb4, hown4⟩
              | false =>
                have hR2 : Hid (r = rdAll zs g ((s : Int) + 1) (acc ++ [y % 128])) := Lib.hid (by rw [hR.out]; exact rdAll_some hyes.out)
                clear hyes
                have hsz3 := hb3.size
                go_wp2_with (at_builtin; refine wpList_append_own _ rfl _ _ 35 rfl w.heap.size 3 i0 (.int .i64 0) 1 8 Try.underlying35 hi hz0 hz1 hz2 rfl (by decide) _ _ _ rfl (hown2.alloc _) ⟨wr.heap.size, 0, none⟩ 1 1 [.int .i64 (y % 128)] rfl rfl (cell_one_new _ _ _) (one_cell _ _) ?e3 ?e4 (by simp; omega) ?_)
                case e3 => unfold maxLen; omega
                case e4 => omega
                intro v3 w3 hown3 hgr3 _
                have hb4 : Below w.heap.size w w3 := (hb3.alloc hb3.size _).grown hgr3 (by simp; omega) (own_block hown2)
                have hown4 : w3.ownsRow w.heap.size 3 1 v3 (L + 1) ((acc ++ [y % 128]).map (Value.int .i64)) := by
                  rw [List.map_append]; exact hown3
                clear hown3 hgr3 hown2 hb3
                go_wp2_with fail
                go_roundg g
                case measure => omega
                case rel => exact ⟨s + 1, acc ++ [y % 128], L + 1, Lib.hid (by rw [List.length_append, ← HL.out]; rfl), by omega, by omega, by go_num, by have := hR2.out; simpa [Int.add_assoc] using Lib.hid this, fun x hx => (List.mem_append.1 hx).elim (Hacc.out x) (fun h => by simp at h; subst h; exact WalkArith.wf_i64 (by omega)), hb4, hown4⟩
            · have hand2 : bits .and .u8 y 128 = 128 := by rw [u8_and y hy0' hy1']; exact if_neg hy1
              have hgo4 : Hid (rdU zs s = rdGo zs s (6 - (0 + 1)) (0 + 1) (y % 128)) := Lib.hid (by rw [hgo3.out, if_neg hy1])
              clear hgo3
              go_wp2_with fail
              go_roundg g2
              case measure => omega
              case rel => exact ⟨0 + 1, _, rfl, rfl, by omega, by go_num, rfl, by omega, by simp; omega, rfl, hgo4⟩

          · have hm2 : m < 128 := by simpa using hm1
            have hor2 : bits .or .i64 m (y % 128 * 128) = m + y % 128 * 128 := by simpa using hor
            have hgo3 : Hid (rdU zs s = if y < 128 then if (y = 0 ∧ 0 < 1) ∨ 1000000000000 < m + y % 128 * 128 then none else some (m + y % 128 * 128, (s : Int) + 1 + 1) else rdGo zs s (6 - (1 + 1)) (1 + 1) (m + y % 128 * 128)) := Lib.hid (by have := hgo2.out; simpa using this)
            have hgc2 : wr.cell? ⟨b, off2 + 1, none⟩ = some (.int .u8 y) := by simpa using hgc
            clear hm1 hor hgo2 hgc
            by_cases hy1 : y < 128
            · have hand2 : bits .and .u8 y 128 = 0 := by rw [u8_and y hy0' hy1']; exact if_pos hy1
              by_cases hbad : (y = 0 ∧ 0 < 1) ∨ 1000000000000 < m + y % 128 * 128
              · have hno : Hid (r = none) := Lib.hid (by rw [hR.out]; exact rdAll_none (by rw [hgo3.out, if_pos hy1, if_pos hbad]))
                clear hgo3
                by_cases hy0 : y = 0
                · subst hy0
                  clear hbad
                  go_wp2_with fail
                  try rw [Exit.noGoto_ret]
                  go_ret3
                  exact ⟨_, w.heap.size, by rw [hno.out]; rfl, Nat.le_refl _, by rw [hno.out]; exact WrAt.nil _ _ _ _ _ ⟨Nat.zero_le _, fun h => by cases h⟩, hb3.alloc hb3.size _⟩
                · have hb1 : 1000000000000 < m + y % 128 * 128 := by omega
                  have hq : (y == 0) = false := by simpa using hy0
                  clear hbad hy0
                  omega
              · have hyes : Hid (rdU zs s = some (m + y % 128 * 128, (s : Int) + 1 + 1)) := Lib.hid (by rw [hgo3.out, if_pos hy1, if_neg hbad])
                have hb1 : ¬ 1000000000000 < m + y % 128 * 128 := fun h => hbad (.inr h)
                have hq : (y == 0) = false := by
                  have : y ≠ 0 := fun h => hbad (.inl ⟨h, by omega⟩)
                  simpa using this
                clear hbad hgo3
                have hR2 : Hid (r = rdAll zs g ((s : Int) + 1 + 1) (acc ++ [m + y % 128 * 128])) := Lib.hid (by rw [hR.out]; exact rdAll_some hyes.out)
                clear hyes
                have hsz3 := hb3.size
                go_wp2_with (at_builtin; refine wpList_append_own _ rfl _ _ 35 rfl w.heap.size 3 i0 (.int .i64 0) 1 8 Try.underlying35 hi hz0 hz1 hz2 rfl (by decide) _ _ _ rfl (hown2.alloc _) ⟨wr.heap.size, 0, none⟩ 1 1 [.int .i64 (m + y % 128 * 128)] rfl rfl (cell_one_new _ _ _) (one_cell _ _) ?e3 ?e4 (by simp; omega) ?_)
                case e3 => unfold maxLen; omega
                case e4 => omega
                intro v3 w3 hown3 hgr3 _
                have hb4 : Below w.heap.size w w3 := (hb3.alloc hb3.size _).grown hgr3 (by simp; omega) (own_block hown2)
                have hown4 : w3.ownsRow w.heap.size 3 1 v3 (L + 1) ((acc ++ [m + y % 128 * 128]).map (Value.int .i64)) := by
                  rw [List.map_append]; exact hown3
                clear hown3 hgr3 hown2 hb3
                go_wp2_with fail
                go_roundg g
                case measure => omega
                case rel => exact ⟨s + 2, acc ++ [m + y % 128 * 128], L + 1, Lib.hid (by rw [List.length_append, ← HL.out]; rfl), by omega, by omega, by go_num, by have := hR2.out; simpa [Int.add_assoc] using Lib.hid this, fun x hx => (List.mem_append.1 hx).elim (Hacc.out x) (fun h => by simp at h; subst h; exact WalkArith.wf_i64 (by omega)), hb4, hown4⟩
            · have hand2 : bits .and .u8 y 128 = 128 := by rw [u8_and y hy0' hy1']; exact if_neg hy1
              have hgo4 : Hid (rdU zs s = rdGo zs s (6 - (1 + 1)) (1 + 1) (m + y % 128 * 128)) := Lib.hid (by rw [hgo3.out, if_neg hy1])
              clear hgo3
              go_wp2_with fail
              go_roundg g2
              case measure => omega
              case rel => exact ⟨1 + 1, _, rfl, rfl, by omega, by go_num, rfl, by omega, by simp; omega, rfl, hgo4⟩

          · have hm2 : m < 16384 := by simpa using hm1
            have hor2 : bits .or .i64 m (y % 128 * 16384) = m + y % 128 * 16384 := by simpa using hor
            have hgo3 : Hid (rdU zs s = if y < 128 then if (y = 0 ∧ 0 < 2) ∨ 1000000000000 < m + y % 128 * 16384 then none else some (m + y % 128 * 16384, (s : Int) + 2 + 1) else rdGo zs s (6 - (2 + 1)) (2 + 1) (m + y % 128 * 16384)) := Lib.hid (by have := hgo2.out; simpa using this)
            have hgc2 : wr.cell? ⟨b, off2 + 2, none⟩ = some (.int .u8 y) := by simpa using hgc
            clear hm1 hor hgo2 hgc
            by_cases hy1 : y < 128
            · have hand2 : bits .and .u8 y 128 = 0 := by rw [u8_and y hy0' hy1']; exact if_pos hy1
              by_cases hbad : (y = 0 ∧ 0 < 2) ∨ 1000000000000 < m + y % 128 * 16384
              · have hno : Hid (r = none) := Lib.hid (by rw [hR.out]; exact rdAll_none (by rw [hgo3.out, if_pos hy1, if_pos hbad]))
                clear hgo3
                by_cases hy0 : y = 0
                · subst hy0
                  clear hbad
                  go_wp2_with fail
                  try rw [Exit.noGoto_ret]
                  go_ret3
                  exact ⟨_, w.heap.size, by rw [hno.out]; rfl, Nat.le_refl _, by rw [hno.out]; exact WrAt.nil _ _ _ _ _ ⟨Nat.zero_le _, fun h => by cases h⟩, hb3.alloc hb3.size _⟩
                · have hb1 : 1000000000000 < m + y % 128 * 16384 := by omega
                  have hq : (y == 0) = false := by simpa using hy0
                  clear hbad hy0
                  omega
              · have hyes : Hid (rdU zs s = some (m + y % 128 * 16384, (s : Int) + 2 + 1)) := Lib.hid (by rw [hgo3.out, if_pos hy1, if_neg hbad])
                have hb1 : ¬ 1000000000000 < m + y % 128 * 16384 := fun h => hbad (.inr h)
                have hq : (y == 0) = false := by
                  have : y ≠ 0 := fun h => hbad (.inl ⟨h, by omega⟩)
                  simpa using this
                clear hbad hgo3
                have hR2 : Hid (r = rdAll zs g ((s : Int) + 2 + 1) (acc ++ [m + y % 128 * 16384])) := Lib.hid (by rw [hR.out]; exact rdAll_some hyes.out)
                clear hyes
                have hsz3 := hb3.size
                go_wp2_with (at_builtin; refine wpList_append_own _ rfl _ _ 35 rfl w.heap.size 3 i0 (.int .i64 0) 1 8 Try.underlying35 hi hz0 hz1 hz2 rfl (by decide) _ _ _ rfl (hown2.alloc _) ⟨wr.heap.size, 0, none⟩ 1 1 [.int .i64 (m + y % 128 * 16384)] rfl rfl (cell_one_new _ _ _) (one_cell _ _) ?e3 ?e4 (by simp; omega) ?_)
                case e3 => unfold maxLen; omega
                case e4 => omega
                intro v3 w3 hown3 hgr3 _
                have hb4 : Below w.heap.size w w3 := (hb3.alloc hb3.size _).grown hgr3 (by simp; omega) (own_block hown2)
                have hown4 : w3.ownsRow w.heap.size 3 1 v3 (L + 1) ((acc ++ [m + y % 128 * 16384]).map (Value.int .i64)) := by
                  rw [List.map_append]; exact hown3
                clear hown3 hgr3 hown2 hb3
                go_wp2_with fail
                go_roundg g
                case measure => omega
                case rel => exact ⟨s + 3, acc ++ [m + y % 128 * 16384], L + 1, Lib.hid (by rw [List.length_append, ← HL.out]; rfl), by omega, by omega, by go_num, by have := hR2.out; simpa [Int.add_assoc] using Lib.hid this, fun x hx => (List.mem_append.1 hx).elim (Hacc.out x) (fun h => by simp at h; subst h; exact WalkArith.wf_i64 (by omega)), hb4, hown4⟩
            · have hand2 : bits .and .u8 y 128 = 128 := by rw [u8_and y hy0' hy1']; exact if_neg hy1
              have hgo4 : Hid (rdU zs s = rdGo zs s (6 - (2 + 1)) (2 + 1) (m + y % 128 * 16384)) := Lib.hid (by rw [hgo3.out, if_neg hy1])
              clear hgo3
              go_wp2_with fail
              go_roundg g2
              case measure => omega
              case rel => exact ⟨2 + 1, _, rfl, rfl, by omega, by go_num, rfl, by omega, by simp; omega, rfl, hgo4⟩

          · have hm2 : m < 2097152 := by simpa using hm1
            have hor2 : bits .or .i64 m (y % 128 * 2097152) = m + y % 128 * 2097152 := by simpa using hor
            have hgo3 : Hid (rdU zs s = if y < 128 then if (y = 0 ∧ 0 < 3) ∨ 1000000000000 < m + y % 128 * 2097152 then none else some (m + y % 128 * 2097152, (s : Int) + 3 + 1) else rdGo zs s (6 - (3 + 1)) (3 + 1) (m + y % 128 * 2097152)) := Lib.hid (by have := hgo2.out; simpa using this)
            have hgc2 : wr.cell? ⟨b, off2 + 3, none⟩ = some (.int .u8 y) := by simpa using hgc
            clear hm1 hor hgo2 hgc
            by_cases hy1 : y < 128
            · have hand2 : bits .and .u8 y 128 = 0 := by rw [u8_and y hy0' hy1']; exact if_pos hy1
              by_cases hbad : (y = 0 ∧ 0 < 3) ∨ 1000000000000 < m + y % 128 * 2097152
              · have hno : Hid (r = none) := Lib.hid (by rw [hR.out]; exact rdAll_none (by rw [hgo3.out, if_pos hy1, if_pos hbad]))
                clear hgo3
                by_cases hy0 : y = 0
                · subst hy0
                  clear hbad
                  go_wp2_with fail
                  try rw [Exit.noGoto_ret]
                  go_ret3
                  exact ⟨_, w.heap.size, by rw [hno.out]; rfl, Nat.le_refl _, by rw [hno.out]; exact WrAt.nil _ _ _ _ _ ⟨Nat.zero_le _, fun h => by cases h⟩, hb3.alloc hb3.size _⟩
                · have hb1 : 1000000000000 < m + y % 128 * 2097152 := by omega
                  have hq : (y == 0) = false := by simpa using hy0
                  clear hbad hy0
                  omega
              · have hyes : Hid (rdU zs s = some (m + y % 128 * 2097152, (s : Int) + 3 + 1)) := Lib.hid (by rw [hgo3.out, if_pos hy1, if_neg hbad])
                have hb1 : ¬ 1000000000000 < m + y % 128 * 2097152 := fun h => hbad (.inr h)
                have hq : (y == 0) = false := by
                  have : y ≠ 0 := fun h => hbad (.inl ⟨h, by omega⟩)
                  simpa using this
                clear hbad hgo3
                have hR2 : Hid (r = rdAll zs g ((s : Int) + 3 + 1) (acc ++ [m + y % 128 * 2097152])) := Lib.hid (by rw [hR.out]; exact rdAll_some hyes.out)
                clear hyes
                have hsz3 := hb3.size
                go_wp2_with (at_builtin; refine wpList_append_own _ rfl _ _ 35 rfl w.heap.size 3 i0 (.int .i64 0) 1 8 Try.underlying35 hi hz0 hz1 hz2 rfl (by decide) _ _ _ rfl (hown2.alloc _) ⟨wr.heap.size, 0, none⟩ 1 1 [.int .i64 (m + y % 128 * 2097152)] rfl rfl (cell_one_new _ _ _) (one_cell _ _) ?e3 ?e4 (by simp; omega) ?_)
                case e3 => unfold maxLen; omega
                case e4 => omega
                intro v3 w3 hown3 hgr3 _
                have hb4 : Below w.heap.size w w3 := (hb3.alloc hb3.size _).grown hgr3 (by simp; omega) (own_block hown2)
                have hown4 : w3.ownsRow w.heap.size 3 1 v3 (L + 1) ((acc ++ [m + y % 128 * 2097152]).map (Value.int .i64)) := by
                  rw [List.map_append]; exact hown3
                clear hown3 hgr3 hown2 hb3
                go_wp2_with fail
                go_roundg g
                case measure => omega
                case rel => exact ⟨s + 4, acc ++ [m + y % 128 * 2097152], L + 1, Lib.hid (by rw [List.length_append, ← HL.out]; rfl), by omega, by omega, by go_num, by have := hR2.out; simpa [Int.add_assoc] using Lib.hid this, fun x hx => (List.mem_append.1 hx).elim (Hacc.out x) (fun h => by simp at h; subst h; exact WalkArith.wf_i64 (by omega)), hb4, hown4⟩
            · have hand2 : bits .and .u8 y 128 = 128 := by rw [u8_and y hy0' hy1']; exact if_neg hy1
              have hgo4 : Hid (rdU zs s = rdGo zs s (6 - (3 + 1)) (3 + 1) (m + y % 128 * 2097152)) := Lib.hid (by rw [hgo3.out, if_neg hy1])
              clear hgo3
              go_wp2_with fail
              go_roundg g2
              case measure => omega
              case rel => exact ⟨3 + 1, _, rfl, rfl, by omega, by go_num, rfl, by omega, by simp; omega, rfl, hgo4⟩

          · have hm2 : m < 268435456 := by simpa using hm1
            have hor2 : bits .or .i64 m (y % 128 * 268435456) = m + y % 128 * 268435456 := by simpa using hor
            have hgo3 : Hid (rdU zs s = if y < 128 then if (y = 0 ∧ 0 < 4) ∨ 1000000000000 < m + y % 128 * 268435456 then none else some (m + y % 128 * 268435456, (s : Int) + 4 + 1) else rdGo zs s (6 - (4 + 1)) (4 + 1) (m + y % 128 * 268435456)) := Lib.hid (by have := hgo2.out; simpa using this)
            have hgc2 : wr.cell? ⟨b, off2 + 4, none⟩ = some (.int .u8 y) := by simpa using hgc
            clear hm1 hor hgo2 hgc
            by_cases hy1 : y < 128
            · have hand2 : bits .and .u8 y 128 = 0 := by rw [u8_and y hy0' hy1']; exact if_pos hy1
              by_cases hbad : (y = 0 ∧ 0 < 4) ∨ 1000000000000 < m + y % 128 * 268435456
              · have hno : Hid (r = none) := Lib.hid (by rw [hR.out]; exact rdAll_none (by rw [hgo3.out, if_pos hy1, if_pos hbad]))
                clear hgo3
                by_cases hy0 : y = 0
                · subst hy0
                  clear hbad
                  go_wp2_with fail
                  try rw [Exit.noGoto_ret]
                  go_ret3
                  exact ⟨_, w.heap.size, by rw [hno.out]; rfl, Nat.le_refl _, by rw [hno.out]; exact WrAt.nil _ _ _ _ _ ⟨Nat.zero_le _, fun h => by cases h⟩, hb3.alloc hb3.size _⟩
                · have hb1 : 1000000000000 < m + y % 128 * 268435456 := by omega
                  have hq : (y == 0) = false := by simpa using hy0
                  clear hbad hy0
                  omega
              · have hyes : Hid (rdU zs s = some (m + y % 128 * 268435456, (s : Int) + 4 + 1)) := Lib.hid (by rw [hgo3.out, if_pos hy1, if_neg hbad])
                have hb1 : ¬ 1000000000000 < m + y % 128 * 268435456 := fun h => hbad (.inr h)
                have hq : (y == 0) = false := by
                  have : y ≠ 0 := fun h => hbad (.inl ⟨h, by omega⟩)
                  simpa using this
                clear hbad hgo3
                have hR2 : Hid (r = rdAll zs g ((s : Int) + 4 + 1) (acc ++ [m + y % 128 * 268435456])) := Lib.hid (by rw [hR.out]; exact rdAll_some hyes.out)
                clear hyes
                have hsz3 := hb3.size
                go_wp2_with (at_builtin; refine wpList_append_own _ rfl _ _ 35 rfl w.heap.size 3 i0 (.int .i64 0) 1 8 Try.underlying35 hi hz0 hz1 hz2 rfl (by decide) _ _ _ rfl (hown2.alloc _) ⟨wr.heap.size, 0, none⟩ 1 1 [.int .i64 (m + y % 128 * 268435456)] rfl rfl (cell_one_new _ _ _) (one_cell _ _) ?e3 ?e4 (by simp; omega) ?_)
                case e3 => unfold maxLen; omega
                case e4 => omega
                intro v3 w3 hown3 hgr3 _
                have hb4 : Below w.heap.size w w3 := (hb3.alloc hb3.size _).grown hgr3 (by simp; omega) (own_block hown2)
                have hown4 : w3.ownsRow w.heap.size 3 1 v3 (L + 1) ((acc ++ [m + y % 128 * 268435456]).map (Value.int .i64)) := by
                  rw [List.map_append]; exact hown3
                clear hown3 hgr3 hown2 hb3
                go_wp2_with fail
                go_roundg g
                case measure => omega
                case rel => exact ⟨s + 5, acc ++ [m + y % 128 * 268435456], L + 1, Lib.hid (by rw [List.length_append, ← HL.out]; rfl), by omega, by omega, by go_num, by have := hR2.out; simpa [Int.add_assoc] using Lib.hid this, fun x hx => (List.mem_append.1 hx).elim (Hacc.out x) (fun h => by simp at h; subst h; exact WalkArith.wf_i64 (by omega)), hb4, hown4⟩
            · have hand2 : bits .and .u8 y 128 = 128 := by rw [u8_and y hy0' hy1']; exact if_neg hy1
              have hgo4 : Hid (rdU zs s = rdGo zs s (6 - (4 + 1)) (4 + 1) (m + y % 128 * 268435456)) := Lib.hid (by rw [hgo3.out, if_neg hy1])
              clear hgo3
              go_wp2_with fail
              go_roundg g2
              case measure => omega
              case rel => exact ⟨4 + 1, _, rfl, rfl, by omega, by go_num, rfl, by omega, by simp; omega, rfl, hgo4⟩

          · have hm2 : m < 34359738368 := by simpa using hm1
            have hor2 : bits .or .i64 m (y % 128 * 34359738368) = m + y % 128 * 34359738368 := by simpa using hor
            have hgo3 : Hid (rdU zs s = if y < 128 then if (y = 0 ∧ 0 < 5) ∨ 1000000000000 < m + y % 128 * 34359738368 then none else some (m + y % 128 * 34359738368, (s : Int) + 5 + 1) else rdGo zs s (6 - (5 + 1)) (5 + 1) (m + y % 128 * 34359738368)) := Lib.hid (by have := hgo2.out; simpa using this)
            have hgc2 : wr.cell? ⟨b, off2 + 5, none⟩ = some (.int .u8 y) := by simpa using hgc
            clear hm1 hor hgo2 hgc
            by_cases hy1 : y < 128
            · have hand2 : bits .and .u8 y 128 = 0 := by rw [u8_and y hy0' hy1']; exact if_pos hy1
              by_cases hbad : (y = 0 ∧ 0 < 5) ∨ 1000000000000 < m + y % 128 * 34359738368
              · have hno : Hid (r = none) := Lib.hid (by rw [hR.out]; exact rdAll_none (by rw [hgo3.out, if_pos hy1, if_pos hbad]))
                clear hgo3
                by_cases hy0 : y = 0
                · subst hy0
                  clear hbad
                  go_wp2_with fail
                  try rw [Exit.noGoto_ret]
                  go_ret3
                  exact ⟨_, w.heap.size, by rw [hno.out]; rfl, Nat.le_refl _, by rw [hno.out]; exact WrAt.nil _ _ _ _ _ ⟨Nat.zero_le _, fun h => by cases h⟩, hb3.alloc hb3.size _⟩
                · have hb1 : 1000000000000 < m + y % 128 * 34359738368 := by omega
                  have hq : (y == 0) = false := by simpa using hy0
                  clear hbad hy0
                  go_wp2_with fail
                  try rw [Exit.noGoto_ret]
                  go_ret3
                  exact ⟨_, w.heap.size, by rw [hno.out]; rfl, Nat.le_refl _, by rw [hno.out]; exact WrAt.nil _ _ _ _ _ ⟨Nat.zero_le _, fun h => by cases h⟩, hb3.alloc hb3.size _⟩
              · have hyes : Hid (rdU zs s = some (m + y % 128 * 34359738368, (s : Int) + 5 + 1)) := Lib.hid (by rw [hgo3.out, if_pos hy1, if_neg hbad])
                have hb1 : ¬ 1000000000000 < m + y % 128 * 34359738368 := fun h => hbad (.inr h)
                have hq : (y == 0) = false := by
                  have : y ≠ 0 := fun h => hbad (.inl ⟨h, by omega⟩)
                  simpa using this
                clear hbad hgo3
                have hR2 : Hid (r = rdAll zs g ((s : Int) + 5 + 1) (acc ++ [m + y % 128 * 34359738368])) := Lib.hid (by rw [hR.out]; exact rdAll_some hyes.out)
                clear hyes
                have hsz3 := hb3.size
                go_wp2_with (at_builtin; refine wpList_append_own _ rfl _ _ 35 rfl w.heap.size 3 i0 (.int .i64 0) 1 8 Try.underlying35 hi hz0 hz1 hz2 rfl (by decide) _ _ _ rfl (hown2.alloc _) ⟨wr.heap.size, 0, none⟩ 1 1 [.int .i64 (m + y % 128 * 34359738368)] rfl rfl (cell_one_new _ _ _) (one_cell _ _) ?e3 ?e4 (by simp; omega) ?_)
                case e3 => unfold maxLen; omega
                case e4 => omega
                intro v3 w3 hown3 hgr3 _
                have hb4 : Below w.heap.size w w3 := (hb3.alloc hb3.size _).grown hgr3 (by simp; omega) (own_block hown2)
                have hown4 : w3.ownsRow w.heap.size 3 1 v3 (L + 1) ((acc ++ [m + y % 128 * 34359738368]).map (Value.int .i64)) := by
                  rw [List.map_append]; exact hown3
                clear hown3 hgr3 hown2 hb3
                go_wp2_with fail
                go_roundg g
                case measure => omega
                case rel => exact ⟨s + 6, acc ++ [m + y % 128 * 34359738368], L + 1, Lib.hid (by rw [List.length_append, ← HL.out]; rfl), by omega, by omega, by go_num, by have := hR2.out; simpa [Int.add_assoc] using Lib.hid this, fun x hx => (List.mem_append.1 hx).elim (Hacc.out x) (fun h => by simp at h; subst h; exact WalkArith.wf_i64 (by omega)), hb4, hown4⟩
            · have hand2 : bits .and .u8 y 128 = 128 := by rw [u8_and y hy0' hy1']; exact if_neg hy1
              have hgo4 : Hid (rdU zs s = rdGo zs s (6 - (5 + 1)) (5 + 1) (m + y % 128 * 34359738368)) := Lib.hid (by rw [hgo3.out, if_neg hy1])
              clear hgo3
              go_wp2_with fail
              go_roundg g2
              case measure => omega
              case rel => exact ⟨5 + 1, _, rfl, rfl, by omega, by go_num, rfl, by omega, by simp; omega, rfl, hgo4⟩

  · have hno : Hid (r = none) := Lib.hid (by rw [hr]; exact if_neg (by rw [← hn]; exact hin))
    rw [← hn] at hv0
    clear hr hn
    go_enter Try.func66, Try.ntmps66
    subst hv0
    go_wp2_with fail
    go_step3
    go_wp2_with fail
    refine (inRange_any _ _ _ _ false (by simp; omega)).mono ?_
    rintro e _w ⟨rfl, rfl⟩
    go_wp2_with fail
    try rw [Exit.noGoto_ret]
    go_ret3
    exact ⟨_, w.heap.size, by rw [hno.out]; rfl, Nat.le_refl _, by rw [hno.out]; exact WrAt.nil _ _ _ _ _ ⟨Nat.zero_le _, fun h => by cases h⟩, (Below.refl _ _).alloc (Nat.le_refl _) _⟩
end Go.Proofs.Ytjigglnepcabmaa
