/-
  slices.Concat over any number of slices of integers.
-/
import Derived.Test.YtmfammgdcdlceaaDoorCatI
import Derived.Test.YtmfammgdcdlceaaDoorApart
namespace Go.Proofs.YtmfammgdcdlceaaDoor
open Go.RowKit
set_option linter.unusedVariables false
set_option linter.unusedSimpArgs false

set_option maxRecDepth 100000 in
set_option maxHeartbeats 1000000 in
theorem catAll_any (v : Value) (zss : List (List Int)) (w : World) (h : RdRows .i64 w v zss) (hl : zss.length ≤ 1048576) (hl2 : sumLen zss ≤ 4194304) :
    Calls Tryd.prog 100 #[v] w fun e w' => ∃ v', e = .returned v' ∧ w'.ownsRow w.heap.size 3 1 v' (sumLen zss) (zss.flatten.map (Value.int .i64)) ∧ Below w.heap.size w w' := by
  obtain ⟨i0, hi, hz0, hz1, hz2⟩ := info_parts info_i64
  have Hrow := Lib.hid (fun wx (hb : Below w.heap.size w wx) j (hj : j < zss.length) => (h.below hb).row hj)
  obtain ⟨a, cap, rfl, hcap, -⟩ := id h
  obtain ⟨n, hn⟩ : ∃ n, n = zss.length := ⟨_, rfl⟩
  have Hn := Lib.hid hn
  have Hst : Hid (∀ j, sumLen (zss.take j) ≤ 4194304) := Lib.hid (fun j => Nat.le_trans (sumLen_take_le zss j) hl2)
  have Hsum : Hid (∀ j (hj : j < zss.length), zss[j].length ≤ 4194304) := Lib.hid (fun j hj => Nat.le_trans (len_le_sum zss hj) hl2)
  have HTk := Lib.hid (fun j (hj : j < zss.length) => sumLen_take zss j hj)
  have HFk := Lib.hid (fun j (hj : j < zss.length) => flat_take zss j hj)
  have HAll : Hid (sumLen (zss.take n) = sumLen zss ∧ (zss.take n) = zss) := Lib.hid ⟨by rw [hn, List.take_length], by rw [hn, List.take_length]⟩
  obtain ⟨tot, htot⟩ : ∃ t, t = sumLen zss := ⟨_, rfl⟩
  rw [← htot] at hl2 HAll ⊢
  rw [← hn] at hl ⊢
  have HG := Lib.hid (growI_nil tot w hl2)
  clear hn h hcap htot
  go_enter Tryd.func100, Tryd.ntmps100
  go_wp2_with fail
  go_loopw [3, 5, 11] (fun s _ i wr => ∃ k : Nat, k ≤ n ∧ i = .int .i64 k ∧ w = wr ∧ s = .int .i64 (sumLen (zss.take k) : Nat)) (fun _ _ i _ => n - (intOf i).toNat)
  case atStart => exact ⟨0, Nat.zero_le _, rfl, by trivial, rfl⟩
  case round =>
    obtain ⟨k, hk, rfl, rfl, rfl⟩ := hrel
    have hst := Hst.out k
    by_cases hlt : k < n
    · have hz : k < zss.length := by rw [← Hn.out]; exact hlt
      obtain ⟨blk, off, cap', p, c, b, hv, hc, hr, -⟩ := Hrow.out w (Below.refl _ _) k hz
      have ha := (Value.slice.inj hv).1
      clear hv
      subst ha
      have hsm := Hsum.out k hz
      have HTj := Lib.hid (HTk.out k hz)
      obtain ⟨m, hm⟩ : ∃ m, m = zss[k].length := ⟨_, rfl⟩
      obtain ⟨s, hs⟩ : ∃ s, s = sumLen (zss.take k) := ⟨_, rfl⟩
      rw [← hm] at hc hsm HTj
      rw [← hs] at hst HTj ⊢
      clear hm hs hr
      have nn : decide ((s : Int) + (m : Int) < 0) = false := by simp; omega
      go_wp2_with fail
      go_roundw
      case rel => exact ⟨k + 1, by omega, by go_num, by trivial, by rw [HTj.out]; go_num⟩
      case measure => simp [intOf]; omega
    · obtain rfl : k = n := by omega
      rw [HAll.out.1]
      clear hst
      go_wp2_with fail
      refine HG.out.mono ?_
      rintro e w2 ⟨v2, rfl, hown2, hgr2⟩
      have B2 : Below w.heap.size w w2 := (Below.refl _ _).grown hgr2 (Nat.le_refl _) (fun k hk => by cases hk)
      clear hgr2
      go_wp2_with fail
      go_loopw [6, 8, 27] (fun o _ i wr => ∃ q : Nat, q ≤ k ∧ i = .int .i64 q ∧ Below w.heap.size w wr ∧ wr.ownsRow w.heap.size 3 1 o (sumLen (zss.take q)) ((zss.take q).flatten.map (Value.int .i64))) (fun _ _ i _ => k - (intOf i).toNat)
      case atStart => exact ⟨0, Nat.zero_le _, rfl, B2, by simpa [sumLen] using hown2⟩
      case round =>
        clear hown2 B2
        obtain ⟨q, hq, rfl, B, hown⟩ := hrel
        by_cases hqlt : q < k
        · have hz : q < zss.length := by rw [← Hn.out]; exact hqlt
          obtain ⟨blk, off, cap', p, c, b, hv, hc, hr, -⟩ := Hrow.out wr B q hz
          have ha := (Value.slice.inj hv).1
          clear hv
          subst ha
          have hsm := Hsum.out q hz
          have hst := Hst.out (q + 1)
          have HTj := HTk.out q hz
          have HFj := HFk.out q hz
          obtain ⟨op, oc, eo⟩ := own_shape hown
          subst eo
          obtain ⟨v3, w3, hr3, hown3, hgr3⟩ := run_append_vals wr w.heap.size 30 30 3 i0 (.int .i64 0) 8 Tryd.underlying30 hi hz0 hz1 hz2 rfl _ _ _ hown _ _ hr.vals int_one (by rw [List.length_map]; unfold maxLen; omega) (by rw [List.length_map]; omega) B.size
          rw [List.length_map] at hown3
          have hown4 : Hid (w3.ownsRow w.heap.size 3 1 v3 (sumLen (zss.take (q + 1))) ((zss.take (q + 1)).flatten.map (Value.int .i64))) := Lib.hid (by rw [HTj, HFj, List.map_append]; exact hown3)
          have B3 := B.grown hgr3 B.size (own_block hown)
          obtain ⟨op3, oc3, eo3⟩ := own_shape hown3
          subst eo3
          have Q3 := Lib.hid hr3
          clear hown hown3 hr3 hgr3 hr HTj HFj B hst
          obtain ⟨m, hm⟩ : ∃ m, m = zss[q].length := ⟨_, rfl⟩
          rw [← hm] at hc Q3 hsm hown4
          clear hm
          go_wp2_with (at_builtin; refine Lib.wpList_append_run _ rfl _ _ _ _ rfl _ _ rfl rfl _ _ Q3.out ?_)
          go_roundw
          case rel => exact ⟨q + 1, by omega, by go_num, B3, hown4.out⟩
          case measure => simp [intOf]; omega
        · obtain rfl : q = k := by omega
          rw [HAll.out.1, HAll.out.2] at hown
          have HO := Lib.hid hown
          obtain ⟨op, oc, eo⟩ := own_shape hown
          clear hown
          subst eo
          go_wp2_with fail
          go_ret
          exact ⟨_, rfl, HO.out, B⟩
end Go.Proofs.YtmfammgdcdlceaaDoor
