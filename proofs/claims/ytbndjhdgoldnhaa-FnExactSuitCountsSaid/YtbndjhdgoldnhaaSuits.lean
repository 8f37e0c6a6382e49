/-
  SuitCounts, both sides.
-/
import Derived.Test.YtbndjhdgoldnhaaCardOf
import Derived.Test.YtbndjhdgoldnhaaMarksI
namespace Go.Proofs.Ytbndjhdgoldnhaa
open Go.RowKit

def cntS (zs : List Int) (s : Int) : Nat := (zs.filter fun x => decide (suitOf x = s)).length
def suitCounts (zs : List Int) : List Int := (List.range 4).map fun (s : Nat) => ((cntS zs s : Nat) : Int)
theorem suitCounts_len (zs : List Int) : (suitCounts zs).length = 4 := by simp [suitCounts]
theorem suitCounts_at (zs : List Int) (s : Nat) (h : s < (suitCounts zs).length) : (suitCounts zs)[s] = ((cntS zs s : Nat) : Int) := by simp [suitCounts]
theorem cnt_le (zs : List Int) (s : Int) : cntS zs s ≤ zs.length := List.length_filter_le _ _
theorem cnt_take (zs : List Int) (k : Nat) (h : k < zs.length) (s : Int) : cntS (zs.take (k + 1)) s = cntS (zs.take k) s + if suitOf zs[k] = s then 1 else 0 := by
  unfold cntS
  rw [List.take_succ_eq_append_getElem h, List.filter_append, List.length_append]
  congr 1
  by_cases e : suitOf zs[k] = s <;> simp [e]
theorem counts_none (zs : List Int) (k : Nat) (h : k < zs.length) (hc : isCard zs[k] = false) : suitCounts (zs.take (k + 1)) = suitCounts (zs.take k) := by
  refine List.ext_getElem (by rw [suitCounts_len, suitCounts_len]) fun j h1 h2 => ?_
  rw [suitCounts_at, suitCounts_at, cnt_take zs k h, suit_out hc, if_neg (by omega)]; rfl
theorem counts_one (zs : List Int) (k : Nat) (h : k < zs.length) (s : Nat) (hs : suitOf zs[k] = s)   :
    suitCounts (zs.take (k + 1)) = (suitCounts (zs.take k)).set s (((cntS (zs.take k) s : Nat) : Int) + 1) := by
  refine List.ext_getElem (by rw [suitCounts_len, List.length_set, suitCounts_len]) fun j h1 h2 => ?_
  rw [suitCounts_at, cnt_take zs k h, hs]
  by_cases e : s = j
  · subst e; rw [List.getElem_set_self, if_pos rfl]; rfl
  · rw [List.getElem_set_ne e, suitCounts_at, if_neg (by omega)]; rfl
theorem counts_wf (zs : List Int) (hl : zs.length ≤ 1099511627776) : ∀ x ∈ suitCounts zs, (Lit.int .i64 x).wf = true := by
  intro x hx
  obtain ⟨s, -, rfl⟩ := List.mem_map.1 hx
  have := cnt_le zs s
  exact WalkArith.wf_i64 (by omega)
theorem map_set_int (zs : List Int) (s : Nat) (y : Int) : (zs.map (Value.int .i64)).set s (.int .i64 y) = (zs.set s y).map (Value.int .i64) := by rw [List.map_set]

set_option maxRecDepth 100000 in
set_option maxHeartbeats 1000000 in
theorem sSuitCounts_any (v : Value) (zs : List Int) (b : Nat) (w : World) (h : RdAt .i64 w v zs b) (hl : zs.length ≤ 1048576) :
    Calls Try.prog 17 #[v] w fun e w' => ∃ v' b', e = .returned v' ∧ w.heap.size ≤ b' ∧ WrAt .i64 w' v' (suitCounts zs) b' ∧ Below w.heap.size w w' := by
  obtain ⟨i0, hi, hz0, hz1, hz2⟩ := info_parts info_i64
  obtain ⟨a, cap, rfl, -, -, hcell⟩ := h
  obtain ⟨n, hn⟩ : ∃ n, n = zs.length := ⟨_, rfl⟩
  have Hn := Lib.hid hn
  rw [← hn] at hl ⊢
  clear hn
  go_enter Try.func17, Try.ntmps17
  go_wp2_with (at_make; refine wpList_make_full _ rfl _ _ 22 rfl w.heap.size 3 i0 (.int .i64 0) 1 Try.underlying22 hi hz0 hz1 _ _ _ _ 4 rfl rfl rfl rfl ?c1 ?c2 ?c3 ?_)
  case c1 => rw [hz2]; omega
  case c2 => unfold maxLen; omega
  case c3 => exact Nat.le_refl _
  intro w1 hown hgr
  have hb1 : Below w.heap.size w w1 := (Below.refl _ _).grown hgr (Nat.le_refl _) (fun k hk => by cases hk)
  clear hgr hi hz0 hz1 hz2
  go_wp2_with fail
  go_loopw [4, 5] (fun i _ wr => ∃ k : Nat, k ≤ n ∧ i = .int .i64 k ∧ Below w.heap.size w wr ∧ wr.ownsRow w.heap.size 3 1 (.slice (some ⟨w.heap.size, 0, none⟩) 4 4) 4 ((suitCounts (zs.take k)).map (Value.int .i64))) (fun i _ _ => n - (intOf i).toNat)
  case atStart => exact ⟨0, Nat.zero_le _, rfl, hb1, by rw [made4] at hown; exact hown⟩
  case round =>
    clear hown hb1
    obtain ⟨k, hk, rfl, hb2, hown⟩ := hrel
    by_cases hlt : k < n
    · have hz : k < zs.length := by rw [← Hn.out]; exact hlt
      rcases hcell with h0 | ⟨off, rfl, hc⟩
      · subst h0; simp at hz
      obtain ⟨y, hy⟩ : ∃ y, Hid (y = zs[k]) := ⟨_, Lib.hid rfl⟩
      have h1 : wr.cell? ⟨b, off + k, none⟩ = some (.int .i64 y) := by
        have h1 := hc k hz
        rw [hb2.cell (World.block_lt_of_cell? _ _ h1), h1, hy.out]
      clear hc
      cases hcd : isCard y with
      | false =>
        have HC := Lib.hid (sSuitOf_r y wr _ (suit_out hcd))
        have hst : Hid (suitCounts (zs.take (k + 1)) = suitCounts (zs.take k)) := Lib.hid (counts_none zs k hz (by rw [← hy.out]; exact hcd))
        clear hcd
        go_wp2_with fail
        refine HC.out.mono ?_
        rintro e _w ⟨rfl, rfl⟩
        go_wp2_with fail
        go_roundw
        case rel => exact ⟨k + 1, by omega, by go_num, hb2, by rw [hst.out]; exact hown⟩
        case measure => simp [intOf]; omega
      | true =>
        have hrng := isCard_t hcd
        obtain ⟨s, hs⟩ : ∃ s : Nat, suitOf y = s := ⟨(y / 13).toNat, by rw [suit_in hcd]; omega⟩
        have h4 : s < 4 := by have := suit_in hcd; omega
        have HC := Lib.hid (sSuitOf_r y wr _ hs)
        obtain ⟨m, hm⟩ : ∃ m, m = cntS (zs.take k) s := ⟨_, rfl⟩
        have hst : Hid (suitCounts (zs.take (k + 1)) = (suitCounts (zs.take k)).set s ((m : Int) + 1)) := Lib.hid (by rw [hm]; exact counts_one zs k hz s (by rw [← hy.out]; exact hs))
        have hml : m ≤ 1048576 := by have := cnt_le (zs.take k) s; rw [List.length_take] at this; omega
        have hc2 : wr.cell? ⟨w.heap.size, s, none⟩ = some (.int .i64 m) := by
          rw [hown.cellAt s (by omega), List.getElem?_map, List.getElem?_eq_getElem (by rw [suitCounts_len]; exact h4), suitCounts_at, hm]; rfl
        have hf2 : wr.frozen? ⟨w.heap.size, s, none⟩ = false := hown.frozenAt s
        have hst2 := (hown.stored s (.int .i64 ((m : Int) + 1))).1
        rw [map_set_int, ← hst.out] at hst2
        have hb3 : Below w.heap.size w (wr.setCell ⟨w.heap.size, s, none⟩ (.int .i64 ((m : Int) + 1))) := hb2.setCell (Nat.le_refl _) _
        clear hcd hrng hs hm hst hown
        go_wp2_with fail
        refine HC.out.mono ?_
        rintro e _w ⟨rfl, rfl⟩
        go_wp2_with fail
        go_roundw
        case rel => exact ⟨k + 1, by omega, by go_num, hb3, hst2⟩
        case measure => simp [intOf]; omega
    · obtain rfl : k = n := by omega
      have he : Hid (suitCounts (zs.take k) = suitCounts zs) := Lib.hid (by rw [List.take_of_length_le (by rw [Hn.out]; exact Nat.le_refl _)])
      rw [he.out] at hown
      have hown2 : wr.ownsRow w.heap.size 3 1 (.slice (some ⟨w.heap.size, 0, none⟩) 4 4) (suitCounts zs).length ((suitCounts zs).map (Value.int .i64)) := by rw [suitCounts_len]; exact hown
      have HW := Lib.hid (own_wr hown2 (counts_wf zs (by rw [← Hn.out]; omega)))
      clear hown hown2
      go_wp2_with fail
      go_ret
      obtain ⟨b2, hb2', hw2⟩ := HW.out
      exact ⟨_, b2, rfl, hb2', hw2, hb2⟩
set_option maxRecDepth 100000 in
set_option maxHeartbeats 1000000 in
theorem suitCounts_any (v : Value) (zs : List Int) (b : Nat) (w : World) (h : RdAt .i64 w v zs b) (hl : zs.length ≤ 1048576) :
    Calls Try.prog 18 #[v] w fun e w' => ∃ v' b', e = .returned v' ∧ w.heap.size ≤ b' ∧ WrAt .i64 w' v' (suitCounts zs) b' ∧ Below w.heap.size w w' := by
  obtain ⟨i0, hi, hz0, hz1, hz2⟩ := info_parts info_i64
  obtain ⟨a, cap, rfl, -, -, hcell⟩ := h
  obtain ⟨n, hn⟩ : ∃ n, n = zs.length := ⟨_, rfl⟩
  have Hn := Lib.hid hn
  rw [← hn] at hl ⊢
  clear hn
  go_enter Try.func18, Try.ntmps18
  go_wp2_with (at_make; refine wpList_make_full _ rfl _ _ 22 rfl w.heap.size 3 i0 (.int .i64 0) 1 Try.underlying22 hi hz0 hz1 _ _ _ _ 4 rfl rfl rfl rfl ?c1 ?c2 ?c3 ?_)
  case c1 => rw [hz2]; omega
  case c2 => unfold maxLen; omega
  case c3 => exact Nat.le_refl _
  intro w1 hown hgr
  have hb1 : Below w.heap.size w w1 := (Below.refl _ _).grown hgr (Nat.le_refl _) (fun k hk => by cases hk)
  clear hgr hi hz0 hz1 hz2
  go_wp2_with fail
  go_loopw [5, 6, 7, 11] (fun _ _ _ i wr => ∃ k : Nat, k ≤ n ∧ i = .int .i64 k ∧ Below w.heap.size w wr ∧ wr.ownsRow w.heap.size 3 1 (.slice (some ⟨w.heap.size, 0, none⟩) 4 4) 4 ((suitCounts (zs.take k)).map (Value.int .i64))) (fun _ _ _ i _ => n - (intOf i).toNat)
  case atStart => exact ⟨0, Nat.zero_le _, rfl, hb1, by rw [made4] at hown; exact hown⟩
  case round =>
    clear hown hb1
    obtain ⟨k, hk, rfl, hb2, hown⟩ := hrel
    by_cases hlt : k < n
    · have hz : k < zs.length := by rw [← Hn.out]; exact hlt
      rcases hcell with h0 | ⟨off, rfl, hc⟩
      · subst h0; simp at hz
      obtain ⟨y, hy⟩ : ∃ y, Hid (y = zs[k]) := ⟨_, Lib.hid rfl⟩
      have h1 : wr.cell? ⟨b, off + k, none⟩ = some (.int .i64 y) := by
        have h1 := hc k hz
        rw [hb2.cell (World.block_lt_of_cell? _ _ h1), h1, hy.out]
      clear hc
      cases hcd : isCard y with
      | false =>
        have hst : Hid (suitCounts (zs.take (k + 1)) = suitCounts (zs.take k)) := Lib.hid (counts_none zs k hz (by rw [← hy.out]; exact hcd))
        have HC := Lib.hid (cardOf_out y wr hcd)
        clear hcd
        go_wp2_with fail
        refine HC.out.mono ?_
        rintro e _w ⟨rfl, rfl⟩
        go_wp2_with fail
        go_roundw
        case rel => exact ⟨k + 1, by omega, by go_num, hb2, by rw [hst.out]; exact hown⟩
        case measure => simp [intOf]; omega
      | true =>
        have hrng := isCard_t hcd
        obtain ⟨s, hs⟩ : ∃ s : Nat, suitOf y = s := ⟨(y / 13).toNat, by rw [suit_in hcd]; omega⟩
        have h4 : s < 4 := by have := suit_in hcd; omega
        have HC := Lib.hid (cardOf_in y wr hcd)
        have HK := Lib.hid (kSuit_r y wr hrng.1 hrng.2 s (by rw [← hs, suit_in hcd]))
        obtain ⟨m, hm⟩ : ∃ m, m = cntS (zs.take k) s := ⟨_, rfl⟩
        have hst : Hid (suitCounts (zs.take (k + 1)) = (suitCounts (zs.take k)).set s ((m : Int) + 1)) := Lib.hid (by rw [hm]; exact counts_one zs k hz s (by rw [← hy.out]; exact hs))
        have hml : m ≤ 1048576 := by have := cnt_le (zs.take k) s; rw [List.length_take] at this; omega
        have hc2 : wr.cell? ⟨w.heap.size, s, none⟩ = some (.int .i64 m) := by
          rw [hown.cellAt s (by omega), List.getElem?_map, List.getElem?_eq_getElem (by rw [suitCounts_len]; exact h4), suitCounts_at, hm]; rfl
        have hf2 : wr.frozen? ⟨w.heap.size, s, none⟩ = false := hown.frozenAt s
        have hst2 := (hown.stored s (.int .i64 ((m : Int) + 1))).1
        rw [map_set_int, ← hst.out] at hst2
        have hb3 : Below w.heap.size w (wr.setCell ⟨w.heap.size, s, none⟩ (.int .i64 ((m : Int) + 1))) := hb2.setCell (Nat.le_refl _) _
        have hs4 : (s : Int) < 4 := by omega
        clear hcd hs hm hst hown
        go_wp2_with fail
        refine HC.out.mono ?_
        rintro e _w ⟨rfl, rfl⟩
        go_wp2_with fail
        refine HK.out.mono ?_
        rintro e _w ⟨rfl, rfl⟩
        go_wp2_with fail
        go_roundw
        case rel => exact ⟨k + 1, by omega, by go_num, hb3, hst2⟩
        case measure => simp [intOf]; omega
    · obtain rfl : k = n := by omega
      have he : Hid (suitCounts (zs.take k) = suitCounts zs) := Lib.hid (by rw [List.take_of_length_le (by rw [Hn.out]; exact Nat.le_refl _)])
      rw [he.out] at hown
      have hown2 : wr.ownsRow w.heap.size 3 1 (.slice (some ⟨w.heap.size, 0, none⟩) 4 4) (suitCounts zs).length ((suitCounts zs).map (Value.int .i64)) := by rw [suitCounts_len]; exact hown
      have HW := Lib.hid (own_wr hown2 (counts_wf zs (by rw [← Hn.out]; omega)))
      clear hown hown2
      go_wp2_with fail
      go_ret
      obtain ⟨b2, hb2', hw2⟩ := HW.out
      exact ⟨_, b2, rfl, hb2', hw2, hb2⟩
end Go.Proofs.Ytbndjhdgoldnhaa
