/-
  Missing (the model's), FullDeck (both sides).
-/
import Derived.Test.YtaginoiiomaheaaDoorModel05
namespace Go.Proofs.YtaginoiiomaheaaDoor
open Go.RowKit

def missI (zs : List Int) (k : Nat) : List Int := ((List.range k).map fun (i : Nat) => (i : Int)).filter fun c => !hasI zs c
theorem miss_step (zs : List Int) (k : Nat) : missI zs (k + 1) = missI zs k ++ if hasI zs k then [] else [(k : Int)] := by
  unfold missI
  rw [List.range_succ, List.map_append, List.filter_append]
  congr 1
  cases h : hasI zs k <;> simp [h]
theorem miss_len (zs : List Int) (k : Nat) : (missI zs k).length ≤ k := by
  unfold missI
  refine Nat.le_trans (List.length_filter_le _ _) ?_
  simp
theorem miss_wf (zs : List Int) (k : Nat) (hk : k ≤ 52) : ∀ x ∈ missI zs k, (Lit.int .i64 x).wf = true := by
  intro x hx
  have := (List.mem_filter.1 hx).1
  simp only [List.mem_map, List.mem_range] at this
  obtain ⟨i, hi, rfl⟩ := this
  exact WalkArith.wf_i64 (by omega)

set_option maxRecDepth 100000 in
set_option maxHeartbeats 1000000 in
theorem sMissing_any (v : Value) (zs : List Int) (b : Nat) (w : World) (h : RdAt .i64 w v zs b) (hl : zs.length ≤ 1099511627776) :
    Calls Tryd.prog 38 #[v] w fun e w' => ∃ v' b', e = .returned v' ∧ w.heap.size ≤ b' ∧ WrAt .i64 w' v' (missI zs 52) b' ∧ Below w.heap.size w w' := by
  obtain ⟨i0, hi, hz0, hz1, hz2⟩ := info_parts info_i64
  obtain ⟨p0, cap0, hv0, -⟩ := id h
  go_enter Tryd.func38, Tryd.ntmps38
  subst hv0
  go_wp2_with fail
  have hown0 := World.ownsRow_lit (base := w.heap.size) (e := 3) (size := 1) w #[] 0 (Nat.le_refl _) (Nat.zero_le _) rfl
  go_loopw [3, 4] (fun o i wr => ∃ k : Nat, k ≤ 52 ∧ i = .int .i64 k ∧ Below w.heap.size w wr ∧ wr.ownsRow w.heap.size 3 1 o (missI zs k).length ((missI zs k).map (Value.int .i64))) (fun _ i _ => 52 - (intOf i).toNat)
  case atStart => exact ⟨0, Nat.zero_le _, rfl, (Below.refl _ _).alloc (Nat.le_refl _) _, hown0⟩
  case round =>
    clear hown0
    obtain ⟨k, hk, rfl, hb2, hown⟩ := hrel
    by_cases hlt : k < 52
    · have hrd := h.below hb2
      have hle := miss_len zs k
      cases hc : hasI zs (k : Int) with
      | true =>
        have hstep : Hid (missI zs (k + 1) = missI zs k) := Lib.hid (by rw [miss_step, hc]; simp)
        have hcall : Calls Tryd.prog 46 #[.slice p0 zs.length cap0, .int .i64 k] wr fun e w' => e = .returned (.bool true) ∧ wr = w' := by
          have := sHasCard_any _ zs b (k : Int) wr hrd hl
          rw [hc] at this; exact this
        have Hcall := Lib.hid hcall
        clear hcall hc hrd
        go_wp2_with fail
        refine Hcall.out.mono ?_
        rintro e _w ⟨rfl, rfl⟩
        go_wp2_with fail
        go_roundw
        case rel => exact ⟨k + 1, by omega, by go_num, hb2, by rw [hstep.out]; exact hown⟩
        case measure => simp [intOf]; omega
      | false =>
        have hstep : Hid (missI zs (k + 1) = missI zs k ++ [(k : Int)]) := Lib.hid (by rw [miss_step, hc]; simp)
        have hcall : Calls Tryd.prog 46 #[.slice p0 zs.length cap0, .int .i64 k] wr fun e w' => e = .returned (.bool false) ∧ wr = w' := by
          have := sHasCard_any _ zs b (k : Int) wr hrd hl
          rw [hc] at this; exact this
        have Hcall := Lib.hid hcall
        clear hcall hc hrd
        go_wp2_with fail
        refine Hcall.out.mono ?_
        rintro e _w ⟨rfl, rfl⟩
        have hsz := hb2.size
        generalize missI zs k = F at *
        go_wp2_with (at_builtin; refine wpList_append_own _ rfl _ _ 22 rfl w.heap.size 3 i0 (.int .i64 0) 1 8 Tryd.underlying22 hi hz0 hz1 hz2 rfl (by decide) _ _ _ rfl (hown.alloc _) ⟨wr.heap.size, 0, none⟩ 1 1 [.int .i64 k] rfl rfl (cell_one_new _ _ _) ?e2 ?e3 ?e4 (by simp; omega) ?_)
        case e2 => intro u hu; simp at hu; subst hu; rfl
        case e3 => unfold maxLen; omega
        case e4 => omega
        intro v2 w2 hown2 hgr2 _
        have hb3 : Below w.heap.size w w2 := (hb2.alloc hsz _).grown hgr2 (by simp; omega) (own_block hown)
        have hown3 := own_snoc hown2
        clear hown2 hgr2 hown hb2
        go_wp2_with fail
        go_roundw
        case rel => exact ⟨k + 1, by omega, by go_num, hb3, by rw [hstep.out]; exact hown3⟩
        case measure => simp [intOf]; omega
    · obtain rfl : k = 52 := by omega
      have hwr := Lib.hid (own_wr hown (miss_wf zs 52 (by omega)))
      clear hown
      go_wp2_with fail
      go_ret
      obtain ⟨b', hb', hw'⟩ := hwr.out
      exact ⟨_, b', rfl, hb', hw', hb2⟩

def deck : List Int := marksI 0 52
theorem miss_nil : missI [] 52 = deck := by decide +kernel
set_option maxRecDepth 100000 in
set_option maxHeartbeats 1000000 in
theorem sFullDeck_any (w : World) :
    Calls Tryd.prog 27 #[] w fun e w' => ∃ v' b', e = .returned v' ∧ w.heap.size ≤ b' ∧ WrAt .i64 w' v' deck b' ∧ Below w.heap.size w w' := by
  have hr : RdAt .i64 w (.slice none 0 0) [] 0 := (WrAt.nil .i64 w none 0 0 ⟨Nat.zero_le _, fun _ => rfl⟩).rd
  have hm := Lib.hid miss_nil
  go_enter Tryd.func27, Tryd.ntmps27
  go_wp2_with fail
  refine (sMissing_any _ [] 0 w hr (by simp)).mono ?_
  rintro e w1 ⟨v1, b1, rfl, hb1, hw1, hB⟩
  go_wp2_with fail
  go_ret
  exact ⟨_, b1, rfl, hb1, by rw [← hm.out]; exact hw1, hB⟩
theorem rep_cell (n j : Nat) (h : j < n) : (Array.replicate n (Value.int .i64 0)).toList[j]? = some (Value.int .i64 ((List.replicate n (0 : Int))[j]'(by simpa using h))) := by simp [h]
set_option maxRecDepth 100000 in
set_option maxHeartbeats 1000000 in
theorem fullDeck_any (w : World) :
    Calls Tryd.prog 31 #[] w fun e w' => ∃ v' b', e = .returned v' ∧ w.heap.size ≤ b' ∧ WrAt .i64 w' v' deck b' ∧ Below w.heap.size w w' := by
  have hown := World.ownsRow_lit (base := w.heap.size) (e := 66) (size := 1) w (Array.replicate 52 (Value.int .i64 0)) 52 (Nat.le_refl _) (by unfold maxLen; omega) (by simp)
  have hB0 : Below w.heap.size w (w.alloc (.cells (Array.replicate 52 (Value.int .i64 0)) 66)) := (Below.refl _ _).alloc (Nat.le_refl _) _
  have hc0 : Cells .i64 (w.alloc (.cells (Array.replicate 52 (Value.int .i64 0)) 66)) w.heap.size 0 (marksI 0 0 ++ (List.replicate 52 (0 : Int)).drop 0) := by
    intro j hj
    have hj2 : j < 52 := by simpa [marksI] using hj
    rw [Nat.zero_add, hown.cellAt j hj2]
    exact rep_cell 52 j hj2
  have hf0 : Free (w.alloc (.cells (Array.replicate 52 (Value.int .i64 0)) 66)) w.heap.size 0 52 := by
    intro j hj
    rw [Nat.zero_add]; exact hown.frozenAt j
  have Hc0 := Lib.hid hc0
  have Hf0 := Lib.hid hf0
  have HB0 := Lib.hid hB0
  clear hc0 hf0 hB0 hown
  have hrep : Hid (∀ n, marksI 0 n = (List.range n).map fun (i : Nat) => (0 : Int) + (i : Int)) := Lib.hid (fun _ => rfl)
  go_enter Tryd.func31, Tryd.ntmps31
  go_wp2_with fail
  go_loopw [3] (fun i wr => ∃ k : Nat, k ≤ 52 ∧ i = .int .i64 k ∧ Below w.heap.size w wr ∧ Cells .i64 wr w.heap.size 0 (marksI 0 k ++ (List.replicate 52 (0 : Int)).drop k) ∧ Free wr w.heap.size 0 52) (fun i _ => 52 - (intOf i).toNat)
  case atStart => exact ⟨0, Nat.zero_le _, rfl, HB0.out, Hc0.out, Hf0.out⟩
  case round =>
    obtain ⟨k, hk, rfl, hb2, hc, hf⟩ := hrel
    by_cases hlt : k < 52
    · have hlen := marks_len (f := marksI) (k := 0) hrep.out (zs := List.replicate 52 (0 : Int)) (j := k) (by simp; omega)
      rw [List.length_replicate] at hlen
      have hc1 : ∃ x, wr.cell? ⟨w.heap.size, 0 + k, none⟩ = some (.int .i64 x) := ⟨_, hc k (by rw [hlen]; exact hlt)⟩
      obtain ⟨x, hc1⟩ := hc1
      have hf1 := hf k hlt
      have hst := hc.store (j := k) (by rw [hlen]; exact hlt) (0 + (k : Int))
      rw [marks_step (f := marksI) (k := 0) hrep.out (by simp; omega)] at hst
      have hst := Lib.hid hst
      have hf2 := Lib.hid (hf.store ⟨w.heap.size, 0 + k, none⟩ (.int .i64 (0 + (k : Int))))
      have hb3 := Lib.hid (hb2.setCell (p := ⟨w.heap.size, 0 + k, none⟩) (Nat.le_refl _) (.int .i64 (0 + (k : Int))))
      rw [Nat.zero_add] at hc1 hf1
      simp only [Nat.zero_add, Int.zero_add] at hst hf2 hb3
      clear hc hf hlen hb2
      go_wp2_with fail
      go_roundw
      case rel => exact ⟨k + 1, by omega, by go_num, hb3.out, hst.out, hf2.out⟩
      case measure => simp [intOf]; omega
    · obtain rfl : k = 52 := by omega
      have hfin : Hid (WrAt .i64 wr (.slice (some ⟨w.heap.size, 0, none⟩) 52 52) deck w.heap.size) := Lib.hid (by
        have e : (List.replicate 52 (0 : Int)).drop 52 = [] := by decide
        rw [e, List.append_nil] at hc
        have h1 := WrAt.of 52 (by rw [marksI_length]; exact ⟨Nat.le_refl _, by unfold maxLen; omega⟩) (marksI_wf 0 52 (by omega) (by omega)) hc (by rw [marksI_length]; exact hf)
        rw [marksI_length] at h1
        exact h1)
      clear hc hf
      go_wp2_with fail
      go_ret
      exact ⟨_, w.heap.size, rfl, Nat.le_refl _, hfin.out, hb2⟩
end Go.Proofs.YtaginoiiomaheaaDoor
