/-
  Missing (the model's), FullDeck (both sides).
-/
import Derived.Test.YtepjijmgfdgfhaaDoorModel05
namespace Go.Proofs.YtepjijmgfdgfhaaDoor
open Go.RowKit

def missI (zs : List Int) (k : Nat) : List Int := ((List.range k).map fun (i : Nat) => (i : Int)).filter fun c => !hasI zs c
theorem miss_step (zs : List Int) (k : Nat) : missI zs (k + 1) = missI zs k ++ if hasI zs k then [] else [(k : Int)] := by
  unfold missI
  rw [List.range_succ, List.map_append, List.filter_append]
  congr 1
  cases h : hasI zs k <;> simp [h]
theorem miss_len (zs : List Int) (k : Nat) : (missI zs k).length ≤ k := by
  unfold missI
  refine Nat.le_trans (List.length_filter_le _ _) ?_
  simp
theorem miss_wf (zs : List Int) (k : Nat) (hk : k ≤ 52) : ∀ x ∈ missI zs k, (Lit.int .i64 x).wf = true := by
  intro x hx
  have := (List.mem_filter.1 hx).1
  simp only [List.mem_map, List.mem_range] at this
  obtain ⟨i, hi, rfl⟩ := this
  exact WalkArith.wf_i64 (by omega)

set_option maxRecDepth 100000 in
set_option maxHeartbeats 1000000 in
theorem sMissing_any (v : Value) (zs : List Int) (b : Nat) (w : World) (h : RdAt .i64 w v zs b) (hl : zs.length ≤ 1099511627776) :
    Calls Tryd.prog 6 #[v] w fun e w' => ∃ v' b', e = .returned v' ∧ w.heap.size ≤ b' ∧ WrAt .i64 w' v' (missI zs 52) b' ∧ Below w.heap.size w w' := by
  obtain ⟨i0, hi, hz0, hz1, hz2⟩ := info_parts info_i64
  obtain ⟨p0, cap0, hv0, -⟩ := id h
  go_enter Tryd.func6, Tryd.ntmps6
  subst hv0
  go_wp2_with fail
  have hown0 := World.ownsRow_lit (base := w.heap.size) (e := 3) (size := 1) w #[] 0 (Nat.le_refl _) (Nat.zero_le _) rfl
  go_loopw [3, 4] (fun o i wr => ∃ k : Nat, k ≤ 52 ∧ i = .int .i64 k ∧ Below w.heap.size w wr ∧ wr.ownsRow w.heap.size 3 1 o (missI zs k).length ((missI zs k).map (Value.int .i64))) (fun _ i _ => 52 - (intOf i).toNat)
  case atStart => exact ⟨0, Nat.zero_le _, rfl, (Below.refl _ _).alloc (Nat.le_refl _) _, hown0⟩
  case round =>
    clear hown0
    obtain ⟨k, hk, rfl, hb2, hown⟩ := hrel
    by_cases hlt : k < 52
    · have hrd := h.below hb2
      have hle := miss_len zs k
      cases hc : hasI zs (k : Int) with
      | true =>
        have hstep : Hid (missI zs (k + 1) = missI zs k) := Lib.hid (by rw [miss_step, hc]; simp)
        have hcall : Calls Tryd.prog 20 #[.slice p0 zs.length cap0, .int .i64 k] wr fun e w' => e = .returned (.bool true) ∧ wr = w' := by
          have := sHasCard_any _ zs b (k : Int) wr hrd hl
          rw [hc] at this; exact this
        have Hcall := Lib.hid hcall
        clear hcall hc hrd
        go_wp2_with fail
        refine Hcall.out.mono ?_
        rintro e _w ⟨rfl, rfl⟩
        go_wp2_with fail
        go_roundw
        case rel => exact ⟨k + 1, by omega, by go_num, hb2, by rw [hstep.out]; exact hown⟩
        case measure => simp [intOf]; omega
      | false =>
        have hstep : Hid (missI zs (k + 1) = missI zs k ++ [(k : Int)]) := Lib.hid (by rw [miss_step, hc]; simp)
        have hcall : Calls Tryd.prog 20 #[.slice p0 zs.length cap0, .int .i64 k] wr fun e w' => e = .returned (.bool false) ∧ wr = w' := by
          have := sHasCard_any _ zs b (k : Int) wr hrd hl
          rw [hc] at this; exact this
        have Hcall := Lib.hid hcall
        clear hcall hc hrd
        go_wp2_with fail
        refine Hcall.out.mono ?_
        rintro e _w ⟨rfl, rfl⟩
        have hsz := hb2.size
        generalize missI zs k = F at *
        go_wp2_with (at_builtin; refine wpList_append_own _ rfl _ _ 22 rfl w.heap.size 3 i0 (.int .i64 0) 1 8 Tryd.underlying22 hi hz0 hz1 hz2 rfl (by decide) _ _ _ rfl (hown.alloc _) ⟨wr.heap.size, 0, none⟩ 1 1 [.int .i64 k] rfl rfl (cell_one_new _ _ _) ?e2 ?e3 ?e4 (by simp; omega) ?_)
        case e2 => intro u hu; simp at hu; subst hu; rfl
        case e3 => unfold maxLen; omega
        case e4 => omega
        intro v2 w2 hown2 hgr2 _
        have hb3 : Below w.heap.size w w2 := (hb2.alloc hsz _).grown hgr2 (by simp; omega) (own_block hown)
        have hown3 := own_snoc hown2
        clear hown2 hgr2 hown hb2
        go_wp2_with fail
        go_roundw
        case rel => exact ⟨k + 1, by omega, by go_num, hb3, by rw [hstep.out]; exact hown3⟩
        case measure => simp [intOf]; omega
    · obtain rfl : k = 52 := by omega
      have hwr := Lib.hid (own_wr hown (miss_wf zs 52 (by omega)))
      clear hown
      go_wp2_with fail
      go_ret
      obtain ⟨b', hb', hw'⟩ := hwr.out
      exact ⟨_, b', rfl, hb', hw', hb2⟩

def deck : List Int := marksI 0 52
theorem miss_nil : missI [] 52 = deck := by decide +kernel
end Go.Proofs.YtepjijmgfdgfhaaDoor
