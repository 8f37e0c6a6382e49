/-
  BytesToInts, both sides.
-/
import Derived.Test.YtchpkpajnjcnbaaDoorMarksI
import Derived.Test.YtchpkpajnjcnbaaDoorMarksB
namespace Go.Proofs.YtchpkpajnjcnbaaDoor
open Go.RowKit

def b2i (zs : List Int) : List Int := (zs.length : Int) :: zs
theorem b2i_len (zs : List Int) : (b2i zs).length = zs.length + 1 := rfl
theorem u8_i64 {x : Int} (h : (Lit.int .u8 x).wf = true) : (Lit.int .i64 x).wf = true := by
  have := bounds_u8 h
  exact WalkArith.wf_i64 (by omega)
theorem b2i_wf (zs : List Int) (hl : zs.length ≤ 1099511627776) (h : ∀ x ∈ zs, (Lit.int .u8 x).wf = true) : ∀ x ∈ b2i zs, (Lit.int .i64 x).wf = true := by
  intro x hx
  rcases List.mem_cons.1 hx with rfl | hx
  · exact WalkArith.wf_i64 (by omega)
  · exact u8_i64 (h x hx)
theorem b2i_take (n : Nat) (zs : List Int) (k : Nat) (h : k < zs.length) : (n : Int) :: zs.take (k + 1) = ((n : Int) :: zs.take k) ++ [zs[k]] := by
  rw [List.take_succ_eq_append_getElem h]; rfl

set_option maxRecDepth 100000 in
set_option maxHeartbeats 1000000 in
theorem bytesToInts_any (v : Value) (zs : List Int) (b : Nat) (w : World) (h : RdAt .u8 w v zs b) (hl : zs.length ≤ 1048576) :
    Calls Tryd.prog 44 #[v] w fun e w' => ∃ v' b', e = .returned v' ∧ w.heap.size ≤ b' ∧ WrAt .i64 w' v' (b2i zs) b' ∧ Below w.heap.size w w' := by
  obtain ⟨i0, hi, hz0, hz1, hz2⟩ := info_parts info_i64
  have hwf := h.wf
  have hbwf := Lib.hid (b2i_wf zs (by omega) hwf)
  obtain ⟨a, cap, rfl, -, -, hcell⟩ := h
  obtain ⟨n, hn⟩ : ∃ n, n = zs.length := ⟨_, rfl⟩
  have Hn := Lib.hid hn
  rw [← hn] at hl ⊢
  clear hn
  go_enter Tryd.func44, Tryd.ntmps44
  go_wp2_with (at_make; refine wpList_make_own _ rfl _ _ 22 rfl w.heap.size 3 i0 (.int .i64 0) 1 Tryd.underlying22 hi hz0 hz1 _ _ _ (n + 1) rfl rfl ?c1 ?c2 ?c3 ?c4 ?_)
  case c1 => omega
  case c2 => rw [hz2]; omega
  case c3 => unfold maxLen; omega
  case c4 => exact Nat.le_refl _
  intro w1 hown1 hgr1
  have hb1 : Below w.heap.size w w1 := (Below.refl _ _).grown hgr1 (Nat.le_refl _) (fun k hk => by cases hk)
  have hsz1 := hb1.size
  go_wp2_with (at_builtin; refine wpList_append_own _ rfl _ _ 22 rfl w.heap.size 3 i0 (.int .i64 0) 1 8 Tryd.underlying22 hi hz0 hz1 hz2 rfl (by decide) _ _ _ rfl (hown1.alloc _) ⟨w1.heap.size, 0, none⟩ 1 1 [.int .i64 n] rfl rfl (cell_one_new _ _ _) ?e2 ?e3 ?e4 (by simp; omega) ?_)
  case e2 => intro u hu; simp at hu; subst hu; rfl
  case e3 => unfold maxLen; omega
  case e4 => omega
  intro v2 w2 hown2 hgr2 _
  have hb2 : Below w.heap.size w w2 := (hb1.alloc hsz1 _).grown hgr2 (by simp; omega) (own_block hown1)
  have hown3 : w2.ownsRow w.heap.size 3 1 v2 ((n : Int) :: zs.take 0).length (((n : Int) :: zs.take 0).map (Value.int .i64)) := by simpa using hown2
  clear hown2 hgr2 hown1 hgr1 hb1 hsz1
  go_wp2_with fail
  go_loopw [3, 17] (fun o i wr => ∃ (k : Nat), k ≤ n ∧ i = .int .i64 k ∧ Below w.heap.size w wr ∧ wr.ownsRow w.heap.size 3 1 o ((n : Int) :: zs.take k).length (((n : Int) :: zs.take k).map (Value.int .i64))) (fun _ i _ => n - (intOf i).toNat)
  case atStart => exact ⟨0, Nat.zero_le _, rfl, hb2, hown3⟩
  case round =>
    clear hown3 hb2
    obtain ⟨k, hk, rfl, hb2, hown⟩ := hrel
    have hlenF : ((n : Int) :: zs.take k).length ≤ n + 1 := by simp; omega
    by_cases hlt : k < n
    · have hzl : k < zs.length := by rw [← Hn.out]; exact hlt
      rcases hcell with hz | ⟨off, rfl, hc⟩
      · subst hz; simp at hzl
      obtain ⟨y, hy⟩ : ∃ y, Hid (y = zs[k]) := ⟨_, Lib.hid rfl⟩
      have by8 := bounds_u8 (hwf _ (List.getElem_mem hzl))
      rw [← hy.out] at by8
      obtain ⟨y0, y1⟩ := by8
      have hc1 : wr.cell? ⟨b, off + k, none⟩ = some (.int .u8 y) := by
        have h1 := hc k hzl
        rw [hb2.cell (World.block_lt_of_cell? _ _ h1), h1, hy.out]
      have Hstep := Lib.hid (b2i_take n zs k hzl)
      generalize ((n : Int) :: zs.take k) = F at *
      have hsz := hb2.size
      clear hc
      go_wp2_with (at_builtin; refine wpList_append_own _ rfl _ _ 22 rfl w.heap.size 3 i0 (.int .i64 0) 1 8 Tryd.underlying22 hi hz0 hz1 hz2 rfl (by decide) _ _ _ rfl (hown.alloc _) ⟨wr.heap.size, 0, none⟩ 1 1 [.int .i64 y] rfl rfl (cell_one_new _ _ _) ?e2 ?e3 ?e4 (by simp; omega) ?_)
      case e2 => intro u hu; simp at hu; subst hu; rfl
      case e3 => unfold maxLen; omega
      case e4 => omega
      intro v2 w2 hown2 hgr2 _
      have hb3 : Below w.heap.size w w2 := (hb2.alloc hsz _).grown hgr2 (by simp; omega) (own_block hown)
      have hown3 := own_snoc hown2
      clear hown2 hgr2 hown hb2
      go_wp2_with fail
      go_roundw
      case rel => exact ⟨k + 1, by omega, by go_num, hb3, by rw [Hstep.out, hy.out.symm]; exact hown3⟩
      case measure => simp [intOf]; omega
    · obtain rfl : k = n := by omega
      have e : ((k : Int) :: zs.take k) = b2i zs := by
        rw [List.take_of_length_le (by rw [Hn.out]; exact Nat.le_refl _), Hn.out]; rfl
      rw [e] at hown
      have hwr := Lib.hid (own_wr hown hbwf.out)
      clear hown e
      go_wp2_with fail
      go_ret
      obtain ⟨b', hb', hw'⟩ := hwr.out
      exact ⟨_, b', rfl, hb', hw', hb2⟩

set_option maxRecDepth 100000 in
set_option maxHeartbeats 1000000 in
theorem sBytesToInts_any (v : Value) (zs : List Int) (b : Nat) (w : World) (h : RdAt .u8 w v zs b) (hl : zs.length ≤ 1048576) :
    Calls Tryd.prog 43 #[v] w fun e w' => ∃ v' b', e = .returned v' ∧ w.heap.size ≤ b' ∧ WrAt .i64 w' v' (b2i zs) b' ∧ Below w.heap.size w w' := by
  obtain ⟨i0, hi, hz0, hz1, hz2⟩ := info_parts info_i64
  have hwf := h.wf
  have hbwf := Lib.hid (b2i_wf zs (by omega) hwf)
  obtain ⟨a, cap, rfl, -, -, hcell⟩ := h
  obtain ⟨n, hn⟩ : ∃ n, n = zs.length := ⟨_, rfl⟩
  have Hn := Lib.hid hn
  rw [← hn] at hl ⊢
  clear hn
  go_enter Tryd.func43, Tryd.ntmps43
  go_wp2_with fail
  have hown3 : (w.alloc (.cells #[.int .i64 n] 3)).ownsRow w.heap.size 3 1 (.slice (some ⟨w.heap.size, 0, none⟩) 1 1) ((n : Int) :: zs.take 0).length (((n : Int) :: zs.take 0).map (Value.int .i64)) := by
    have := World.ownsRow_lit (base := w.heap.size) (e := 3) (size := 1) w #[.int .i64 n] 1 (Nat.le_refl _) (by unfold maxLen; omega) rfl
    simpa using this
  go_loopw [3, 4] (fun o i wr => ∃ (k : Nat), k ≤ n ∧ i = .int .i64 k ∧ Below w.heap.size w wr ∧ wr.ownsRow w.heap.size 3 1 o ((n : Int) :: zs.take k).length (((n : Int) :: zs.take k).map (Value.int .i64))) (fun _ i _ => n - (intOf i).toNat)
  case atStart => exact ⟨0, Nat.zero_le _, rfl, (Below.refl _ _).alloc (Nat.le_refl _) _, hown3⟩
  case round =>
    clear hown3
    obtain ⟨k, hk, rfl, hb2, hown⟩ := hrel
    have hlenF : ((n : Int) :: zs.take k).length ≤ n + 1 := by simp; omega
    by_cases hlt : k < n
    · have hzl : k < zs.length := by rw [← Hn.out]; exact hlt
      rcases hcell with hz | ⟨off, rfl, hc⟩
      · subst hz; simp at hzl
      obtain ⟨y, hy⟩ : ∃ y, Hid (y = zs[k]) := ⟨_, Lib.hid rfl⟩
      have by8 := bounds_u8 (hwf _ (List.getElem_mem hzl))
      rw [← hy.out] at by8
      obtain ⟨y0, y1⟩ := by8
      have hc1 : wr.cell? ⟨b, off + k, none⟩ = some (.int .u8 y) := by
        have h1 := hc k hzl
        rw [hb2.cell (World.block_lt_of_cell? _ _ h1), h1, hy.out]
      have Hstep := Lib.hid (b2i_take n zs k hzl)
      generalize ((n : Int) :: zs.take k) = F at *
      have hsz := hb2.size
      clear hc
      go_wp2_with (at_builtin; refine wpList_append_own _ rfl _ _ 22 rfl w.heap.size 3 i0 (.int .i64 0) 1 8 Tryd.underlying22 hi hz0 hz1 hz2 rfl (by decide) _ _ _ rfl (hown.alloc _) ⟨wr.heap.size, 0, none⟩ 1 1 [.int .i64 y] rfl rfl (cell_one_new _ _ _) ?e2 ?e3 ?e4 (by simp; omega) ?_)
      case e2 => intro u hu; simp at hu; subst hu; rfl
      case e3 => unfold maxLen; omega
      case e4 => omega
      intro v2 w2 hown2 hgr2 _
      have hb3 : Below w.heap.size w w2 := (hb2.alloc hsz _).grown hgr2 (by simp; omega) (own_block hown)
      have hown3 := own_snoc hown2
      clear hown2 hgr2 hown hb2
      go_wp2_with fail
      go_roundw
      case rel => exact ⟨k + 1, by omega, by go_num, hb3, by rw [Hstep.out, hy.out.symm]; exact hown3⟩
      case measure => simp [intOf]; omega
    · obtain rfl : k = n := by omega
      have e : ((k : Int) :: zs.take k) = b2i zs := by
        rw [List.take_of_length_le (by rw [Hn.out]; exact Nat.le_refl _), Hn.out]; rfl
      rw [e] at hown
      have hwr := Lib.hid (own_wr hown hbwf.out)
      clear hown e
      go_wp2_with fail
      go_ret
      obtain ⟨b', hb', hw'⟩ := hwr.out
      exact ⟨_, b', rfl, hb', hw', hb2⟩
end Go.Proofs.YtchpkpajnjcnbaaDoor
