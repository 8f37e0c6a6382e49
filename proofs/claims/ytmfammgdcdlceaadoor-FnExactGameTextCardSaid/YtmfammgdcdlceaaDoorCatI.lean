/-
  slices.Concat of two, at []int.
-/
import Derived.Test.YtmfammgdcdlceaaDoorVals
namespace Go.Proofs.YtmfammgdcdlceaaDoor
open Go.RowKit
set_option linter.unusedSimpArgs false

theorem growI_nil (n : Nat) (w : World) (hn : n ≤ 4194304) :
    Calls Tryd.prog 110 #[.slice none 0 0, .int .i64 n] w fun e w' => ∃ v', e = .returned v' ∧ w'.ownsRow w.heap.size 3 1 v' 0 [] ∧ w.grownBy w' none := by
  obtain ⟨i0, hi, hz0, hz1, hz2⟩ := info_parts info_i64
  by_cases h0 : n = 0
  · subst h0
    go_enter Tryd.func110, Tryd.ntmps110
    go_wp2_with fail
    go_ret
    exact ⟨_, rfl, World.ownsRow_nil w w.heap.size 3 1, ⟨rfl, rfl, rfl, Nat.le_refl _, fun _ _ _ => rfl⟩⟩
  · have hs : 0 < i0.size := by rw [hz1]; decide
    have hrz : ∀ ty, (Builtin.append_ #[30, 3] ty #[.slice none 0 0, .int .i64 (n : Int)]).run Tryd.prog w =
        .ok (.slice (some ⟨w.heap.size, 0, none⟩) n (grownCap w n 0 3)) (w.drew.alloc (.cells (Builtin.zeroCells #[.int .i64 0] n ++ Builtin.zeroCells #[.int .i64 0] (grownCap w n 0 3 - n)) 3)) := fun ty => by
      have h := Lib.run_append_grow_zeros w 30 3 ty 3 i0 (.int .i64 0) .i64 .i64 Tryd.underlying30 Tryd.underlying3 hi hz0 none 0 0 [] (run_firstCells_none _ _ _ _ _) n (by omega) hs (by omega) (by omega) (by rw [hz2]; omega)
        (by have := growslice_fits (need := 0 + n) (old := 0) (bytes := i0.bytes) (by omega) (by rw [hz2]; omega); exact this)
      simpa [Value.cells] using h
    have hG := grownCap_ge w n 0 3
    have hGm := grownCap_le_maxLen w n 0 3 (by unfold maxLen; omega)
    obtain ⟨G, hGe⟩ : ∃ G, G = grownCap w n 0 3 := ⟨_, rfl⟩
    rw [← hGe] at hrz hG hGm
    have Hm := Lib.hid hGm
    have hG2 : G ≤ 9223372036854775807 := by unfold maxLen at hGm; omega
    clear hGe hGm hi hz0 hz1 hz2 hs
    have hnz : (n : Int) > 0 := by omega
    go_enter Tryd.func110, Tryd.ntmps110
    go_wp2_with (at_builtin; refine Lib.wpList_append_run _ rfl _ _ _ _ rfl _ _ rfl rfl _ _ (hrz _) ?_)
    all_goals
      go_ret
      refine ⟨_, rfl, ⟨rfl, .inr ⟨w.heap.size, G, _, rfl, Nat.le_refl _, heap_alloc_new _ _, Nat.zero_le _, Hm.out, ?_, by simp⟩⟩, ⟨rfl, rfl, rfl, by simp, fun k hk _ => by
        show (w.heap.push _)[k]? = w.heap[k]?
        rw [Array.getElem?_push, if_neg (by omega)]⟩⟩
      simp [Builtin.zeroCells]
      omega

set_option linter.unusedVariables false in
set_option maxRecDepth 100000 in
set_option maxHeartbeats 1000000 in
theorem catI_any (va vb : Value) (ua ub : List Value) (blk off cap : Nat) (w : World) (ha : RdVals w va ua) (hb : RdVals w vb ub) (h0 : w.cell? ⟨blk, off, none⟩ = some va) (h1 : w.cell? ⟨blk, off + 1, none⟩ = some vb)
    (hcap : 2 ≤ cap) (la : ua.length ≤ 1048576) (lb : ub.length ≤ 1048576) (oa : ∀ u ∈ ua, u.oneCell' = true) (ob : ∀ u ∈ ub, u.oneCell' = true) :
    Calls Tryd.prog 100 #[.slice (some ⟨blk, off, none⟩) 2 cap] w fun e w' => ∃ v', e = .returned v' ∧ w'.ownsRow w.heap.size 3 1 v' (ua.length + ub.length) (ua ++ ub) ∧ Below w.heap.size w w' := by
  obtain ⟨i0, hi, hz0, hz1, hz2⟩ := info_parts info_i64
  obtain ⟨pa, ca, ea, -⟩ := id ha
  obtain ⟨pb, cb, eb, -⟩ := id hb
  subst ea eb
  obtain ⟨na, hna⟩ : ∃ na, na = ua.length := ⟨_, rfl⟩
  obtain ⟨nb, hnb⟩ : ∃ nb, nb = ub.length := ⟨_, rfl⟩
  rw [← hna] at la h0 ha ⊢
  rw [← hnb] at lb h1 hb ⊢
  have Hna := Lib.hid hna
  have Hnb := Lib.hid hnb
  have HA := Lib.hid ha
  have HB := Lib.hid hb
  have HC := Lib.hid (fun wx (hx : Below w.heap.size w wx) => And.intro (show wx.cell? ⟨blk, off, none⟩ = some _ by rw [hx.cell (p := ⟨blk, off, none⟩) (World.block_lt_of_cell? _ _ h0)]; exact h0) (show wx.cell? ⟨blk, off + 1, none⟩ = some _ by rw [hx.cell (p := ⟨blk, off + 1, none⟩) (World.block_lt_of_cell? _ _ h1)]; exact h1))
  have HG := Lib.hid (growI_nil (na + nb) w (by omega))
  have hpc : ((na + nb : Nat) : Int) = (na : Int) + (nb : Int) := by omega
  rw [hpc] at HG
  clear hna hnb ha hb hpc
  go_enter Tryd.func100, Tryd.ntmps100
  go_wp2_with fail
  refine wp_loop_rounds 3 ?_
  rw [rounds_succ]
  go_wp2_with fail
  rw [rounds_succ]
  go_wp2_with fail
  rw [rounds_succ]
  go_wp2_with fail
  refine HG.out.mono ?_
  rintro e w2 ⟨v2, rfl, hown2, hgr2⟩
  obtain ⟨p2, c2, e2⟩ := own_shape hown2
  subst e2
  have B2 : Below w.heap.size w w2 := (Below.refl _ _).grown hgr2 (Nat.le_refl _) (fun k hk => by cases hk)
  obtain ⟨v3, w3, hr3, hown3, hgr3⟩ := run_append_vals w2 w.heap.size 30 30 3 i0 (.int .i64 0) 8 Tryd.underlying30 hi hz0 hz1 hz2 rfl _ 0 [] hown2 _ ua (HA.out.below B2) oa (by rw [← Hna.out]; unfold maxLen; omega) (by rw [← Hna.out]; omega) B2.size
  have B3 := B2.grown hgr3 B2.size (own_block hown2)
  rw [← Hna.out, Nat.zero_add, List.nil_append] at hown3
  obtain ⟨p3, c3, e3⟩ := own_shape hown3
  subst e3
  obtain ⟨v4, w4, hr4, hown4, hgr4⟩ := run_append_vals w3 w.heap.size 30 30 3 i0 (.int .i64 0) 8 Tryd.underlying30 hi hz0 hz1 hz2 rfl _ _ _ hown3 _ ub (HB.out.below B3) ob (by rw [← Hnb.out]; unfold maxLen; omega) (by rw [← Hnb.out]; omega) B3.size
  have B4 := B3.grown hgr4 B3.size (own_block hown3)
  rw [← Hnb.out] at hown4
  obtain ⟨p4, c4, e4⟩ := own_shape hown4
  subst e4
  obtain ⟨d0, d1⟩ := HC.out w2 B2
  obtain ⟨d2, d3⟩ := HC.out w3 B3
  have Hown4 := Lib.hid hown4
  have HB4 := Lib.hid B4
  clear hown2 hown3 hown4 hgr2 hgr3 hgr4 B2 B3 B4 hi hz0 hz1 hz2
  have Q3 := Lib.hid hr3
  have Q4 := Lib.hid hr4
  clear hr3 hr4
  go_wp2_with fail
  refine wp_loop_rounds 3 ?_
  rw [rounds_succ]
  go_wp2_with (at_builtin; refine Lib.wpList_append_run _ rfl _ _ _ _ rfl _ _ rfl rfl _ _ Q3.out ?_)
  rw [rounds_succ]
  go_wp2_with (at_builtin; refine Lib.wpList_append_run _ rfl _ _ _ _ rfl _ _ rfl rfl _ _ Q4.out ?_)
  rw [rounds_succ]
  go_wp2_with fail
  go_ret
  exact ⟨_, rfl, Hown4.out, HB4.out⟩
end Go.Proofs.YtmfammgdcdlceaaDoor
