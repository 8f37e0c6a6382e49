/-
  CountMatches, MatchSet: the model's side.
-/
import Derived.Test.YtonpdjgokmedjaaDoorPatMt
namespace Go.Proofs.YtonpdjgokmedjaaDoor
open Go.RowKit
set_option linter.unusedVariables false
set_option linter.unusedSimpArgs false

theorem cnt_take {p zs : List Int} {k : Nat} (h : k < zs.length) : (matchL p (zs.take (k + 1))).length = (matchL p (zs.take k)).length + if matchB p (zs.getD k 0) = true then 1 else 0 := by
  rw [matchL_take p zs k h, List.length_append]
  by_cases e : matchB p (zs.getD k 0) = true
  · rw [if_pos e, if_pos e]; rfl
  · rw [if_neg e, if_neg e]; rfl
def matchK (p : List Int) (k : Nat) : List Int := ((List.range k).map fun (i : Nat) => (i : Int)).filter (matchB p)
theorem matchK_next (p : List Int) (k : Nat) : matchK p (k + 1) = matchK p k ++ if matchB p k = true then [(k : Int)] else [] := by
  unfold matchK
  rw [List.range_succ, List.map_append, List.filter_append]
  congr 1
  by_cases e : matchB p (k : Int) = true <;> simp [e]
theorem matchK_all (p : List Int) : matchK p 52 = matchSet p := by
  unfold matchK matchSet matchL deck marksI
  congr 1
  try (refine List.map_congr_left fun i _ => ?_; omega)
theorem matchK_len (p : List Int) (k : Nat) : (matchK p k).length ≤ k := by
  unfold matchK
  refine Nat.le_trans (List.length_filter_le _ _) ?_
  simp
theorem matchK_wf (p : List Int) : ∀ x ∈ matchK p 52, (Lit.int .i64 x).wf = true := by
  intro x hx
  have := (List.mem_filter.1 hx).1
  simp only [List.mem_map, List.mem_range] at this
  obtain ⟨i, hi, rfl⟩ := this
  exact WalkArith.wf_i64 (by omega)
set_option maxRecDepth 100000 in
set_option maxHeartbeats 1000000 in
theorem sMatchSet_any (vp : Value) (p : List Int) (bp : Nat) (w : World) (hp : RdAt .i64 w vp p bp) (hpl : p.length ≤ 1048576) :
    Calls Tryd.prog 31 #[vp] w fun e w' => ∃ v' b', e = .returned v' ∧ w.heap.size ≤ b' ∧ WrAt .i64 w' v' (matchSet p) b' ∧ Below w.heap.size w w' := by
  obtain ⟨i0, hi, hz0, hz1, hz2⟩ := info_parts info_i64
  have HM : Hid (∀ wx, Below w.heap.size w wx → ∀ c, Calls Tryd.prog 39 #[vp, .int .i64 c] wx fun e w' => e = .returned (.bool (matchB p c)) ∧ Below wx.heap.size wx w') := Lib.hid (fun wx bx c => sMatches_any vp p bp c wx (hp.below bx) hpl _ rfl)
  have hown0 := World.ownsRow_lit (base := w.heap.size) (e := 3) (size := 1) w #[] 0 (Nat.le_refl _) (Nat.zero_le _) rfl
  have B0 : Below w.heap.size w (w.alloc (.cells #[] 3)) := (Below.refl _ _).alloc (Nat.le_refl _) _
  clear hp
  go_enter Tryd.func31, Tryd.ntmps31
  go_wp2_with fail
  go_loopw [3, 4] (fun o i wr => ∃ k : Nat, k ≤ 52 ∧ i = .int .i64 k ∧ Below w.heap.size w wr ∧ wr.ownsRow w.heap.size 3 1 o (matchK p k).length ((matchK p k).map (Value.int .i64))) (fun _ i _ => 52 - (intOf i).toNat)
  case atStart => exact ⟨0, Nat.zero_le _, rfl, B0, hown0⟩
  case round =>
    clear hown0 B0
    obtain ⟨k, hk, rfl, B, hown⟩ := hrel
    by_cases hlt : k < 52
    · have HMk := Lib.hid (HM.out wr B k)
      have hst := matchK_next p k
      have hle := matchK_len p k
      cases hm : matchB p (k : Int) with
      | true =>
        rw [hm] at HMk hst
        have hx2 : Hid (matchK p (k + 1) = matchK p k ++ [(k : Int)]) := Lib.hid (by rw [hst]; rfl)
        clear hm hst
        generalize matchK p k = FF at *
        go_wp2_with fail
        refine HMk.out.mono ?_
        rintro e w2 ⟨rfl, B2⟩
        have B3 := B.trans (B2.mono B.size)
        have hown2 := own_below hown B2
        have hsz := B3.size
        clear hown B2
        go_wp2_with (at_builtin; refine wpList_append_own _ rfl _ _ 22 rfl w.heap.size 3 i0 (.int .i64 0) 1 8 Tryd.underlying22 hi hz0 hz1 hz2 rfl (by decide) _ _ _ rfl (hown2.alloc _) ⟨w2.heap.size, 0, none⟩ 1 1 [.int .i64 k] rfl rfl ?c1 ?c2 ?c3 ?c4 ?c5 ?_)
        case c1 => exact cell_one_new _ _ _
        case c2 => intro u hu; simp at hu; subst hu; rfl
        case c3 => unfold maxLen; omega
        case c4 => omega
        case c5 => simp; omega
        intro v' w3 hown' hgrow _
        have hb3 : Below w.heap.size w w3 := (B3.alloc hsz _).grown hgrow (by simp; omega) (own_block hown2)
        have hown3 := own_snoc hown'
        clear hown' hgrow hown2
        go_wp2_with fail
        go_roundw
        case rel => exact ⟨k + 1, by omega, by go_num, hb3, by rw [hx2.out]; exact hown3⟩
        case measure => simp [intOf]; omega
      | false =>
        rw [hm] at HMk hst
        have hx2 : Hid (matchK p (k + 1) = matchK p k) := Lib.hid (by rw [hst]; simp)
        clear hm hst
        go_wp2_with fail
        refine HMk.out.mono ?_
        rintro e w2 ⟨rfl, B2⟩
        have B3 := B.trans (B2.mono B.size)
        have hown2 := own_below hown B2
        clear hown
        go_wp2_with fail
        go_roundw
        case rel => exact ⟨k + 1, by omega, by go_num, B3, by rw [hx2.out]; exact hown2⟩
        case measure => simp [intOf]; omega
    · obtain rfl : k = 52 := by omega
      have HW := Lib.hid (own_wr hown (matchK_wf p))
      rw [matchK_all] at HW
      clear hown
      go_wp2_with fail
      go_ret
      obtain ⟨b2, hb2', hw2⟩ := HW.out
      exact ⟨_, b2, rfl, hb2', hw2, B⟩
end Go.Proofs.YtonpdjgokmedjaaDoor
