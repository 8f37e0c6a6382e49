/-
  CountMatches, MatchSet: the model's side.
-/
import Derived.Test.YtepjijmgfdgfhaaDoorPatMt
namespace Go.Proofs.YtepjijmgfdgfhaaDoor
open Go.RowKit
set_option linter.unusedVariables false
set_option linter.unusedSimpArgs false

theorem cnt_take {p zs : List Int} {k : Nat} (h : k < zs.length) : (matchL p (zs.take (k + 1))).length = (matchL p (zs.take k)).length + if matchB p (zs.getD k 0) = true then 1 else 0 := by
  rw [matchL_take p zs k h, List.length_append]
  by_cases e : matchB p (zs.getD k 0) = true
  · rw [if_pos e, if_pos e]; rfl
  · rw [if_neg e, if_neg e]; rfl
def matchK (p : List Int) (k : Nat) : List Int := ((List.range k).map fun (i : Nat) => (i : Int)).filter (matchB p)
theorem matchK_next (p : List Int) (k : Nat) : matchK p (k + 1) = matchK p k ++ if matchB p k = true then [(k : Int)] else [] := by
  unfold matchK
  rw [List.range_succ, List.map_append, List.filter_append]
  congr 1
  by_cases e : matchB p (k : Int) = true <;> simp [e]
theorem matchK_all (p : List Int) : matchK p 52 = matchSet p := by
  unfold matchK matchSet matchL deck marksI
  congr 1
  try (refine List.map_congr_left fun i _ => ?_; omega)
theorem matchK_len (p : List Int) (k : Nat) : (matchK p k).length ≤ k := by
  unfold matchK
  refine Nat.le_trans (List.length_filter_le _ _) ?_
  simp
theorem matchK_wf (p : List Int) : ∀ x ∈ matchK p 52, (Lit.int .i64 x).wf = true := by
  intro x hx
  have := (List.mem_filter.1 hx).1
  simp only [List.mem_map, List.mem_range] at this
  obtain ⟨i, hi, rfl⟩ := this
  exact WalkArith.wf_i64 (by omega)
set_option maxRecDepth 100000 in
set_option maxHeartbeats 1000000 in
theorem sCountMatches_any (vp vl : Value) (p zs : List Int) (bp b : Nat) (w : World) (hp : RdAt .i64 w vp p bp) (h : RdAt .i64 w vl zs b) (hpl : p.length ≤ 1048576) (hl : zs.length ≤ 1048576) :
    Calls Tryd.prog 25 #[vp, vl] w fun e w' => e = .returned (.int .i64 (cntM p zs)) ∧ Below w.heap.size w w' := by
  have HM : Hid (∀ wx, Below w.heap.size w wx → ∀ c, Calls Tryd.prog 31 #[vp, .int .i64 c] wx fun e w' => e = .returned (.bool (matchB p c)) ∧ Below wx.heap.size wx w') := Lib.hid (fun wx bx c => sMatches_any vp p bp c wx (hp.below bx) hpl _ rfl)
  have hlt0 := h.lt
  obtain ⟨a, cap, rfl, -, -, hcell⟩ := h
  obtain ⟨r, hr⟩ : ∃ r, r = cntM p zs := ⟨_, rfl⟩
  have Hr := Lib.hid hr
  rw [← hr]
  obtain ⟨n, hn⟩ : ∃ n, n = zs.length := ⟨_, rfl⟩
  have Hn := Lib.hid hn
  rw [← hn] at hl ⊢
  clear hn hr
  have HCl : Hid (∀ wx, Below w.heap.size w wx → ∀ k, k < n → ∃ off, a = some ⟨b, off, none⟩ ∧ wx.cell? ⟨b, off + k, none⟩ = some (.int .i64 (zs.getD k 0))) := Lib.hid (fun wx bx k hk => cells_atP bx hlt0 hcell (by rw [← Hn.out]; exact hk))
  clear hlt0 hcell hp
  go_enter Tryd.func25, Tryd.ntmps25
  go_wp2_with fail
  go_loopw [5, 6] (fun m i wr => ∃ k x : Nat, k ≤ n ∧ i = .int .i64 k ∧ m = .int .i64 x ∧ x ≤ k ∧ Below w.heap.size w wr ∧ Hid (x = (matchL p (zs.take k)).length)) (fun _ i _ => n - (intOf i).toNat)
  case atStart => exact ⟨0, 0, Nat.zero_le _, rfl, rfl, Nat.le_refl _, Below.refl _ _, Lib.hid rfl⟩
  case round =>
    obtain ⟨k, x, hk, rfl, rfl, hxk, B, hx⟩ := hrel
    by_cases hlt : k < n
    · have hkz : k < zs.length := by rw [← Hn.out]; exact hlt
      obtain ⟨off, ha, hc⟩ := HCl.out wr B k hlt
      subst ha
      obtain ⟨y, hy⟩ : ∃ y, Hid (zs.getD k 0 = y) := ⟨_, Lib.hid rfl⟩
      rw [hy.out] at hc
      have HMk := Lib.hid (HM.out wr B y)
      have hst := cnt_take (p := p) hkz
      rw [hy.out, ← hx.out] at hst
      cases hm : matchB p y with
      | true =>
        rw [hm] at HMk hst
        have hx2 : Hid (x + 1 = (matchL p (zs.take (k + 1))).length) := Lib.hid (by rw [hst]; rfl)
        clear hm hst
        go_wp2_with fail
        refine HMk.out.mono ?_
        rintro e w2 ⟨rfl, B2⟩
        have B3 := B.trans (B2.mono B.size)
        go_wp2_with fail
        go_roundw
        case rel => exact ⟨k + 1, x + 1, by omega, by go_num, by go_num, by omega, B3, hx2⟩
        case measure => simp [intOf]; omega
      | false =>
        rw [hm] at HMk hst
        have hx2 : Hid (x = (matchL p (zs.take (k + 1))).length) := Lib.hid (by rw [hst]; rfl)
        clear hm hst
        go_wp2_with fail
        refine HMk.out.mono ?_
        rintro e w2 ⟨rfl, B2⟩
        have B3 := B.trans (B2.mono B.size)
        go_wp2_with fail
        go_roundw
        case rel => exact ⟨k + 1, x, by omega, by go_num, rfl, by omega, B3, hx2⟩
        case measure => simp [intOf]; omega
    · obtain rfl : k = n := by omega
      have hx2 : Hid (r = x) := Lib.hid (by rw [Hr.out, hx.out, List.take_of_length_le (by rw [Hn.out]; exact Nat.le_refl _)]; rfl)
      go_wp2_with fail
      go_ret
      exact ⟨by rw [hx2.out]; rfl, B⟩
end Go.Proofs.YtepjijmgfdgfhaaDoor
