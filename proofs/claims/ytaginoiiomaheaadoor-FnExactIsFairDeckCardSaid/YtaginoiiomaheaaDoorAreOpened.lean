/-
  AreOpened, both sides: a map of the seals, ranged over.
-/
import Derived.Test.YtaginoiiomaheaaDoorOpened
import Derived.Maps.RangeWalk
import Derived.Maps.Own
import Derived.BigQuiet
namespace Go.Proofs.YtaginoiiomaheaaDoor
open Go.RowKit Go.Maps
set_option linter.unusedVariables false

/-- The player k has told what is sealed. -/
def toldB (zl zs zt : List Int) (k : Nat) : Bool := openB k (zs.getD k 0) (zt.getD k 0) (zl.getD k 0)
def areB (zl zs zt : List Int) : Bool := decide (1 ≤ zl.length ∧ zl.length ≤ 6) && (decide (zs.length = zl.length) && (decide (zt.length = zl.length) && (List.range zl.length).all (toldB zl zs zt)))
theorem are_0 {zl zs zt : List Int} (h : ¬ (1 ≤ zl.length ∧ zl.length ≤ 6)) : areB zl zs zt = false := by unfold areB; rw [decide_eq_false h]; rfl
theorem are_1 {zl zs zt : List Int} (h : ¬ zs.length = zl.length) : areB zl zs zt = false := by unfold areB; rw [decide_eq_false h]; simp
theorem are_2 {zl zs zt : List Int} (h : ¬ zt.length = zl.length) : areB zl zs zt = false := by unfold areB; rw [decide_eq_false h]; simp
theorem are_no {zl zs zt : List Int} (k : Nat) (hk : k < zl.length) (h : toldB zl zs zt k = false) : areB zl zs zt = false := by
  have e : (List.range zl.length).all (toldB zl zs zt) = false := by
    rw [List.all_eq_false]; exact ⟨k, List.mem_range.2 hk, by rw [h]; simp⟩
  unfold areB; rw [e]; simp
theorem are_yes {zl zs zt : List Int} (h0 : 1 ≤ zl.length ∧ zl.length ≤ 6) (h1 : zs.length = zl.length) (h2 : zt.length = zl.length) (h : ∀ k, k < zl.length → toldB zl zs zt k = true) : areB zl zs zt = true := by
  have e : (List.range zl.length).all (toldB zl zs zt) = true := by
    rw [List.all_eq_true]; intro k hk; exact h k (List.mem_range.1 hk)
  unfold areB; rw [decide_eq_true h0, decide_eq_true h1, decide_eq_true h2, e]; rfl
theorem rd_at {w : World} {v : Value} {zs : List Int} {b n cap : Nat} {p : Option Addr} (h : RdAt .i64 w v zs b) (hv : v = .slice p n cap) : ∀ wx, Below w.heap.size w wx → ∀ k, k < zs.length → ∃ off, p = some ⟨b, off, none⟩ ∧ ∀ wy, Below wx.heap.size wx wy → wy.cell? ⟨b, off + k, none⟩ = some (.int .i64 (zs.getD k 0)) := by
  intro wx hb k hk
  rcases (h.below hb).open with ⟨h0, -⟩ | ⟨hz, off, c, hv2, -, hc⟩
  · rw [h0] at hk; simp at hk
  · rw [hv] at hv2
    refine ⟨off, (Value.slice.inj hv2).1, fun wy hy => ?_⟩
    have h1 : wx.cell? ⟨b, off + k, none⟩ = some (.int .i64 (zs.getD k 0)) := by rw [hc k hk]; simp [List.getD, hk]
    rw [hy.cell (World.block_lt_of_cell? _ _ h1)]; exact h1
theorem getD_wf {w : World} {v : Value} {zs : List Int} {b : Nat} (h : RdAt .i64 w v zs b) (k : Nat) (hk : k < zs.length) : (Lit.int .i64 (zs.getD k 0)).wf = true := by
  have := h.wf zs[k] (List.getElem_mem hk)
  simpa [List.getD, hk] using this

set_option maxRecDepth 100000 in
set_option maxHeartbeats 2000000 in
theorem sAreOpened_any (vl vs vt : Value) (zl zs zt : List Int) (bl bs bt : Nat) (w : World) (hL : RdAt .i64 w vl zl bl) (hSe : RdAt .i64 w vs zs bs) (hSa : RdAt .i64 w vt zt bt) (f0 : zl.length ≤ 1048576) (f1 : zs.length ≤ 1048576) (f2 : zt.length ≤ 1048576) (r : Bool) (hr : areB zl zs zt = r) :
    Calls Tryd.prog 25 #[vl, vs, vt] w fun e w' => e = .returned (.bool r) ∧ Below w.heap.size w w' := by
  obtain ⟨pl, cl, evl, -⟩ := id hL
  obtain ⟨ps, cs, evs, -⟩ := id hSe
  obtain ⟨pt, ct, evt, -⟩ := id hSa
  have CL := Lib.hid (rd_at hL evl)
  have CS := Lib.hid (rd_at hSe evs)
  have CT := Lib.hid (rd_at hSa evt)
  have WS := Lib.hid (fun k hk => getD_wf hSe k hk)
  have WT := Lib.hid (fun k hk => getD_wf hSa k hk)
  subst evl evs evt
  obtain ⟨n, hn⟩ : ∃ n, n = zl.length := ⟨_, rfl⟩
  obtain ⟨m, hm⟩ : ∃ m, m = zs.length := ⟨_, rfl⟩
  obtain ⟨q, hq⟩ : ∃ q, q = zt.length := ⟨_, rfl⟩
  have Hn := Lib.hid hn
  have Hm := Lib.hid hm
  have Hq := Lib.hid hq
  have HR := Lib.hid hr
  rw [← hn] at f0 CL ⊢
  rw [← hm] at f1 CS WS ⊢
  rw [← hq] at f2 CT WT ⊢
  clear hL hSe hSa hn hm hq hr

  by_cases g0 : 1 ≤ n ∧ n ≤ 6
  case neg =>
    have H0 := Lib.hid (fun wx => inM_any (n : Int) 1 6 wx false (by simp; omega))
    obtain rfl : r = false := by rw [← HR.out]; exact are_0 (by rw [← Hn.out]; exact g0)
    clear g0
    go_enter Tryd.func25, Tryd.ntmps25
    go_wp2_with fail
    refine (H0.out _).mono ?_
    rintro e _w ⟨rfl, rfl⟩
    go_wp2_with fail
    go_ret
    exact ⟨rfl, Below.refl _ _⟩
  have H0 := Lib.hid (fun wx => inM_any (n : Int) 1 6 wx true (by simp; omega))
  by_cases g1 : m = n
  case neg =>
    have hq1 : ((m : Int) != (n : Int)) = true := by simp; omega
    obtain rfl : r = false := by rw [← HR.out]; exact are_1 (by rw [← Hn.out, ← Hm.out]; exact g1)
    clear g0 g1
    go_enter Tryd.func25, Tryd.ntmps25
    go_wp2_with fail
    refine (H0.out _).mono ?_
    rintro e _w ⟨rfl, rfl⟩
    go_wp2_with fail
    go_ret
    exact ⟨rfl, Below.refl _ _⟩
  subst g1
  have hq1 : ((m : Int) != (m : Int)) = false := by simp
  by_cases g2 : q = m
  case neg =>
    have hq2 : ((q : Int) != (m : Int)) = true := by simp; omega
    obtain rfl : r = false := by rw [← HR.out]; exact are_2 (by rw [← Hn.out, ← Hq.out]; exact g2)
    clear g0 g2
    go_enter Tryd.func25, Tryd.ntmps25
    go_wp2_with fail
    refine (H0.out _).mono ?_
    rintro e _w ⟨rfl, rfl⟩
    go_wp2_with fail
    go_ret
    exact ⟨rfl, Below.refl _ _⟩
  subst g2
  obtain ⟨g00, g01⟩ := g0

  go_enter Tryd.func25, Tryd.ntmps25
  go_wp2_with fail
  refine (H0.out _).mono ?_
  rintro e _w ⟨rfl, rfl⟩
  go_wp2_with fail
  go_loopw [7] (fun i wr => ∃ k : Nat, k ≤ q ∧ i = .int .i64 k ∧ Below w.heap.size w wr ∧ Hid (∀ j, j < k → toldB zl zs zt j = true)) (fun i _ => q - (intOf i).toNat)
  case atStart => exact ⟨0, Nat.zero_le _, rfl, Below.refl _ _, Lib.hid (fun j h => by omega)⟩
  case round =>
    obtain ⟨k, hk, rfl, B, hall⟩ := hrel
    by_cases hlt : k < q
    · obtain ⟨ol, epl, hcl⟩ := CL.out wr B k hlt
      obtain ⟨os, eps, hcs⟩ := CS.out wr B k hlt
      obtain ⟨ot, ept, hct⟩ := CT.out wr B k hlt
      subst epl eps ept
      have h1 := hcl wr (Below.refl _ _)
      have h2 := hcs wr (Below.refl _ _)
      have h3 := hct wr (Below.refl _ _)
      have ws := WS.out k hlt
      have wt := WT.out k hlt
      have htd : toldB zl zs zt k = openB k (zs.getD k 0) (zt.getD k 0) (zl.getD k 0) := rfl
      generalize zl.getD k 0 = xl at *
      generalize zs.getD k 0 = xs at *
      generalize zt.getD k 0 = xt at *
      have HG : Hid (∀ wx, Below wr.heap.size wr wx → wx.cell? ⟨bl, ol + k, none⟩ = some (.int .i64 xl) ∧ wx.cell? ⟨bs, os + k, none⟩ = some (.int .i64 xs) ∧ wx.cell? ⟨bt, ot + k, none⟩ = some (.int .i64 xt)) := Lib.hid (fun wx hb => ⟨hcl wx hb, hcs wx hb, hct wx hb⟩)
      have qa : (k : Int) < (q : Int) := by omega
      cases hb : openB k xs xt xl with
      | true =>
        have HO := Lib.hid (fun wx => sIsOpened_r k xs xt xl wx (WalkArith.wf_i64 (by omega)) ws wt true hb)
        have hall2 : Hid (∀ j, j < k + 1 → toldB zl zs zt j = true) := Lib.hid (fun j hj => by
          by_cases e : j = k
          · subst e; rw [htd]; exact hb
          · exact hall.out j (by omega))
        have HB := Lib.hid B
        clear hcl hcs hct htd hb ws wt B
        go_wp2_with fail
        go_region_held3 (fun w' => w'.cell? ⟨bl, ol + k, none⟩ = some (.int .i64 xl) ∧ w'.cell? ⟨bs, os + k, none⟩ = some (.int .i64 xs) ∧ w'.cell? ⟨bt, ot + k, none⟩ = some (.int .i64 xt)) (go_keep) (first
          | (go_at_call 35; refine (HO.out _).mono ?_; rintro e wy ⟨rfl, By⟩; obtain ⟨y0, y1, y2⟩ := HG.out wy ((Below.refl _ _).drew.trans By)))
        all_goals
          have B2 := HB.out.drew.trans (By.mono HB.out.drew.size)
          clear By HG HB HO
          go_wp2_with fail
          go_roundw
          case rel => exact ⟨k + 1, by omega, by go_num, B2, hall2⟩
          case measure => simp [intOf]; omega
      | false =>
        have HO := Lib.hid (fun wx => sIsOpened_r k xs xt xl wx (WalkArith.wf_i64 (by omega)) ws wt false hb)
        have hf : Hid (r = false) := Lib.hid (by rw [← HR.out]; exact are_no k (by rw [← Hn.out]; exact hlt) (by rw [htd]; exact hb))
        have HB := Lib.hid B
        clear hcl hcs hct htd hb ws wt B
        go_wp2_with fail
        go_region_held3 (fun w' => w'.cell? ⟨bl, ol + k, none⟩ = some (.int .i64 xl) ∧ w'.cell? ⟨bs, os + k, none⟩ = some (.int .i64 xs) ∧ w'.cell? ⟨bt, ot + k, none⟩ = some (.int .i64 xt)) (go_keep) (first
          | (go_at_call 35; refine (HO.out _).mono ?_; rintro e wy ⟨rfl, By⟩; obtain ⟨y0, y1, y2⟩ := HG.out wy ((Below.refl _ _).drew.trans By)))
        all_goals
          have B2 := HB.out.drew.trans (By.mono HB.out.drew.size)
          clear By HG HB HO
          go_wp2_with fail
          go_ret
          exact ⟨by rw [hf.out]; rfl, B2⟩
    · obtain rfl : k = q := by omega
      have hf : Hid (r = true) := Lib.hid (by rw [← HR.out]; exact are_yes (by rw [← Hn.out]; exact ⟨g00, g01⟩) (by rw [← Hn.out, ← Hm.out]) (by rw [← Hn.out, ← Hq.out]) (fun j hj => hall.out j (by rw [Hn.out]; exact hj)))
      go_wp2_with fail
      go_ret
      exact ⟨by rw [hf.out]; rfl, B⟩
/-- The map holds the first k seals. -/
def SealMap (zl : List Int) (k : Nat) (D : DataW Unit) : Prop :=
  IsMap D ∧ (∀ z, Maps.has D z = true → ∃ j : Nat, j < k ∧ z = .int .i64 (j : Int)) ∧ (∀ j : Nat, j < k → Maps.has D (.int .i64 (j : Int)) = true) ∧ ∀ j : Nat, j < k → ∀ zd, D.atKey (.int .i64 (j : Int)) zd = .lit (.int .i64 (zl.getD j 0))
theorem sealMap_0 (zl : List Int) : SealMap zl 0 (.map []) := ⟨⟨[], rfl⟩, fun z h => by simp [Maps.has] at h, fun j h => by omega, fun j h => by omega⟩
theorem sealMap_step {zl : List Int} {k : Nat} {D : DataW Unit} (h : SealMap zl k D) (y : Int) (hy : y = zl.getD k 0) : SealMap zl (k + 1) (D.put (.int .i64 (k : Int)) (.lit (.int .i64 y))) := by
  obtain ⟨h1, h2, h3, h4⟩ := h
  have hk : WideAt.IsKeyLit (.int .i64 (k : Int)) := by trivial
  refine ⟨h1.put _ _, fun z hz => ?_, fun j hj => ?_, fun j hj zd => ?_⟩
  · by_cases e : z = .int .i64 (k : Int)
    · exact ⟨k, by omega, e⟩
    · rw [has_put_other e] at hz
      obtain ⟨j, hj, e2⟩ := h2 z hz
      exact ⟨j, by omega, e2⟩
  · by_cases e : j = k
    · subst e; exact has_put_same h1 hk _
    · rw [has_put_other (by simp; omega)]; exact h3 j (by omega)
  · by_cases e : j = k
    · subst e; rw [atKey_put_same h1 hk, hy]
    · rw [atKey_put_other (by simp; omega)]; exact h4 j (by omega) zd
set_option maxRecDepth 100000 in
set_option maxHeartbeats 2000000 in
theorem sealsByPlayer_any (vl : Value) (zl : List Int) (bl : Nat) (w : World) (hL : RdAt .i64 w vl zl bl) (f0 : zl.length ≤ 6) :
    Calls Tryd.prog 40 #[vl] w fun e w' => ∃ D, e = .returned (.map (some w.heap.size)) ∧ w'.ownsMap Tryd.prog 3 (plainElem Tryd.prog 3) w.heap.size zl.length D ∧ SealMap zl zl.length D ∧ Below w.heap.size w w' := by
  obtain ⟨pl, cl, evl, -⟩ := id hL
  have CL := Lib.hid (rd_at hL evl)
  have WL := Lib.hid (fun k hk => getD_wf hL k hk)
  subst evl
  obtain ⟨n, hn⟩ : ∃ n, n = zl.length := ⟨_, rfl⟩
  rw [← hn] at f0 CL WL ⊢
  have hmm := @run_makeMap Tryd.prog
  have law : Keyed Tryd.prog 3 := int_keyed Tryd.underlying3
  have hown0 := World.ownsMap_made (H := Unit) w Tryd.prog 3 (plainElem Tryd.prog 3)
  have B0 : Below w.heap.size w (w.alloc (.map #[] 0)) := (Below.refl _ _).alloc (Nat.le_refl _) _
  clear hL hn
  go_enter Tryd.func40, Tryd.ntmps40
  go_wp2_with fail
  go_loopw [4, 5, 9] (fun _ _ i wr => ∃ (k : Nat) (D : DataW Unit), k ≤ n ∧ i = .int .i64 k ∧ Hid (SealMap zl k D) ∧ wr.ownsMap Tryd.prog 3 (plainElem Tryd.prog 3) w.heap.size k D ∧ Below w.heap.size w wr) (fun _ _ i _ => n - (intOf i).toNat)
  case atStart => exact ⟨0, _, Nat.zero_le _, rfl, Lib.hid (sealMap_0 zl), hown0, B0⟩
  case round =>
    clear hown0 B0
    obtain ⟨k, D, hk, rfl, hD, hown, B⟩ := hrel
    by_cases hlt : k < n
    · obtain ⟨ol, epl, hcl⟩ := CL.out wr B k hlt
      subst epl
      have h1 := hcl wr (Below.refl _ _)
      have wy := WL.out k hlt
      have hD2 := sealMap_step hD.out (zl.getD k 0) rfl
      generalize zl.getD k 0 = y at *
      have hD2 := Lib.hid hD2
      clear hcl
      go_wp2_with (first
        | (at_mapUpdate; refine wpList_mapUpdate_own _ rfl _ _ _ 61 rfl 3 3 law Tryd.underlying61 _ w.heap.size _ _ rfl hown (by unfold maxLen; omega) _ _ _ rfl rfl (keyOf_int_mk Tryd.underlying3 (WalkArith.wf_i64 (by omega))) _ [] (plainElem_int Tryd.underlying3 wy) ?_; intro w1 hown1 hgrow1; have B1 := below_touch B hgrow1 (Nat.le_refl _))
        | fail)
      clear hown hgrow1 B
      go_wp2_with fail
      go_roundw
      case rel => exact ⟨k + 1, _, by omega, by go_num, hD2, hown1, B1⟩
      case measure => simp [intOf]; omega
    · obtain rfl : k = n := by omega
      go_wp2_with fail
      go_ret
      exact ⟨D, rfl, hown, hD.out, B⟩
set_option maxRecDepth 100000 in
set_option maxHeartbeats 2000000 in
theorem areOpened_any (a0 a1 : Addr) (vl vs vt : Value) (zl zs zt : List Int) (bl bs bt : Nat) (w : World) (hL : RdAt .i64 w vl zl bl) (hSe : RdAt .i64 w vs zs bs) (hSa : RdAt .i64 w vt zt bt) (f0 : zl.length ≤ 1048576) (f1 : zs.length ≤ 1048576) (f2 : zt.length ≤ 1048576) (hS : Sent a0 a1 w) (r : Bool) (hr : areB zl zs zt = r) :
    Calls Tryd.prog 29 #[vl, vs, vt] w fun e w' => e = .returned (.bool r) ∧ Below w.heap.size w w' := by
  have hL0 := hL
  obtain ⟨pl, cl, evl, -⟩ := id hL
  obtain ⟨ps, cs, evs, -⟩ := id hSe
  obtain ⟨pt, ct, evt, -⟩ := id hSa
  have CS := Lib.hid (rd_at hSe evs)
  have CT := Lib.hid (rd_at hSa evt)
  have WS := Lib.hid (fun k hk => getD_wf hSe k hk)
  have WT := Lib.hid (fun k hk => getD_wf hSa k hk)
  subst evl evs evt
  obtain ⟨n, hn⟩ : ∃ n, n = zl.length := ⟨_, rfl⟩
  obtain ⟨m, hm⟩ : ∃ m, m = zs.length := ⟨_, rfl⟩
  obtain ⟨q, hq⟩ : ∃ q, q = zt.length := ⟨_, rfl⟩
  have Hn := Lib.hid hn
  have Hm := Lib.hid hm
  have Hq := Lib.hid hq
  have HR := Lib.hid hr
  have HSt := Lib.hid (fun wx hw => hS.below (w' := wx) hw (Nat.le_refl _))
  rw [← hn] at f0 hL0 ⊢
  rw [← hm] at f1 CS WS ⊢
  rw [← hq] at f2 CT WT ⊢
  have HL0 := Lib.hid hL0
  clear hL hL0 hSe hSa hn hm hq hr hS

  by_cases g0 : 1 ≤ n ∧ n ≤ 6
  case neg =>
    have H0 := Lib.hid (fun wx => inR_any (n : Int) 1 6 wx false (by simp; omega))
    obtain rfl : r = false := by rw [← HR.out]; exact are_0 (by rw [← Hn.out]; exact g0)
    clear g0
    go_enter Tryd.func29, Tryd.ntmps29
    go_wp2_with fail
    refine (H0.out _).mono ?_
    rintro e _w ⟨rfl, rfl⟩
    go_wp2_with fail
    go_ret
    exact ⟨rfl, Below.refl _ _⟩
  have H0 := Lib.hid (fun wx => inR_any (n : Int) 1 6 wx true (by simp; omega))
  by_cases g1 : m = n
  case neg =>
    have hq1 : ((m : Int) != (n : Int)) = true := by simp; omega
    obtain rfl : r = false := by rw [← HR.out]; exact are_1 (by rw [← Hn.out, ← Hm.out]; exact g1)
    clear g0 g1
    go_enter Tryd.func29, Tryd.ntmps29
    go_wp2_with fail
    refine (H0.out _).mono ?_
    rintro e _w ⟨rfl, rfl⟩
    go_wp2_with fail
    go_ret
    exact ⟨rfl, Below.refl _ _⟩
  subst g1
  have hq1 : ((m : Int) != (m : Int)) = false := by simp
  by_cases g2 : q = m
  case neg =>
    have hq2 : ((q : Int) != (m : Int)) = true := by simp; omega
    obtain rfl : r = false := by rw [← HR.out]; exact are_2 (by rw [← Hn.out, ← Hq.out]; exact g2)
    clear g0 g2
    go_enter Tryd.func29, Tryd.ntmps29
    go_wp2_with fail
    refine (H0.out _).mono ?_
    rintro e _w ⟨rfl, rfl⟩
    go_wp2_with fail
    go_ret
    exact ⟨rfl, Below.refl _ _⟩
  subst g2
  obtain ⟨g00, g01⟩ := g0

  have HSp : Hid (Calls Tryd.prog 40 #[.slice pl q cl] w fun e w' => ∃ D, e = .returned (.map (some w.heap.size)) ∧ w'.ownsMap Tryd.prog 3 (plainElem Tryd.prog 3) w.heap.size q D ∧ SealMap zl q D ∧ Below w.heap.size w w') := Lib.hid (by
    have := sealsByPlayer_any _ zl bl w HL0.out (by rw [← Hn.out]; exact g01)
    rw [← Hn.out] at this
    exact this)
  have law : Keyed Tryd.prog 3 := int_keyed Tryd.underlying3
  go_enter Tryd.func29, Tryd.ntmps29
  go_wp2_with fail
  refine (H0.out _).mono ?_
  rintro e _w ⟨rfl, rfl⟩
  go_wp2_with fail
  refine HSp.out.mono ?_
  rintro e w1 ⟨D, rfl, hown, hD, B1⟩
  have hD := Lib.hid hD
  clear HSp H0 HL0
  go_wp2_with (first
    | (at_range; refine wpList_range_own _ rfl _ 61 rfl 3 3 law Tryd.underlying61 _ w.heap.size _ _ rfl hown ?_; intro w0 hrg0 hg0 hs0)
    | fail)
  have B2 := below_touch B1 (hg0.but (some w.heap.size)) (Nat.le_refl _)
  obtain ⟨rb, hrb⟩ : ∃ rb, rb = w1.heap.size := ⟨_, rfl⟩
  rw [← hrb] at hrg0 ⊢
  have hrs : w.heap.size ≤ rb := by rw [hrb]; exact B1.size
  clear hrb hs0 hg0 hown B1
  go_frame
  go_loopw [7, 8] (fun _ _ wr => ∃ (left : Lit → Bool) (cnt : Nat), Hid (∀ z, left z = true → Maps.has D z = true) ∧ Hid (∀ j : Nat, j < q → left (.int .i64 (j : Int)) = false → toldB zl zs zt j = true) ∧ wr.ranges Tryd.prog 3 (plainElem Tryd.prog 3) w.heap.size rb q D left cnt ∧ Below w.heap.size w wr) (fun _ _ wr => wr.rangeLeft w.heap.size rb)
  case atStart => exact ⟨_, _, Lib.hid (fun z h => h), Lib.hid (fun j hj h => by rw [hD.out.2.2.1 j hj] at h; cases h), hrg0, B2⟩
  case round =>
    clear hrg0 B2
    obtain ⟨left, cnt, hh, hdone, hrg, B⟩ := hrel
    go_wp2_with (first
      | (at_next; refine wpList_next_ranges_ii _ rfl _ rfl 3 3 .i64 .i64 law Tryd.underlying3 Tryd.underlying3 w.heap.size rb q _ _ _ rfl hrg ?_ ?_)
      | fail)
    · intro _ hl0
      have hf : Hid (r = true) := Lib.hid (by rw [← HR.out]; exact are_yes (by rw [← Hn.out]; exact ⟨g00, g01⟩) (by rw [← Hn.out, ← Hm.out]) (by rw [← Hn.out, ← Hq.out]) (fun j hj => hdone.out j (by rw [Hn.out]; exact hj) (hl0 _)))
      clear hl0 hrg hh hdone
      go_wp2_with fail
      go_ret
      exact ⟨by rw [hf.out]; rfl, B⟩
    · intro y c w2 cnt1 hwy hwc hly hat hrg1 hlt hg1 hs1 hen
      have hB1 : Below w.heap.size w w2 := below_touch B hg1 hrs
      obtain ⟨k, hk, ey⟩ := hD.out.2.1 _ (hh.out _ hly)
      have hyk : y = (k : Int) := by simpa using ey
      subst hyk
      have hc : c = zl.getD k 0 := by
        have h1 := (hat (.lit (.int .i64 0))).symm.trans (hD.out.2.2.2 k hk (.lit (.int .i64 0)))
        simpa using h1
      obtain ⟨os, eps, hcs⟩ := CS.out w2 hB1 k hk
      obtain ⟨ot, ept, hct⟩ := CT.out w2 hB1 k hk
      subst eps ept
      have h2 := hcs w2 (Below.refl _ _)
      have h3 := hct w2 (Below.refl _ _)
      have ws := WS.out k hk
      have wt := WT.out k hk
      have htd : toldB zl zs zt k = openB k (zs.getD k 0) (zt.getD k 0) c := by rw [hc]; rfl
      generalize zs.getD k 0 = xs at *
      generalize zt.getD k 0 = xt at *
      have HG : Hid (∀ wx, Below w2.heap.size w2 wx → wx.cell? ⟨bs, os + k, none⟩ = some (.int .i64 xs) ∧ wx.cell? ⟨bt, ot + k, none⟩ = some (.int .i64 xt)) := Lib.hid (fun wx hb => ⟨hcs wx hb, hct wx hb⟩)
      have qa : (k : Int) < (q : Int) := by omega
      have hh2 : Hid (∀ z, (left z && !z.sameKey (.int .i64 (k : Int))) = true → Maps.has D z = true) := Lib.hid (fun z hz => hh.out z (by simp at hz; exact hz.1))
      have hleq := Lib.hid hrg.left_eq
      have Hlt := Lib.hid hlt
      have HSt1 := Lib.hid (HSt.out w2 hB1)
      have HB := Lib.hid hB1
      cases hb : openB k xs xt c with
      | true =>
        have HO := Lib.hid (fun wx (hw : Below w2.heap.size w2 wx) => isOpened_r a0 a1 k xs xt c wx (WalkArith.wf_i64 (by omega)) ws wt (HSt1.out.below hw (Nat.le_refl _)) true hb)
        have hdone2 : Hid (∀ j : Nat, j < q → (left (.int .i64 (j : Int)) && !(Lit.int .i64 (j : Int)).sameKey (.int .i64 (k : Int))) = false → toldB zl zs zt j = true) := Lib.hid (fun j hj hl => by
          by_cases e : j = k
          · subst e; rw [htd]; exact hb
          · refine hdone.out j hj ?_
            have hne : (Lit.int .i64 (j : Int)).sameKey (.int .i64 (k : Int)) = false := sameKey_ne (by simp; omega)
            rw [hne] at hl
            simpa using hl)
        have hrgH := Lib.hid hrg1
        clear hcs hct htd hb ws wt B hly hat hrg hrg1 hg1 hs1 hlt hwy hwc hc ey hB1 hh hdone
        go_wp2_with fail
        clear hen
        go_region_held3 (fun w' => w'.cell? ⟨bs, os + k, none⟩ = some (.int .i64 xs) ∧ w'.cell? ⟨bt, ot + k, none⟩ = some (.int .i64 xt)) (go_keep) (first
          | (go_at_call 41; refine (HO.out _ (Below.refl _ _).drew).mono ?_; rintro e wy ⟨rfl, By⟩; obtain ⟨y0, y1⟩ := HG.out wy ((Below.refl _ _).drew.trans By)))
        all_goals
          have Bc : Below w2.heap.size w2 wy := (Below.refl _ _).drew.trans By
          have hrg2 := hrgH.out.kept (row := none) ⟨Bc.os, Bc.tape, Bc.output, Bc.size, fun i hi _ => Bc.block i hi⟩ (by simp) (by simp)
          have B3 := HB.out.trans (Bc.mono HB.out.size)
          clear By Bc HG HB HO hrgH
          go_wp2_with fail
          go_roundw
          case rel => exact ⟨_, cnt1, hh2, hdone2, hrg2, B3⟩
          case measure => rw [hrg2.left_eq, hleq.out]; exact Hlt.out
      | false =>
        have HO := Lib.hid (fun wx (hw : Below w2.heap.size w2 wx) => isOpened_r a0 a1 k xs xt c wx (WalkArith.wf_i64 (by omega)) ws wt (HSt1.out.below hw (Nat.le_refl _)) false hb)
        have hf : Hid (r = false) := Lib.hid (by rw [← HR.out]; exact are_no k (by rw [← Hn.out]; exact hk) (by rw [htd]; exact hb))
        clear hcs hct htd hb ws wt B hly hat hrg hrg1 hg1 hs1 hlt hwy hwc hc ey hB1 hh hdone
        go_wp2_with fail
        clear hen
        go_region_held3 (fun w' => w'.cell? ⟨bs, os + k, none⟩ = some (.int .i64 xs) ∧ w'.cell? ⟨bt, ot + k, none⟩ = some (.int .i64 xt)) (go_keep) (first
          | (go_at_call 41; refine (HO.out _ (Below.refl _ _).drew).mono ?_; rintro e wy ⟨rfl, By⟩; obtain ⟨y0, y1⟩ := HG.out wy ((Below.refl _ _).drew.trans By)))
        all_goals
          have Bc : Below w2.heap.size w2 wy := (Below.refl _ _).drew.trans By
          have B3 := HB.out.trans (Bc.mono HB.out.size)
          clear By Bc HG HB HO
          go_wp2_with fail
          go_ret
          exact ⟨by rw [hf.out]; rfl, B3⟩
end Go.Proofs.YtaginoiiomaheaaDoor
