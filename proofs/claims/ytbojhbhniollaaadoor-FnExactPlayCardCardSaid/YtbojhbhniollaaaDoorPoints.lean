/-
  TrickPoints by contract, both sides.
-/
import Derived.Test.YtbojhbhniollaaaDoorCard
import Derived.Test.YtbojhbhniollaaaDoorFold
import Derived.Maps.RangeWalk
import Derived.Maps.Own
namespace Go.Proofs.YtbojhbhniollaaaDoor
open Go.RowKit Go.Maps

def cntR (zs : List Int) (r : Int) : Nat := (zs.filter fun x => rankOf x == r).length
theorem cntR_take (zs : List Int) (r : Int) (k : Nat) (h : k < zs.length) : cntR (zs.take (k + 1)) r = cntR (zs.take k) r + (if rankOf (zs.getD k 0) = r then 1 else 0) := by
  unfold cntR
  have e : zs.getD k 0 = zs[k] := by simp [List.getD, h]
  rw [List.take_succ_eq_append_getElem h, List.filter_append, List.length_append, e]
  congr 1
  by_cases e : rankOf zs[k] = r <;> simp [e]
theorem cntR_le (zs : List Int) (r : Int) : cntR zs r ≤ zs.length := List.length_filter_le _ _
def valT (c : Int) : Int := if rankOf c = 12 then 11 else if rankOf c = 11 then 4 else if rankOf c = 10 then 3 else if rankOf c = 9 then 2 else if rankOf c = 8 then 10 else 0
def pts (zs : List Int) : Int := (zs.map valT).sum
theorem pts_take (zs : List Int) (k : Nat) (h : k < zs.length) : pts (zs.take (k + 1)) = pts (zs.take k) + valT (zs.getD k 0) := by
  unfold pts
  have e : zs.getD k 0 = zs[k] := by simp [List.getD, h]
  rw [List.take_succ_eq_append_getElem h, List.map_append, List.sum_append, e]
  simp
theorem pts_cnt : ∀ zs : List Int, pts zs = 11 * (cntR zs 12 : Int) + 10 * (cntR zs 8 : Int) + 4 * (cntR zs 11 : Int) + 3 * (cntR zs 10 : Int) + 2 * (cntR zs 9 : Int)
  | [] => rfl
  | x :: zs => by
    have ih := pts_cnt zs
    have e1 : pts (x :: zs) = valT x + pts zs := by simp [pts]
    have e2 : ∀ r, (cntR (x :: zs) r : Int) = (if rankOf x = r then 1 else 0) + (cntR zs r : Int) := fun r => by
      unfold cntR
      by_cases h : rankOf x = r
      · simp [h]; omega
      · simp [h]
    rw [e1, ih, e2, e2, e2, e2, e2]
    unfold valT
    generalize rankOf x = y
    by_cases h12 : y = 12
    · subst h12; simp; omega
    by_cases h11 : y = 11
    · subst h11; simp; omega
    by_cases h10 : y = 10
    · subst h10; simp; omega
    by_cases h9 : y = 9
    · subst h9; simp; omega
    by_cases h8 : y = 8
    · subst h8; simp; omega
    simp [h12, h11, h10, h9, h8]
theorem pts_bd (zs : List Int) : 0 ≤ pts zs ∧ pts zs ≤ 11 * zs.length := by
  induction zs with
  | nil => simp [pts]
  | cons x zs ih =>
    have e1 : pts (x :: zs) = valT x + pts zs := by simp [pts]
    have : 0 ≤ valT x ∧ valT x ≤ 11 := by unfold valT; repeat' split
                                          all_goals omega
    rw [e1]; simp; omega

set_option maxRecDepth 100000 in
set_option maxHeartbeats 1000000 in
theorem rankStep_any (zs : List Int) (b off n cap tb ub : Nat) (t : Int) (m k : Nat) (w : World) (hc : Cells .i64 w b off zs) (hn : n = zs.length) (_hl : n ≤ 1099511627776) (hm : m ≤ n) (hk : k < n)
    (ht : w.cell? ⟨tb, 0, none⟩ = some (.slice (some ⟨b, off, none⟩) n cap)) (hu : w.cell? ⟨ub, 0, none⟩ = some (.int .i64 t)) :
    Calls Tryd.prog 123 #[.int .i64 m, .int .i64 k, .pointer (some ⟨tb, 0, none⟩), .pointer (some ⟨ub, 0, none⟩)] w fun e w' =>
      e = .returned (.int .i64 ((m + (if rankOf (zs.getD k 0) = t then 1 else 0) : Nat) : Int)) ∧ Below w.heap.size w w' := by
  obtain ⟨x, hx⟩ : ∃ x, x = zs.getD k 0 := ⟨_, rfl⟩
  have h1 : w.cell? ⟨b, off + k, none⟩ = some (.int .i64 x) := by rw [hc k (by omega), hx]; simp [List.getD, show k < zs.length by omega]
  rw [← hx]
  clear hx hc hn
  have hkz : (0 : Int) ≤ (k : Int) := by omega
  have hkn : (k : Int) < (n : Int) := by omega
  obtain ⟨u, hu2⟩ : ∃ u, rankOf x = u := ⟨_, rfl⟩
  have HU := Lib.hid hu2
  by_cases e1 : u = t
  · have Hr : Hid (m + (if rankOf x = t then 1 else 0) = m + 1) := Lib.hid (by rw [hu2, if_pos e1])
    have hq : (u == t) = true := by simpa using e1
    clear e1 hu2
    rw [Hr.out]
    go_enter Tryd.func123, Tryd.ntmps123
    go_wp2_with fail
    go_quiet ((go_at_call 122; exact Calls.quiet_of_same (flip_same (rankOf_r _ _ _ HU.out) rfl)))
    go_wp2_with fail
    go_ret
    exact ⟨rfl, below_drewN (Below.refl _ _) _⟩
  · have Hr : Hid (m + (if rankOf x = t then 1 else 0) = m) := Lib.hid (by rw [hu2, if_neg e1]; rfl)
    have hq : (u == t) = false := by simpa using e1
    clear e1 hu2
    rw [Hr.out]
    go_enter Tryd.func123, Tryd.ntmps123
    go_wp2_with fail
    go_quiet ((go_at_call 122; exact Calls.quiet_of_same (flip_same (rankOf_r _ _ _ HU.out) rfl)))
    go_wp2_with fail
    go_ret
    exact ⟨rfl, below_drewN (Below.refl _ _) _⟩

set_option maxRecDepth 100000 in
set_option maxHeartbeats 1000000 in
theorem countRank_any (v : Value) (zs : List Int) (b : Nat) (t : Int) (w : World) (h : RdAt .i64 w v zs b) (hl : zs.length ≤ 1099511627776) :
    Calls Tryd.prog 105 #[v, .int .i64 t] w fun e w' => e = .returned (.int .i64 (cntR zs t)) ∧ Below w.heap.size w w' := by
  obtain ⟨n, hn⟩ : ∃ n, n = zs.length := ⟨_, rfl⟩
  have Hn := Lib.hid hn
  have h0 := h
  obtain ⟨a, cap, rfl, -⟩ := id h
  have HR : Hid (∀ wx, Below w.heap.size w wx → RdAt .i64 wx (.slice a n cap) zs b) := Lib.hid (fun wx hb => by rw [hn]; exact h0.below hb)
  have HCl : Hid (∀ k, k < n → ∃ off, a = some ⟨b, off, none⟩ ∧ ∀ wx, Below w.heap.size w wx → Cells .i64 wx b off zs) := Lib.hid (fun k hk => by
    rcases h0.open with ⟨h00, -⟩ | ⟨hz, off, cap', he, -, hc⟩
    · rw [hn, h00] at hk; simp at hk
    · refine ⟨off, (Value.slice.inj he).1, fun wx hb j hj => ?_⟩
      rw [World.cell?_of_block (w := w) (a := ⟨b, off + j, none⟩) (hb.block _ (h0.lt hz))]; exact hc j hj)
  rw [← hn] at hl ⊢
  have B : Below w.heap.size w ((w.alloc (.cells #[.slice a n cap] 23)).alloc (.cells #[.int .i64 t] 3)) := ((Below.refl _ _).alloc (Nat.le_refl _) _).alloc (by simp) _
  obtain ⟨w1, hw1⟩ : ∃ w1, w1 = ((w.alloc (.cells #[.slice a n cap] 23)).alloc (.cells #[.int .i64 t] 3)) := ⟨_, rfl⟩
  have hcell : w1.cell? ⟨w.heap.size, 0, none⟩ = some (.slice a n cap) := by rw [hw1]; simp
  have hcell2 : w1.cell? ⟨w.heap.size + 1, 0, none⟩ = some (.int .i64 t) := by rw [hw1]; simp
  have hs1 : w.heap.size + 1 < w1.heap.size := by rw [hw1]; simp
  rw [← hw1] at B
  have HF := foldRank_any _ zs b (.pointer (some ⟨w.heap.size, 0, none⟩)) (.pointer (some ⟨w.heap.size + 1, 0, none⟩)) (fun k => (cntR (zs.take k) t : Int)) w1 (HR.out _ B) (by rw [← Hn.out]; exact hl) (fun k hk wx hbx => by
    obtain ⟨off, ha, hcl⟩ := HCl.out k (by rw [Hn.out]; exact hk)
    have := rankStep_any zs b off n cap w.heap.size (w.heap.size + 1) t (cntR (zs.take k) t) k wx (hcl _ (B.trans (hbx.mono B.size))) Hn.out hl (by have := cntR_le (zs.take k) t; rw [List.length_take] at this; have := Hn.out; omega) (by rw [Hn.out]; exact hk)
      (by rw [hbx.cell (p := ⟨w.heap.size, 0, none⟩) (by show w.heap.size < _; omega), ← ha]; exact hcell) (by rw [hbx.cell (p := ⟨w.heap.size + 1, 0, none⟩) hs1]; exact hcell2)
    rw [← cntR_take zs t k hk] at this
    exact this)
  simp only [List.take_zero, List.take_length] at HF
  rw [show cntR [] t = 0 from rfl] at HF
  have HF := Lib.hid HF
  subst hw1
  clear h h0 hn hcell hcell2 hs1
  go_enter Tryd.func105, Tryd.ntmps105
  go_wp2_with fail
  refine HF.out.mono ?_
  rintro e w2 ⟨rfl, B2⟩
  replace B := B.trans (B2.mono B.size)
  go_wp2_with fail
  go_ret
  exact ⟨rfl, B⟩

theorem wpList_insert_own {H : Type} {P : Program} (w : World) {ops : Array Oper} {rest : List Oper} {o : Oper} {a : Act} {Q : Exit → Act → World → Prop}
    (hg : o.guard = none) (m x v : Operand) (t : TypeId) (hop : o.op = Op.insert t m x v)
    (k e : TypeId) (K : Keyed P k) (ht : P.underlying t = some (.map k e)) (R : Value → Option (DataW H × List MemPlace)) (b n : Nat) (D : DataW H)
    (hm : a.eval m = .map (some b)) (hown : w.ownsMap P k R b n D) (hn : n < maxLen) (key val : Value) (kl : Lit) (hx : a.eval x = key) (hv : a.eval v = val) (hkey : keyOf P k key = some kl)
    (d : DataW H) (ps : List MemPlace) (hval : R val = some (d, ps))
    (hK : ∀ w', w'.ownsMap P k R b (n + 1) (D.put kl d) → w.grownBy w' (some b) → wpList P ops Q rest (a.put o.dst undef) w') :
    wpList P ops Q (o :: rest) a w := by
  refine wpList_plain hg fun K' hK' => ?_
  obtain ⟨w', hrun, r1, r2⟩ := hown.update K ht hn hkey hval
  unfold Oper.wp
  simp [execOp, hop, hm, hx, hv, hrun, Result.andThen]
  exact hK' _ _ (hK w' r1 r2)

def ptMap : DataW Unit := .map [(.int .i64 8, .lit (.int .i64 10)), (.int .i64 9, .lit (.int .i64 2)), (.int .i64 10, .lit (.int .i64 3)), (.int .i64 11, .lit (.int .i64 4)), (.int .i64 12, .lit (.int .i64 11))]
theorem has_pt {x : Int} (h : Maps.has ptMap (.int .i64 x) = true) : x = 8 ∨ x = 9 ∨ x = 10 ∨ x = 11 ∨ x = 12 := by
  simp only [Maps.has, ptMap, List.any_cons, List.any_nil, Lit.sameKey, Bool.or_eq_true, decide_eq_true_eq, Bool.or_false] at h
  omega
/-- What has been counted of the five kinds. -/
def doneP (zs : List Int) (left : Lit → Bool) : Int :=
  (if left (.int .i64 12) then 0 else 11 * (cntR zs 12 : Int)) + (if left (.int .i64 8) then 0 else 10 * (cntR zs 8 : Int)) + (if left (.int .i64 11) then 0 else 4 * (cntR zs 11 : Int)) + (if left (.int .i64 10) then 0 else 3 * (cntR zs 10 : Int)) + (if left (.int .i64 9) then 0 else 2 * (cntR zs 9 : Int))
theorem doneP_bd (zs : List Int) (left : Lit → Bool) : 0 ≤ doneP zs left ∧ doneP zs left ≤ 30 * zs.length := by
  have h1 := cntR_le zs 12
  have h2 := cntR_le zs 8
  have h3 := cntR_le zs 11
  have h4 := cntR_le zs 10
  have h5 := cntR_le zs 9
  unfold doneP
  repeat' split
  all_goals omega
theorem doneP_start (zs : List Int) : doneP zs (Maps.has ptMap) = 0 := by
  unfold doneP
  rw [if_pos (by rfl), if_pos (by rfl), if_pos (by rfl), if_pos (by rfl), if_pos (by rfl)]; rfl
theorem doneP_end (zs : List Int) {left : Lit → Bool} (h : ∀ kl, left kl = false) : doneP zs left = pts zs := by
  rw [pts_cnt]; unfold doneP; simp [h]
theorem doneP_step (zs : List Int) {left : Lit → Bool} {x c : Int} (hx : left (.int .i64 x) = true) (hp : Maps.has ptMap (.int .i64 x) = true) (hat : ∀ zd, ptMap.atKey (.int .i64 x) zd = .lit (.int .i64 c)) :
    doneP zs (fun z => left z && !z.sameKey (.int .i64 x)) = doneP zs left + c * (cntR zs x : Int) ∧ 0 ≤ c ∧ c ≤ 11 := by
  have hh := hat (.lit (.int .i64 0))
  rcases has_pt hp with rfl | rfl | rfl | rfl | rfl
  · have e : (10 : Int) = c := by
      have h2 : (DataW.lit (.int .i64 10) : DataW Unit) = .lit (.int .i64 c) := hh
      simpa using h2
    subst e; unfold doneP; simp [Lit.sameKey, hx]; omega
  · have e : (2 : Int) = c := by
      have h2 : (DataW.lit (.int .i64 2) : DataW Unit) = .lit (.int .i64 c) := hh
      simpa using h2
    subst e; unfold doneP; simp [Lit.sameKey, hx]
  · have e : (3 : Int) = c := by
      have h2 : (DataW.lit (.int .i64 3) : DataW Unit) = .lit (.int .i64 c) := hh
      simpa using h2
    subst e; unfold doneP; simp [Lit.sameKey, hx]; omega
  · have e : (4 : Int) = c := by
      have h2 : (DataW.lit (.int .i64 4) : DataW Unit) = .lit (.int .i64 c) := hh
      simpa using h2
    subst e; unfold doneP; simp [Lit.sameKey, hx]; omega
  · have e : (11 : Int) = c := by
      have h2 : (DataW.lit (.int .i64 11) : DataW Unit) = .lit (.int .i64 c) := hh
      simpa using h2
    subst e; unfold doneP; simp [Lit.sameKey, hx]; omega

set_option maxRecDepth 100000 in
set_option maxHeartbeats 1000000 in
theorem points_any (v : Value) (zs : List Int) (b : Nat) (w : World) (h : RdAt .i64 w v zs b) (hl : zs.length ≤ 1099511627776) :
    Calls Tryd.prog 80 #[v] w fun e w' => e = .returned (.int .i64 (pts zs)) ∧ Below w.heap.size w w' := by
  have HC : Hid (∀ wx t, Below w.heap.size w wx → Calls Tryd.prog 105 #[v, .int .i64 t] wx fun e w' => e = .returned (.int .i64 (cntR zs t)) ∧ Below wx.heap.size wx w') := Lib.hid (fun wx t hb => countRank_any v zs b t wx (h.below hb) hl)
  obtain ⟨p0, cap0, rfl, -⟩ := id h
  have hmm := @run_makeMap Tryd.prog
  have law : Keyed Tryd.prog 3 := int_keyed Tryd.underlying3
  have hown0 := World.ownsMap_made (H := Unit) w Tryd.prog 3 (plainElem Tryd.prog 3)
  have B0 : Below w.heap.size w (w.alloc (.map #[] 0)) := (Below.refl _ _).alloc (Nat.le_refl _) _
  obtain ⟨n, hn⟩ : ∃ n, n = zs.length := ⟨_, rfl⟩
  have Hn := Lib.hid hn
  rw [← hn] at hl HC ⊢
  clear h hn
  go_enter Tryd.func80, Tryd.ntmps80
  go_wp2_with (first
    | (refine wpList_insert_own _ rfl _ _ _ 103 rfl 3 3 law Tryd.underlying103 _ w.heap.size _ _ rfl (by assumption) (by first | decide | (unfold maxLen; omega)) _ _ _ rfl rfl (keyOf_int_mk Tryd.underlying3 (WalkArith.wf_i64 (by omega))) _ [] (plainElem_int Tryd.underlying3 (WalkArith.wf_i64 (by omega))) ?_; intro w1 hown1 hgrow1; have B1 := below_touch (by assumption : Below w.heap.size w _) hgrow1 (Nat.le_refl _))
    | (at_range; refine wpList_range_own _ rfl _ 103 rfl 3 3 law Tryd.underlying103 _ w.heap.size _ _ rfl (by assumption) ?_; intro w0 hrg0 hg0 hs0)
    | go_in)
  have B2 := below_touch B1 (hg0.but (some w.heap.size)) (Nat.le_refl _)
  obtain ⟨r, hr⟩ : ∃ r, r = w1.heap.size := ⟨_, rfl⟩
  rw [← hr] at hrg0 ⊢
  have hrg : w0.ranges Tryd.prog 3 (plainElem Tryd.prog 3) w.heap.size r (0 + 1 + 1 + 1 + 1 + 1) ptMap (Maps.has ptMap) (Maps.size ptMap) := hrg0
  have hrs : w.heap.size ≤ r := by rw [hr]; exact B1.size
  clear hrg0 hr hs0 hg0
  clear hown0
  go_frame
  go_loopw [4, 5, 6] (fun t _ _ wr => ∃ (left : Lit → Bool) (cnt : Nat) (x : Int), t = .int .i64 x ∧ Hid (x = doneP zs left) ∧ Hid (∀ z, left z = true → Maps.has ptMap z = true) ∧ wr.ranges Tryd.prog 3 (plainElem Tryd.prog 3) w.heap.size r (0 + 1 + 1 + 1 + 1 + 1) ptMap left cnt ∧ Below w.heap.size w wr) (fun _ _ _ wr => wr.rangeLeft w.heap.size r)
  case atStart => exact ⟨_, _, 0, rfl, Lib.hid (doneP_start zs).symm, Lib.hid (fun z h => h), hrg, B2⟩
  case round =>
    clear hrg B2 B1 hgrow1 hown1
    obtain ⟨left, cnt, x, rfl, hx, hh, hrg, B⟩ := hrel
    have hbx := doneP_bd zs left
    rw [← hx.out, ← Hn.out] at hbx
    obtain ⟨hb0, hb1⟩ := hbx
    go_wp2_with (first
      | (at_next; refine wpList_next_ranges_ii _ rfl _ rfl 3 3 .i64 .i64 law Tryd.underlying3 Tryd.underlying3 w.heap.size r (0 + 1 + 1 + 1 + 1 + 1) _ _ _ rfl hrg ?_ ?_)
      | go_in)
    · intro _ hl0
      have hr1 : Hid (x = pts zs) := Lib.hid (by rw [hx.out]; exact doneP_end zs hl0)
      clear hl0 hrg hh hx
      go_wp2_with fail
      go_ret
      exact ⟨by rw [← hr1.out]; rfl, B⟩
    · intro y c w1 cnt1 hwy hwc hly hat hrg1 hlt hg1 hs1 hen
      have hB1 : Below w.heap.size w w1 := below_touch B hg1 hrs
      obtain ⟨hd1, hc0, hc1⟩ := doneP_step zs hly (hh.out _ hly) hat
      have hk := cntR_le zs y
      rw [← Hn.out] at hk
      have HC1 := HC.out w1 y hB1
      rw [← hx.out] at hd1
      obtain ⟨K, hK⟩ : ∃ K, K = cntR zs y := ⟨_, rfl⟩
      rw [← hK] at hk hd1 HC1
      have hp0 : 0 ≤ c * (K : Int) := Int.mul_nonneg hc0 (by omega)
      have hp1 : c * (K : Int) ≤ 11 * (K : Int) := Int.mul_le_mul_of_nonneg_right hc1 (by omega)
      have HC1 := Lib.hid HC1
      have hd2 : Hid (x + c * (K : Int) = doneP zs (fun z => left z && !z.sameKey (.int .i64 y))) := Lib.hid hd1.symm
      have hh2 : Hid (∀ z, (left z && !z.sameKey (.int .i64 y)) = true → Maps.has ptMap z = true) := Lib.hid (fun z hz => hh.out z (by simp at hz; exact hz.1))
      have Hlt := Lib.hid hlt
      have hleq := Lib.hid hrg.left_eq
      clear hly hat hd1 hK hrg B hg1 hs1 hlt hwy hwc
      go_wp2_with fail
      refine HC1.out.mono ?_
      rintro e w2 ⟨rfl, B4⟩
      have hrg2 := hrg1.kept (row := none) ⟨B4.os, B4.tape, B4.output, B4.size, fun i hi _ => B4.block i hi⟩ (by simp) (by simp)
      have B := hB1.trans (B4.mono hB1.size)
      clear hrg1 B4 HC1 hen hB1
      go_wp2_with fail
      go_roundw
      case rel => exact ⟨_, cnt1, x + c * (K : Int), rfl, hd2, hh2, hrg2, B⟩
      case measure => rw [hrg2.left_eq, hleq.out]; exact Hlt.out

set_option maxRecDepth 100000 in
set_option maxHeartbeats 1000000 in
theorem sPoints_any (v : Value) (zs : List Int) (b : Nat) (w : World) (h : RdAt .i64 w v zs b) (hl : zs.length ≤ 1099511627776) :
    Calls Tryd.prog 53 #[v] w fun e w' => e = .returned (.int .i64 (pts zs)) ∧ w = w' := by
  obtain ⟨a, cap, rfl, -, -, hcell⟩ := h
  obtain ⟨n, hn⟩ : ∃ n, n = zs.length := ⟨_, rfl⟩
  have Hn := Lib.hid hn
  rw [← hn] at hl ⊢
  clear hn
  go_enter Tryd.func53, Tryd.ntmps53
  go_wp2_with fail
  go_loop [3, 4] (fun t i => ∃ (k : Nat) (x : Int), k ≤ n ∧ i = .int .i64 k ∧ t = .int .i64 x ∧ Hid (x = pts (zs.take k))) (fun _ i => n - (intOf i).toNat)
  case atStart => exact ⟨0, 0, Nat.zero_le _, rfl, rfl, Lib.hid rfl⟩
  case round =>
    obtain ⟨k, x, hk, rfl, rfl, hx⟩ := hrel
    have hpb := pts_bd (zs.take k)
    rw [← hx.out, List.length_take, ← Hn.out] at hpb
    have hpb0 := hpb.1
    have hpb1 : x ≤ 11 * (n : Int) := by have := hpb.2; omega
    clear hpb
    by_cases hlt : k < n
    · have hz : k < zs.length := by rw [← Hn.out]; exact hlt
      rcases hcell with h0 | ⟨off, rfl, hc⟩
      · subst h0; simp at hz
      obtain ⟨y, hy⟩ : ∃ y, Hid (y = zs[k]) := ⟨_, Lib.hid rfl⟩
      have hyd : Hid (zs.getD k 0 = y) := Lib.hid (by rw [hy.out]; simp [List.getD, hz])
      have h1 : w.cell? ⟨b, off + k, none⟩ = some (.int .i64 y) := by rw [hc k hz, hy.out]
      have hstep := pts_take zs k hz
      clear hc
      by_cases h12 : rankOf y = 12
      · have HU : Hid (rankOf y = 12) := Lib.hid h12
        have hv : Hid (x + 11 = pts (zs.take (k + 1))) := Lib.hid (by rw [hstep, hyd.out, ← hx.out]; unfold valT; rw [HU.out]; rfl)
        clear hstep
        go_wp2_with fail
        refine (sRankOf_r _ _ _ HU.out).mono ?_
        rintro e _w ⟨rfl, rfl⟩
        go_wp2_with fail
        go_round
        case rel => exact ⟨k + 1, x + 11, by omega, by go_num, rfl, hv⟩
        case measure => simp [intOf]; omega
      by_cases h11 : rankOf y = 11
      · have HU : Hid (rankOf y = 11) := Lib.hid h11
        have hv : Hid (x + 4 = pts (zs.take (k + 1))) := Lib.hid (by rw [hstep, hyd.out, ← hx.out]; unfold valT; rw [HU.out]; rfl)
        clear hstep
        go_wp2_with fail
        refine (sRankOf_r _ _ _ HU.out).mono ?_
        rintro e _w ⟨rfl, rfl⟩
        go_wp2_with fail
        go_round
        case rel => exact ⟨k + 1, x + 4, by omega, by go_num, rfl, hv⟩
        case measure => simp [intOf]; omega
      by_cases h10 : rankOf y = 10
      · have HU : Hid (rankOf y = 10) := Lib.hid h10
        have hv : Hid (x + 3 = pts (zs.take (k + 1))) := Lib.hid (by rw [hstep, hyd.out, ← hx.out]; unfold valT; rw [HU.out]; rfl)
        clear hstep
        go_wp2_with fail
        refine (sRankOf_r _ _ _ HU.out).mono ?_
        rintro e _w ⟨rfl, rfl⟩
        go_wp2_with fail
        go_round
        case rel => exact ⟨k + 1, x + 3, by omega, by go_num, rfl, hv⟩
        case measure => simp [intOf]; omega
      by_cases h9 : rankOf y = 9
      · have HU : Hid (rankOf y = 9) := Lib.hid h9
        have hv : Hid (x + 2 = pts (zs.take (k + 1))) := Lib.hid (by rw [hstep, hyd.out, ← hx.out]; unfold valT; rw [HU.out]; rfl)
        clear hstep
        go_wp2_with fail
        refine (sRankOf_r _ _ _ HU.out).mono ?_
        rintro e _w ⟨rfl, rfl⟩
        go_wp2_with fail
        go_round
        case rel => exact ⟨k + 1, x + 2, by omega, by go_num, rfl, hv⟩
        case measure => simp [intOf]; omega
      by_cases h8 : rankOf y = 8
      · have HU : Hid (rankOf y = 8) := Lib.hid h8
        have hv : Hid (x + 10 = pts (zs.take (k + 1))) := Lib.hid (by rw [hstep, hyd.out, ← hx.out]; unfold valT; rw [HU.out]; rfl)
        clear hstep
        go_wp2_with fail
        refine (sRankOf_r _ _ _ HU.out).mono ?_
        rintro e _w ⟨rfl, rfl⟩
        go_wp2_with fail
        go_round
        case rel => exact ⟨k + 1, x + 10, by omega, by go_num, rfl, hv⟩
        case measure => simp [intOf]; omega
      obtain ⟨u, hu⟩ : ∃ u, rankOf y = u := ⟨_, rfl⟩
      have HU := Lib.hid hu
      have hv : Hid (x = pts (zs.take (k + 1))) := Lib.hid (by rw [hstep, hyd.out, ← hx.out]; unfold valT; simp [h12, h11, h10, h9, h8])
      have q12 : (u == 12) = false := by rw [hu] at h12; simpa using h12
      have q11 : (u == 11) = false := by rw [hu] at h11; simpa using h11
      have q10 : (u == 10) = false := by rw [hu] at h10; simpa using h10
      have q9 : (u == 9) = false := by rw [hu] at h9; simpa using h9
      have q8 : (u == 8) = false := by rw [hu] at h8; simpa using h8
      clear h12 h11 h10 h9 h8 hu hstep
      go_wp2_with fail
      refine (sRankOf_r _ _ _ HU.out).mono ?_
      rintro e _w ⟨rfl, rfl⟩
      go_wp2_with fail
      go_round
      case rel => exact ⟨k + 1, x, by omega, by go_num, rfl, hv⟩
      case measure => simp [intOf]; omega
    · obtain rfl : k = n := by omega
      have hv : Hid (x = pts zs) := Lib.hid (by rw [hx.out, List.take_of_length_le (by rw [Hn.out]; exact Nat.le_refl _)])
      go_wp2_with fail
      go_ret
      exact ⟨by rw [← hv.out]; rfl, rfl⟩
end Go.Proofs.YtbojhbhniollaaaDoor
