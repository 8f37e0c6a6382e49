/-
  Contracts of the program's chapter 2: copyBytes, addVarint, AppendUvarint, AppendBytes, EncodeInts; the model's AppendBytes.
-/
import Derived.Test.YtjigglnepcabmaaModel02
namespace Go.Proofs.Ytjigglnepcabmaa
open Go.RowKit

theorem u8_or128 : ∀ x : Fin 256, bits .or .u8 (x.1 : Int) 128 = (x.1 : Int) % 128 + 128 := by decide +kernel
theorem inRange_any (n lo hi : Int) (w : World) (r : Bool) (hr : r = decide (lo ≤ n ∧ n ≤ hi)) :
    Calls Try.prog 71 #[.int .i64 n, .int .i64 lo, .int .i64 hi] w fun e w' => e = .returned (.bool r) ∧ w = w' := by
  by_cases h0 : lo ≤ n
  · by_cases h1 : n ≤ hi
    · have e : r = true := by rw [hr]; simp; omega
      subst e; clear hr
      go_enter Try.func71, Try.ntmps71
      go_wp2
      go_ret
      exact ⟨rfl, rfl⟩
    · have e : r = false := by rw [hr]; simp; omega
      have hd : decide (n ≤ hi) = false := by simp; omega
      subst e; clear hr
      go_enter Try.func71, Try.ntmps71
      go_wp2
      go_ret
      exact ⟨rfl, rfl⟩
  · have e : r = false := by rw [hr]; simp; omega
    subst e; clear hr
    go_enter Try.func71, Try.ntmps71
    go_wp2
    go_ret
    exact ⟨rfl, rfl⟩

set_option maxRecDepth 100000 in
set_option maxHeartbeats 1000000 in
theorem copyBytes_own (v : Value) (zs : List Int) (b : Nat) (w : World) (h : RdAt .u8 w v zs b) (hl : zs.length ≤ 1099511627776) :
    Calls Try.prog 65 #[v] w fun e w' => ∃ v', e = .returned v' ∧ w'.ownsRow w.heap.size 5 1 v' zs.length (zs.map (Value.int .u8)) ∧ Below w.heap.size w w' := by
  obtain ⟨i0, hi, hz0, hz1, hz2⟩ := info_parts info_u8
  have hown0 := World.ownsRow_lit (base := w.heap.size) (e := 5) (size := 1) w #[] 0 (Nat.le_refl _) (Nat.zero_le _) rfl
  have ha : RdAt .u8 (w.alloc (.cells #[] 5)) v zs b := h.below ((Below.refl _ _).alloc (Nat.le_refl _) _)
  obtain ⟨p0, cap0, hv0, -⟩ := id h
  go_enter Try.func65, Try.ntmps65
  subst hv0
  go_wp2_with (at_builtin; refine wpList_append_rd _ rfl _ _ 22 rfl w.heap.size 5 i0 (.int .u8 0) 1 Try.underlying22 hi hz0 hz1 hz2 rfl _ _ _ rfl hown0 .u8 _ zs b rfl ha ?d3 ?d4 (by simp) ?_)
  case d3 => unfold maxLen; omega
  case d4 => omega
  intro v1 w1 hown hgr
  have hb1 : Below w.heap.size w w1 := ((Below.refl _ _).alloc (Nat.le_refl _) _).grown hgr (by simp) (own_block hown0)
  try simp only [Nat.zero_add, List.nil_append] at hown
  clear hgr ha hown0
  go_wp2_with fail
  go_ret
  exact ⟨_, rfl, hown, hb1⟩

set_option maxRecDepth 100000 in
set_option maxHeartbeats 1000000 in
/-- B: where the caller's own blocks begin. -/
theorem addVarint_own (B : Nat) (v : Value) (zs : List Int) (c : Int) (w : World) (hown : w.ownsRow B 5 1 v zs.length (zs.map (Value.int .u8))) (hB : B ≤ w.heap.size) (hl : zs.length ≤ 1099511627770) (wc : (Lit.int .i64 c).wf = true) :
    Calls Try.prog 64 #[v, .int .i64 c] w fun e w' => ∃ v', e = .returned v' ∧ w'.ownsRow B 5 1 v' (putU zs c).length ((putU zs c).map (Value.int .u8)) ∧ Below B w w' := by
  obtain ⟨i0, hi, hz0, hz1, hz2⟩ := info_parts info_u8
  have bc := bounds_i64 wc
  by_cases hc : 0 ≤ c ∧ c ≤ 1000000000000
  · have hp : Hid (putU zs c = zs ++ uvar c.toNat) := Lib.hid (if_pos hc)
    obtain ⟨m, rfl⟩ := Int.eq_ofNat_of_zero_le hc.1
    go_enter Try.func64, Try.ntmps64
    go_wp2_with fail
    refine (inRange_any _ _ _ _ true (by simp; omega)).mono ?_
    rintro e _w ⟨rfl, rfl⟩
    go_wp2_with fail
    go_loopw [0, 1] (fun o n wr => ∃ (k : Nat) (F : List Int), n = .int .i64 k ∧ k ≤ 1000000000000 ∧ F.length ≤ zs.length + 64 ∧ F.length + (uvar k).length ≤ zs.length + 6 ∧ Hid (F ++ uvar k = zs ++ uvar m) ∧ Below B w wr ∧ B ≤ wr.heap.size ∧ wr.ownsRow B 5 1 o F.length (F.map (Value.int .u8))) (fun _ n _ => (intOf n).toNat)
    case atStart => exact ⟨m, zs, rfl, by omega, by omega, by have := uvar_len 5 m (by omega); omega, Lib.hid rfl, Below.refl _ _, hB, hown⟩
    case round =>
      clear hown
      obtain ⟨k, F, rfl, hk, hF1, hF2, hF, hb2, hsz, hown⟩ := hrel
      by_cases hbig : 127 < k
      · have e := uvar_big k (by omega)
        have hor : bits .or .u8 ((k : Int) % 256) 128 = (k : Int) % 128 + 128 := by
          have := u8_or128 ⟨k % 256, Nat.mod_lt _ (by decide)⟩
          simp only at this
          rw [show ((k % 256 : Nat) : Int) = (k : Int) % 256 by omega] at this
          rw [this]; omega
        rw [e] at hF2
        have ey : ((k % 128 + 128 : Nat) : Int) = (k : Int) % 128 + 128 := by omega
        have hF3 : Hid ((F ++ [(k : Int) % 128 + 128]) ++ uvar (k / 128) = zs ++ uvar m) := Lib.hid (by rw [← hF.out, e, ey]; simp)
        clear e ey
        simp only [List.length_cons] at hF2
        go_wp2_with (at_builtin; refine wpList_append_own _ rfl _ _ 22 rfl B 5 i0 (.int .u8 0) 1 1 Try.underlying22 hi hz0 hz1 hz2 rfl (by decide) _ _ _ rfl (hown.alloc _) ⟨wr.heap.size, 0, none⟩ 1 1 [.int .u8 ((k : Int) % 128 + 128)] rfl rfl (cell_one_new _ _ _) ?e2 ?e3 ?e4 (by simp; omega) ?_)
        case e2 => intro u hu; simp at hu; subst hu; rfl
        case e3 => unfold maxLen; omega
        case e4 => omega
        intro v2 w2 hown2 hgr2 _
        have hb3 : Below B w w2 := (hb2.alloc hsz _).grown hgr2 (by simp; omega) (own_block hown)
        have hsz2 : B ≤ w2.heap.size := Nat.le_trans hsz (by have := hgr2.size; simp at this; omega)
        have hown3 := own_snoc hown2
        clear hown2 hgr2 hown hb2 hor
        go_wp2_with fail
        go_roundw
        case rel => exact ⟨k / 128, _, by go_num, by omega, by simp; omega, by simp; omega, hF3, hb3, hsz2, hown3⟩
        case measure => simp [intOf]; omega
      · have e := uvar_small k (by omega)
        rw [e] at hF2
        have hfin : Hid (F ++ [(k : Int)] = putU zs m) := Lib.hid (by rw [hp.out, Int.toNat_natCast, ← hF.out, e])
        clear e
        simp only [List.length_cons, List.length_nil] at hF2
        go_wp2_with (at_builtin; refine wpList_append_own _ rfl _ _ 22 rfl B 5 i0 (.int .u8 0) 1 1 Try.underlying22 hi hz0 hz1 hz2 rfl (by decide) _ _ _ rfl (hown.alloc _) ⟨wr.heap.size, 0, none⟩ 1 1 [.int .u8 (k : Int)] rfl rfl (cell_one_new _ _ _) ?f2 ?f3 ?f4 (by simp; omega) ?_)
        case f2 => intro u hu; simp at hu; subst hu; rfl
        case f3 => unfold maxLen; omega
        case f4 => omega
        intro v2 w2 hown2 hgr2 _
        have hb3 : Below B w w2 := (hb2.alloc hsz _).grown hgr2 (by simp; omega) (own_block hown)
        have hown3 := own_snoc hown2
        rw [hfin.out] at hown3
        have hwr := Lib.hid hown3
        clear hown2 hgr2 hown hb2 hown3
        go_wp2_with fail
        go_ret
        exact ⟨_, rfl, hwr.out, hb3⟩
  · have hp : Hid (putU zs c = zs) := Lib.hid (if_neg hc)
    go_enter Try.func64, Try.ntmps64
    go_wp2_with fail
    refine (inRange_any _ _ _ _ false (by simp; omega)).mono ?_
    rintro e _w ⟨rfl, rfl⟩
    go_wp2_with fail
    go_ret
    exact ⟨_, rfl, by rw [hp.out]; exact hown, Below.refl _ _⟩

set_option maxRecDepth 100000 in
set_option maxHeartbeats 1000000 in
theorem appendUvarint_own (v : Value) (zs : List Int) (b : Nat) (c : Int) (w : World) (h : RdAt .u8 w v zs b) (hl : zs.length ≤ 1099511627770) (wc : (Lit.int .i64 c).wf = true) :
    Calls Try.prog 16 #[v, .int .i64 c] w fun e w' => ∃ v', e = .returned v' ∧ w'.ownsRow w.heap.size 5 1 v' (putU zs c).length ((putU zs c).map (Value.int .u8)) ∧ Below w.heap.size w w' := by
  go_enter Try.func16, Try.ntmps16
  go_wp2_with fail
  refine (copyBytes_own v zs b w h (by omega)).mono ?_
  rintro e w1 ⟨v1, rfl, hown, hb1⟩
  go_wp2_with fail
  refine (addVarint_own w.heap.size v1 zs c w1 hown hb1.size hl wc).mono ?_
  rintro e w2 ⟨v2, rfl, hown2, hb2⟩
  have hb3 := hb1.trans hb2
  clear hown hb1 hb2
  go_wp2_with fail
  go_ret
  exact ⟨_, rfl, hown2, hb3⟩
theorem appendUvarint_any (v : Value) (zs : List Int) (b : Nat) (c : Int) (w : World) (h : RdAt .u8 w v zs b) (hl : zs.length ≤ 1099511627770) (wc : (Lit.int .i64 c).wf = true) :
    Calls Try.prog 16 #[v, .int .i64 c] w fun e w' => ∃ v' b', e = .returned v' ∧ w.heap.size ≤ b' ∧ WrAt .u8 w' v' (putU zs c) b' ∧ Below w.heap.size w w' := by
  refine (appendUvarint_own v zs b c w h hl wc).mono ?_
  rintro e w' ⟨v', rfl, hown, hb⟩
  obtain ⟨b', hb', hw'⟩ := own_wr hown (putU_wf zs c h.wf)
  exact ⟨v', b', rfl, hb', hw', hb⟩

def putB (zs ys : List Int) : List Int := putU zs ys.length ++ ys
theorem putB_len (zs ys : List Int) : (putB zs ys).length ≤ zs.length + 6 + ys.length := by
  unfold putB
  have := putU_len zs ys.length
  simp; omega
theorem putB_wf (zs ys : List Int) (h : ∀ x ∈ zs, (Lit.int .u8 x).wf = true) (h2 : ∀ x ∈ ys, (Lit.int .u8 x).wf = true) : ∀ x ∈ putB zs ys, (Lit.int .u8 x).wf = true := by
  intro x hx
  rcases List.mem_append.1 hx with hx | hx
  · exact putU_wf zs _ h x hx
  · exact h2 x hx
set_option maxRecDepth 100000 in
set_option maxHeartbeats 1000000 in
theorem appendBytes_any (v : Value) (zs : List Int) (b : Nat) (v2 : Value) (ys : List Int) (b2 : Nat) (w : World) (h : RdAt .u8 w v zs b) (h2 : RdAt .u8 w v2 ys b2) (hl : zs.length ≤ 1048576) (hl2 : ys.length ≤ 1048576) :
    Calls Try.prog 22 #[v, v2] w fun e w' => ∃ v' b', e = .returned v' ∧ w.heap.size ≤ b' ∧ WrAt .u8 w' v' (putB zs ys) b' ∧ Below w.heap.size w w' := by
  obtain ⟨i0, hi, hz0, hz1, hz2⟩ := info_parts info_u8
  have hpwf := Lib.hid (putB_wf zs ys h.wf h2.wf)
  obtain ⟨p2, cap2, hv2, -⟩ := id h2
  have hlen := putU_len zs ys.length
  go_enter Try.func22, Try.ntmps22
  subst hv2
  go_wp2_with fail
  refine (appendUvarint_own v zs b ys.length w h (by omega) (WalkArith.wf_i64 (by omega))).mono ?_
  rintro e w1 ⟨v1, rfl, hown, hb1⟩
  have h3 := h2.below hb1
  go_wp2_with (at_builtin; refine wpList_append_rd _ rfl _ _ 22 rfl w.heap.size 5 i0 (.int .u8 0) 1 Try.underlying22 hi hz0 hz1 hz2 rfl _ _ _ rfl hown .u8 _ ys b2 rfl h3 ?d3 ?d4 hb1.size ?_)
  case d3 => unfold maxLen; omega
  case d4 => omega
  intro v3 w3 hown3 hgr
  have hb3 : Below w.heap.size w w3 := hb1.grown hgr hb1.size (own_block hown)
  have hwr := Lib.hid (own_wr (own_app hown3) hpwf.out)
  clear hgr hown3 hown h3 hb1
  go_wp2_with fail
  go_ret
  obtain ⟨b', hb', hw'⟩ := hwr.out
  exact ⟨_, b', rfl, hb', hw', hb3⟩
theorem encI_wf (zs : List Int) : ∀ x ∈ encI zs, (Lit.int .u8 x).wf = true := by
  unfold encI
  suffices h : ∀ (acc : List Int), (∀ x ∈ acc, (Lit.int .u8 x).wf = true) → ∀ x ∈ zs.foldl putU acc, (Lit.int .u8 x).wf = true from h [] (by simp)
  induction zs with
  | nil => intro acc h; exact h
  | cons z zs ih => intro acc h; exact ih _ (putU_wf acc z h)
set_option maxRecDepth 100000 in
set_option maxHeartbeats 1000000 in
theorem encodeInts_any (v : Value) (zs : List Int) (b : Nat) (w : World) (h : RdAt .i64 w v zs b) (hl : zs.length ≤ 137438953472) :
    Calls Try.prog 25 #[v] w fun e w' => ∃ v' b', e = .returned v' ∧ w.heap.size ≤ b' ∧ WrAt .u8 w' v' (encI zs) b' ∧ Below w.heap.size w w' := by
  have hwf := h.wf
  obtain ⟨a, cap, rfl, -, -, hcell⟩ := h
  obtain ⟨n, hn⟩ : ∃ n, n = zs.length := ⟨_, rfl⟩
  have Hn := Lib.hid hn
  rw [← hn] at hl ⊢
  clear hn
  go_enter Try.func25, Try.ntmps25
  go_wp2_with fail
  have hown0 := World.ownsRow_lit (base := w.heap.size) (e := 5) (size := 1) w #[] 0 (Nat.le_refl _) (Nat.zero_le _) rfl
  go_loopw [3, 9] (fun o i wr => ∃ (k : Nat), k ≤ n ∧ i = .int .i64 k ∧ Below w.heap.size w wr ∧ wr.ownsRow w.heap.size 5 1 o (encI (zs.take k)).length ((encI (zs.take k)).map (Value.int .u8))) (fun _ i _ => n - (intOf i).toNat)
  case atStart => exact ⟨0, Nat.zero_le _, rfl, (Below.refl _ _).alloc (Nat.le_refl _) _, hown0⟩
  case round =>
    clear hown0
    obtain ⟨k, hk, rfl, hb2, hown⟩ := hrel
    by_cases hlt : k < n
    · have hzl : k < zs.length := by rw [← Hn.out]; exact hlt
      rcases hcell with hz | ⟨off, rfl, hc⟩
      · subst hz; simp at hzl
      obtain ⟨y, hy⟩ : ∃ y, Hid (y = zs[k]) := ⟨_, Lib.hid rfl⟩
      have wy : (Lit.int .i64 y).wf = true := by rw [hy.out]; exact hwf _ (List.getElem_mem _)
      have hc1 : wr.cell? ⟨b, off + k, none⟩ = some (.int .i64 y) := by
        have h1 := hc k hzl
        rw [hb2.cell (World.block_lt_of_cell? _ _ h1), h1, hy.out]
      have hstep := encI_take zs k hzl
      rw [← hy.out] at hstep
      have Hstep := Lib.hid hstep
      have hlen := encI_len (zs.take k)
      have hlen2 : (encI (zs.take k)).length ≤ 1099511627770 := by
        rw [List.length_take] at hlen; omega
      clear hc hstep hlen
      go_wp2_with fail
      refine (addVarint_own w.heap.size _ _ y _ hown hb2.size hlen2 wy).mono ?_
      rintro e w2 ⟨v2, rfl, hown2, hb3⟩
      have hB := hb2.trans hb3
      clear hown hb2 hb3 hlen2
      go_wp2_with fail
      go_roundw
      case rel => exact ⟨k + 1, by omega, by go_num, hB, by rw [Hstep.out]; exact hown2⟩
      case measure => simp [intOf]; omega
    · obtain rfl : k = n := by omega
      have e : zs.take k = zs := List.take_of_length_le (by rw [Hn.out]; exact Nat.le_refl _)
      rw [e] at hown
      have hwr := Lib.hid (own_wr hown (encI_wf zs))
      clear hown
      go_wp2_with fail
      go_ret
      obtain ⟨b', hb', hw'⟩ := hwr.out
      exact ⟨_, b', rfl, hb', hw', hb2⟩
end Go.Proofs.Ytjigglnepcabmaa
