/-
  RotateKinds, both sides.
-/
import Derived.Test.YtjlcmocepnlibaaDoorTwoV
import Derived.Test.YtjlcmocepnlibaaDoorIn
import Derived.Test.YtjlcmocepnlibaaDoorSent
import Derived.Deep.RegionLaw
import Derived.Deep.RegionHeld3
namespace Go.Proofs.YtjlcmocepnlibaaDoor
open Go.RowKit
set_option linter.unusedVariables false
set_option linter.unusedSimpArgs false

def rotI (zs : List Int) (n : Int) : List Int := if zs = [] ∨ n < 0 then [] else zs.drop (n % (zs.length : Int)).toNat ++ zs.take (n % (zs.length : Int)).toNat
theorem rotI_len (zs : List Int) (n : Int) : (rotI zs n).length ≤ zs.length := by
  unfold rotI
  split
  · simp
  · simp; omega
theorem rotI_wf {zs : List Int} {n : Int} (h : ∀ x ∈ zs, (Lit.int .i64 x).wf = true) : ∀ x ∈ rotI zs n, (Lit.int .i64 x).wf = true := by
  unfold rotI; split
  · intro x hx; cases hx
  · intro x hx
    rcases List.mem_append.1 hx with hx | hx
    · exact h x (List.mem_of_mem_drop hx)
    · exact h x (List.mem_of_mem_take hx)
theorem rotI_at {zs : List Int} {n : Int} {k : Nat} (h0 : zs ≠ []) (h1 : 0 ≤ n) (hk : n % (zs.length : Int) = k) : rotI zs n = zs.drop k ++ zs.take k := by
  unfold rotI; rw [if_neg (by intro h; rcases h with h | h; exact h0 h; omega), hk]; rfl
theorem own_baseR {w : World} {B B' : Nat} {E : TypeId} {n : Nat} {v : Value} {xs : List Value} (h : w.ownsRow B E 1 v n xs) (hb : B' ≤ B) : w.ownsRow B' E 1 v n xs := by
  obtain ⟨h1, h2⟩ := h
  refine ⟨h1, h2.imp id ?_⟩
  rintro ⟨g, cap, cur, e, hg, r⟩
  exact ⟨g, cap, cur, e, Nat.le_trans hb hg, r⟩
def rotN (zs : List Int) (f k : Nat) : List Int := (List.range k).map fun i => zs.getD ((f + i) % zs.length) 0
theorem rotN_len (zs : List Int) (f k : Nat) : (rotN zs f k).length = k := by simp [rotN]
theorem rotN_next (zs : List Int) (f k : Nat) : rotN zs f (k + 1) = rotN zs f k ++ [zs.getD ((f + k) % zs.length) 0] := by
  unfold rotN; rw [List.range_succ, List.map_append]; rfl
theorem rotN_all {zs : List Int} {f : Nat} (hf : f < zs.length) : rotN zs f zs.length = zs.drop f ++ zs.take f := by
  refine List.ext_getElem (by rw [rotN_len, List.length_append, List.length_drop, List.length_take]; omega) fun j h1 h2 => ?_
  have hj : j < zs.length := by rw [rotN_len] at h1; exact h1
  simp only [rotN, List.getElem_map, List.getElem_range]
  by_cases e : f + j < zs.length
  · rw [Nat.mod_eq_of_lt e, List.getElem_append_left (by rw [List.length_drop]; omega), List.getElem_drop]
    simp [List.getD, e]
  · have hm : (f + j) % zs.length = f + j - zs.length := by rw [Nat.mod_eq_sub_mod (by omega), Nat.mod_eq_of_lt (by omega)]
    rw [hm, List.getElem_append_right (by rw [List.length_drop]; omega), List.getElem_take]
    have hlt : f + j - zs.length < zs.length := by omega
    simp only [List.getD, List.getElem?_eq_getElem hlt, Option.getD_some, List.length_drop]
    congr 1
    omega
set_option maxRecDepth 100000 in
set_option maxHeartbeats 2000000 in
theorem rotateKinds_any (a0 a1 : Addr) (v : Value) (zs : List Int) (b : Nat) (c : Int) (w : World) (h : RdAt .i64 w v zs b) (hl : zs.length ≤ 1048576) (wc : (Lit.int .i64 c).wf = true) (hS : Sent a0 a1 w) :
    Calls Tryd.prog 15 #[v, .int .i64 c] w fun e w' => ∃ v' b', e = .returned v' ∧ w.heap.size ≤ b' ∧ WrAt .i64 w' v' (rotI zs c) b' ∧ Below w.heap.size w w' := by
  obtain ⟨i0, hi, hz0, hz1, hz2⟩ := info_parts info_i64
  have Hwf := Lib.hid (rotI_wf (n := c) h.wf)
  have hown0 := World.ownsRow_lit (base := w.heap.size) (e := 3) (size := 1) w #[] 0 (Nat.le_refl _) (Nat.zero_le _) rfl
  have HW0 := Lib.hid (own_wr (k := .i64) (zs := []) hown0 (fun x hx => by cases hx))
  have B0 : Below w.heap.size w (w.alloc (.cells #[] 3)) := (Below.refl _ _).alloc (Nat.le_refl _) _
  clear hown0
  by_cases hne0 : zs = []
  · subst hne0
    have e : rotI [] c = [] := by unfold rotI; rw [if_pos (.inl rfl)]
    rw [e]
    obtain ⟨a, cap, rfl, -⟩ := h
    clear e hS
    go_enter Tryd.func15, Tryd.ntmps15
    go_wp2_with fail
    go_ret
    obtain ⟨b', hb', hw'⟩ := HW0.out
    first | exact ⟨_, b', rfl, hb', hw', B0⟩ | exact ⟨_, rfl, b', hb', hw', B0⟩
  obtain ⟨n, hn⟩ : ∃ n, n = zs.length := ⟨_, rfl⟩
  have Hn := Lib.hid hn
  have hnpos : 0 < n := by rw [hn]; exact List.length_pos_iff.2 hne0
  have hq : ((n : Int) == 0) = false := by simp; omega
  by_cases hc0 : c < 0
  · have e : rotI zs c = [] := by unfold rotI; rw [if_pos (.inr hc0)]
    rw [e]
    obtain ⟨a, cap, rfl, -⟩ := h
    have hd : decide (c < 0) = true := by simp; exact hc0
    rw [← hn]
    clear e hS hn
    go_enter Tryd.func15, Tryd.ntmps15
    go_wp2_with fail
    go_ret
    obtain ⟨b', hb', hw'⟩ := HW0.out
    first | exact ⟨_, b', rfl, hb', hw', B0⟩ | exact ⟨_, rfl, b', hb', hw', B0⟩
  have hd : decide (c < 0) = false := by simp; omega
  have hm0 := Int.emod_nonneg c (show (n : Int) ≠ 0 by omega)
  have hm1 := Int.emod_lt_of_pos c (show 0 < (n : Int) by omega)
  obtain ⟨k, hk⟩ := Int.eq_ofNat_of_zero_le hm0
  have hkn1 : k < n := by omega
  have HI : Hid (Calls Tryd.prog 19 #[.int .i64 c, .int .i64 n] w fun e w' => e = .returned (.int .i64 k) ∧ w = w') := Lib.hid (by
    have := mod_any a0 a1 c n w wc hS
    unfold modI at this
    rw [if_pos (by omega), hk] at this
    exact this)
  have Hcut := Lib.hid (rotI_at (n := c) (k := k) hne0 (by omega) (by rw [← hn]; exact hk))
  clear hm0 hm1 hk hc0 HW0 hS B0
  rcases h.open with ⟨h0, -⟩ | ⟨hne, off, cap, rfl, hcap, hcell⟩
  · exact absurd h0 hne0
  have HC := Lib.hid (fun wx (hb : Below w.heap.size w wx) => h.below hb)
  have hcap2 : cap ≤ 9223372036854775807 := by have := hcap.2; unfold maxLen at this; omega
  have hnc : n ≤ cap := by omega
  have hkn : k ≤ n := by omega
  have hkc : k ≤ cap := by omega
  have Hcell := Lib.hid hcell
  have HCap := Lib.hid hcap
  rw [← hn] at hl ⊢
  have HCat := Lib.hid (catI_any (.slice (some ⟨b, off + k, none⟩) (n - k) (cap - k)) (.slice (some ⟨b, off, none⟩) k cap) ((zs.drop k).map (Value.int .i64)) ((zs.take k).map (Value.int .i64)) w.heap.size 0 2 (w.drew.alloc (.cells #[.slice (some ⟨b, off + k, none⟩) (n - k) (cap - k), .slice (some ⟨b, off, none⟩) k cap] 24)) ((by rw [Hn.out]; exact vals_drop HCap.out (show Cells .i64 _ b off zs by rcases (HC.out _ ((Below.refl w.heap.size w).drew.alloc (Nat.le_refl _) _)).open with ⟨h0, -⟩ | ⟨-, off2, cap2, hv, -, hc2⟩; exact absurd h0 hne; injection hv with e1; injection e1 with e1; injection e1 with e2 e3; subst e3; exact hc2) k (by have := Hn.out; omega))) (vals_take HCap.out (show Cells .i64 _ b off zs by rcases (HC.out _ ((Below.refl w.heap.size w).drew.alloc (Nat.le_refl _) _)).open with ⟨h0, -⟩ | ⟨-, off2, cap2, hv, -, hc2⟩; exact absurd h0 hne; injection hv with e1; injection e1 with e1; injection e1 with e2 e3; subst e3; exact hc2) k (by have := Hn.out; omega)) (two_c0 _ _ _ _) (two_c1 _ _ _ _) (Nat.le_refl _) (by simp; have := Hn.out; omega) (by simp; have := Hn.out; omega) int_one int_one)
  have HB0 : Hid (Below w.heap.size w w.drew) := Lib.hid (Below.refl _ _).drew
  have g1 : (0 : Int) ≤ (k : Int) := by omega
  have g2 : (k : Int) ≤ (n : Int) := by omega
  have g3 : (n : Int) ≤ (cap : Int) := by omega
  have g4 : (k : Int) ≤ (cap : Int) := by omega
  have hck : ¬ cap = k := by omega
  have hc0' : ¬ cap - k = 0 := by omega
  clear hcell hcap hn h hne hne0
  go_enter Tryd.func15, Tryd.ntmps15
  go_wp2_with fail
  refine HI.out.mono ?_
  rintro e _w ⟨rfl, rfl⟩
  go_wp2_with fail
  go_region_held3 (fun _ => True) (trivial) (first
    | (go_at_call 20; refine HCat.out.mono ?_; rintro e w4 ⟨v4, rfl, hown4, B4⟩))
  all_goals
    have hB4 := (HB0.out.alloc HB0.out.size _).trans (B4.mono (by simp))
    have hown5 : w4.ownsRow w.heap.size 3 1 v4 (rotI zs c).length ((rotI zs c).map (.int .i64)) := by
      rw [Hcut.out, List.length_append, List.map_append]
      have := own_baseR (B' := w.heap.size) hown4 (by simp)
      simpa using this
    obtain ⟨b', hb', hw'⟩ := own_wr hown5 Hwf.out
    clear hown4 hown5 B4
    go_wp2_with fail
    go_ret
    exact ⟨_, b', rfl, hb', hw', hB4⟩
set_option maxRecDepth 100000 in
set_option maxHeartbeats 2000000 in
theorem sRotateKinds_any (v : Value) (zs : List Int) (b : Nat) (c : Int) (w : World) (h : RdAt .i64 w v zs b) (hl : zs.length ≤ 1048576) (wc : (Lit.int .i64 c).wf = true) :
    Calls Tryd.prog 13 #[v, .int .i64 c] w fun e w' => ∃ v' b', e = .returned v' ∧ w.heap.size ≤ b' ∧ WrAt .i64 w' v' (rotI zs c) b' ∧ Below w.heap.size w w' := by
  obtain ⟨i0, hi, hz0, hz1, hz2⟩ := info_parts info_i64
  have Hwf := Lib.hid (rotI_wf (n := c) h.wf)
  have hown0 := World.ownsRow_lit (base := w.heap.size) (e := 3) (size := 1) w #[] 0 (Nat.le_refl _) (Nat.zero_le _) rfl
  have HW0 := Lib.hid (own_wr (k := .i64) (zs := []) hown0 (fun x hx => by cases hx))
  have B0 : Below w.heap.size w (w.alloc (.cells #[] 3)) := (Below.refl _ _).alloc (Nat.le_refl _) _
  have bc := bounds_i64 wc
  by_cases hz : zs = [] ∨ c < 0
  · have e : rotI zs c = [] := by unfold rotI; rw [if_pos hz]
    rw [e]
    obtain ⟨a, cap, rfl, -⟩ := h
    obtain ⟨n, hn⟩ : ∃ n, n = zs.length := ⟨_, rfl⟩
    have hz' : n = 0 ∨ c < 0 := by rcases hz with h0 | h0; left; rw [hn, h0]; rfl; right; exact h0
    rw [← hn] at hl ⊢
    clear e hn hz hown0
    by_cases h0 : n = 0
    · subst h0
      go_enter Tryd.func13, Tryd.ntmps13
      go_wp2_with fail
      refine wp_loop_rounds 1 ?_
      rw [rounds_succ]
      go_wp2_with fail
      go_ret
      obtain ⟨b', hb', hw'⟩ := HW0.out
      first | exact ⟨_, b', rfl, hb', hw', B0⟩ | exact ⟨_, rfl, b', hb', hw', B0⟩
    · have hd : decide (0 ≤ c) = false := by simp; omega
      have hpos : (0 : Int) < (n : Int) := by omega
      go_enter Tryd.func13, Tryd.ntmps13
      go_wp2_with fail
      refine wp_loop_rounds 1 ?_
      rw [rounds_succ]
      go_wp2_with fail
      go_ret
      obtain ⟨b', hb', hw'⟩ := HW0.out
      first | exact ⟨_, b', rfl, hb', hw', B0⟩ | exact ⟨_, rfl, b', hb', hw', B0⟩
  have hne0 : zs ≠ [] := fun e => hz (.inl e)
  have hc0 : 0 ≤ c := by by_cases e : c < 0; exact absurd (.inr e) hz; omega
  have hlt0 := h.lt
  obtain ⟨a, cap, rfl, -, -, hcell⟩ := h
  obtain ⟨n, hn⟩ : ∃ n, n = zs.length := ⟨_, rfl⟩
  have Hn := Lib.hid hn
  have hnpos : 0 < n := by rw [hn]; exact List.length_pos_iff.2 hne0
  have hm0 := Int.emod_nonneg c (show (n : Int) ≠ 0 by omega)
  have hm1 := Int.emod_lt_of_pos c (show 0 < (n : Int) by omega)
  obtain ⟨f, hf⟩ := Int.eq_ofNat_of_zero_le hm0
  have hfn : f < n := by omega
  have ht1 : c.tmod (n : Int) = (f : Int) := by rw [← hf]; exact Int.tmod_eq_emod_of_nonneg hc0
  have Hfin := Lib.hid (show rotI zs c = rotN zs f n by rw [rotI_at (n := c) hne0 hc0 (by rw [← hn]; exact hf), hn, rotN_all (by rw [← hn]; exact hfn)])
  have HCl : Hid (∀ wx, Below w.heap.size w wx → ∀ k, k < n → ∃ off, a = some ⟨b, off, none⟩ ∧ wx.cell? ⟨b, off + k, none⟩ = some (.int .i64 (zs.getD k 0))) := Lib.hid (fun wx hb k hk => by
    have hk : k < zs.length := by rw [← hn]; exact hk
    rcases hcell with h0 | ⟨off, e, hc⟩
    · subst h0; simp at hk
    · refine ⟨off, e, ?_⟩
      rw [hb.cell (hlt0 (by intro e; subst e; simp at hk)), hc k hk]
      simp [List.getD, hk])
  have hn0 : ((n : Int) == 0) = false := by simp; omega
  have hd0 : decide (0 ≤ c) = true := by simp; exact hc0
  have hmn : zs.length = n := hn.symm
  have Hmn := Lib.hid hmn
  rw [← hn] at hl ⊢
  clear hn hcell hlt0 hm0 hm1 hf HW0 hz hmn
  go_enter Tryd.func13, Tryd.ntmps13
  go_wp2_with fail
  go_loopw [5, 6] (fun o i wr => ∃ k : Nat, k ≤ n ∧ i = .int .i64 k ∧ Below w.heap.size w wr ∧ wr.ownsRow w.heap.size 3 1 o k ((rotN zs f k).map (Value.int .i64))) (fun _ i _ => n - (intOf i).toNat)
  case atStart => exact ⟨0, Nat.zero_le _, rfl, B0, hown0⟩
  case round =>
    clear hown0 B0
    obtain ⟨k, hk, rfl, hb2, hown⟩ := hrel
    by_cases hlt : k < n
    · obtain ⟨j, hj⟩ : ∃ j, j = (f + k) % n := ⟨_, rfl⟩
      have hjn : j < n := by rw [hj]; exact Nat.mod_lt _ hnpos
      have ht2 : ((f : Int) + (k : Int)).tmod (n : Int) = (j : Int) := by rw [Int.tmod_eq_emod_of_nonneg (by omega), hj, Int.natCast_emod, Int.natCast_add]
      obtain ⟨off, ha, hc⟩ := HCl.out wr hb2 j hjn
      subst ha
      obtain ⟨y, hy⟩ : ∃ y, y = zs.getD j 0 := ⟨_, rfl⟩
      rw [← hy] at hc
      have hnext : Hid (rotN zs f (k + 1) = rotN zs f k ++ [y]) := Lib.hid (by rw [rotN_next, Hmn.out, ← hj, hy])
      have hkr : IntKind.i64.wrap ((f : Int) + (k : Int)) = (f : Int) + (k : Int) := by rw [IntKind.wrap_i64]; omega
      have hwf1 : IntKind.i64.wrap (f : Int) = f := by rw [IntKind.wrap_i64]; omega
      have hwj1 : IntKind.i64.wrap (j : Int) = j := by rw [IntKind.wrap_i64]; omega
      have hj0 : (0 : Int) ≤ (j : Int) := by omega
      have hj1 : (j : Int) < (n : Int) := by omega
      have hsz := hb2.size
      generalize rotN zs f k = F at *
      have Hj := Lib.hid hj
      have Hy := Lib.hid hy
      clear hj hy
      go_wp2_with (at_builtin; refine wpList_append_own _ rfl _ _ 24 rfl w.heap.size 3 i0 (.int .i64 0) 1 8 Tryd.underlying24 hi hz0 hz1 hz2 rfl (by decide) _ _ _ rfl (hown.alloc _) ⟨wr.heap.size, 0, none⟩ 1 1 [.int .i64 y] rfl rfl ?c1 ?c2 ?c3 ?c4 ?c5 ?_)
      case c1 => exact cell_one_new _ _ _
      case c2 => intro u hu; simp at hu; subst hu; rfl
      case c3 => unfold maxLen; omega
      case c4 => omega
      case c5 => simp; omega
      intro v' w1 hown' hgrow _
      have hb3 : Below w.heap.size w w1 := (hb2.alloc hsz _).grown hgrow (by simp; omega) (own_block hown)
      have hown2 : w1.ownsRow w.heap.size 3 1 v' (k + 1) ((F ++ [y]).map (Value.int .i64)) := by rw [List.map_append]; exact hown'
      clear hown' hgrow hown hb2
      go_wp2_with fail
      go_roundw
      case rel => exact ⟨k + 1, by omega, by go_num, hb3, by rw [hnext.out]; exact hown2⟩
      case measure => simp [intOf]; omega
    · obtain rfl : k = n := by omega
      have hwr := Lib.hid (own_wr (k := .i64) (zs := rotI zs c) (by rw [Hfin.out, rotN_len]; exact hown) Hwf.out)
      clear hown
      go_wp2_with fail
      go_ret
      obtain ⟨b', hb', hw'⟩ := hwr.out
      exact ⟨_, b', rfl, hb', hw', hb2⟩
end Go.Proofs.YtjlcmocepnlibaaDoor
