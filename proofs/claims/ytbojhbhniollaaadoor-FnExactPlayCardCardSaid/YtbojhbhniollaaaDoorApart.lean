/-
  AllApart by contract, both sides.
-/
import Derived.Test.YtbojhbhniollaaaDoorSetOf
import Derived.Test.YtbojhbhniollaaaDoorIntRows
namespace Go.Proofs.YtbojhbhniollaaaDoor
open Go.RowKit

def apart (zss : List (List Int)) : Bool := isHand zss.flatten
theorem flat_take (zss : List (List Int)) (k : Nat) (h : k < zss.length) : (zss.take (k + 1)).flatten = (zss.take k).flatten ++ zss[k] := by
  rw [List.take_succ_eq_append_getElem h, List.flatten_append]; simp
theorem flat_pre (zss : List (List Int)) (k : Nat) : zss.flatten = (zss.take k).flatten ++ (zss.drop k).flatten := by
  rw [← List.flatten_append, List.take_append_drop]
theorem flat_len (zss : List (List Int)) : zss.flatten.length = sumLen zss := by unfold sumLen; rw [List.length_flatten]
theorem apart_no {zss : List (List Int)} {k : Nat} (h : isHand (zss.take k).flatten = false) : apart zss = false := by
  unfold apart; rw [flat_pre zss k]; exact isHand_pre h

set_option maxRecDepth 100000 in
set_option maxHeartbeats 1000000 in
theorem allApart_big (v : Value) (zss : List (List Int)) (w : World) (h : RdRows .i64 w v zss) (hl : zss.length ≤ 1048576) (hl2 : sumLen zss ≤ 4194304) :
    Calls Tryd.prog 62 #[v] w fun e w' => e = .returned (.bool (apart zss)) ∧ Below w.heap.size w w' := by
  have hrow := fun wx (hb : Below w.heap.size w wx) j (hj : j < zss.length) => (h.below hb).row hj
  obtain ⟨a, cap, rfl, -, -⟩ := id h
  obtain ⟨n, hn⟩ : ∃ n, n = zss.length := ⟨_, rfl⟩
  have Hn := Lib.hid hn
  have Hrow := Lib.hid hrow
  have Hsum : Hid (∀ j (hj : j < zss.length), zss[j].length ≤ 4194304) := Lib.hid (fun j hj => Nat.le_trans (len_le_sum zss hj) hl2)
  rw [← hn] at hl ⊢
  clear hn hrow h hl2
  obtain ⟨r, hr⟩ : ∃ r, r = apart zss := ⟨_, rfl⟩
  have Hr := Lib.hid hr
  rw [← hr]
  clear hr
  go_enter Tryd.func62, Tryd.ntmps62
  go_wp2_with fail
  go_loopw [3, 5, 6, 9] (fun s _ _ i wr => ∃ (k x : Nat), k ≤ n ∧ i = .int .i64 k ∧ s = .int .u64 (x : Nat) ∧ Hid (x = setN (zss.take k).flatten) ∧ Hid (isHand (zss.take k).flatten = true) ∧ Below w.heap.size w wr) (fun _ _ _ i _ => n - (intOf i).toNat)
  case atStart => exact ⟨0, 0, Nat.zero_le _, rfl, rfl, Lib.hid rfl, Lib.hid rfl, Below.refl _ _⟩
  case round =>
    obtain ⟨k, x, hk, rfl, rfl, hx, hh, B⟩ := hrel
    by_cases hlt : k < n
    · have hz : k < zss.length := by rw [← Hn.out]; exact hlt
      obtain ⟨blk, off, cap', p, c, b, hv, hc, hr, -⟩ := Hrow.out wr B k hz
      have ha := (Value.slice.inj hv).1
      clear hv
      subst ha
      have hsm := Hsum.out k hz
      have HS := Lib.hid (setOf_any _ _ b wr hr (by omega))
      have HI := isHand_any _ _ b wr hr (by omega)
      have hft := flat_take zss k hz
      obtain ⟨zs, hzs⟩ : ∃ zs, zs = zss[k]'hz := ⟨_, rfl⟩
      rw [← hzs] at hc HS HI hft
      obtain ⟨m, hm⟩ : ∃ m, m = zs.length := ⟨_, rfl⟩
      rw [← hm] at hc HS HI
      have hap := isHand_app (B := zs) hh.out
      rw [← hft, ← hx.out] at hap
      have hor := bits_or (setN_lt (zss.take k).flatten) (setN_lt zs)
      have hand := bits_and (setN_lt (zss.take k).flatten) (setN_lt zs)
      rw [← hx.out] at hor hand
      have hx2 : Hid (x ||| setN zs = setN (zss.take (k + 1)).flatten) := Lib.hid (by rw [hft, setN_app, ← hx.out])
      clear hr hsm hzs hm hft
      cases e1 : isHand zs with
      | false =>
        rw [e1] at hap HI
        have hr1 : Hid (r = false) := Lib.hid (by rw [Hr.out]; exact apart_no (k := k + 1) (by rw [hap]; rfl))
        have HI := Lib.hid HI
        generalize setN zs = q at *
        clear hap hor hand e1
        go_wp2_with fail
        refine HS.out.mono ?_
        rintro e _w ⟨rfl, rfl⟩
        go_wp2_with fail
        refine HI.out.mono ?_
        rintro e w1 ⟨rfl, B1⟩
        replace B := B.trans (B1.mono B.size)
        go_wp2_with fail
        go_ret
        exact ⟨by rw [hr1.out]; rfl, B⟩
      | true =>
        rw [e1] at hap HI
        have HI := Lib.hid HI
        by_cases e2 : x &&& setN zs = 0
        · have hh2 : Hid (isHand (zss.take (k + 1)).flatten = true) := Lib.hid (by rw [hap, e2]; rfl)
          have hq : (((x &&& setN zs : Nat) : Int) != 0) = false := by rw [e2]; rfl
          generalize setN zs = q at *
          generalize x ||| q = y at *
          generalize x &&& q = z at *
          clear hap e1 e2
          go_wp2_with fail
          refine HS.out.mono ?_
          rintro e _w ⟨rfl, rfl⟩
          go_wp2_with fail
          refine HI.out.mono ?_
          rintro e w1 ⟨rfl, B1⟩
          replace B := B.trans (B1.mono B.size)
          clear B1 HI HS
          go_wp2_with fail
          go_roundw
          case rel => exact ⟨k + 1, y, by omega, by go_num, rfl, hx2, hh2, B⟩
          case measure => simp [intOf]; omega
        · have hr1 : Hid (r = false) := Lib.hid (by rw [Hr.out]; exact apart_no (k := k + 1) (by rw [hap, decide_eq_false e2]; rfl))
          have hq : (((x &&& setN zs : Nat) : Int) != 0) = true := by simp only [bne_iff_ne, ne_eq]; omega
          generalize setN zs = q at *
          generalize x &&& q = z at *
          clear hap hor e1 e2
          go_wp2_with fail
          refine HS.out.mono ?_
          rintro e _w ⟨rfl, rfl⟩
          go_wp2_with fail
          refine HI.out.mono ?_
          rintro e w1 ⟨rfl, B1⟩
          replace B := B.trans (B1.mono B.size)
          go_wp2_with fail
          go_ret
          exact ⟨by rw [hr1.out]; rfl, B⟩
    · obtain rfl : k = n := by omega
      have hr1 : Hid (r = true) := Lib.hid (by
        rw [Hr.out]; unfold apart
        have := hh.out
        rwa [List.take_of_length_le (by rw [Hn.out]; exact Nat.le_refl _)] at this)
      go_wp2_with fail
      go_ret
      exact ⟨by rw [hr1.out]; rfl, B⟩

set_option maxRecDepth 100000 in
set_option maxHeartbeats 1000000 in
theorem sAllApart_big (v : Value) (zss : List (List Int)) (w : World) (h : RdRows .i64 w v zss) (hl : zss.length ≤ 1048576) (hl2 : sumLen zss ≤ 4194304) :
    Calls Tryd.prog 60 #[v] w fun e w' => e = .returned (.bool (apart zss)) ∧ Below w.heap.size w w' := by
  obtain ⟨i0, hi, hz0, hz1, hz2⟩ := info_parts info_i64
  have hrow := fun wx (hb : Below w.heap.size w wx) j (hj : j < zss.length) => (h.below hb).row hj
  obtain ⟨a, cap, rfl, -, -⟩ := id h
  obtain ⟨n, hn⟩ : ∃ n, n = zss.length := ⟨_, rfl⟩
  have Hn := Lib.hid hn
  have Hrow := Lib.hid hrow
  have Hft : Hid (∀ k (hk : k < zss.length), (zss.take (k + 1)).flatten = (zss.take k).flatten ++ zss[k] ∧ (zss.take k).flatten.length + zss[k].length ≤ 4194304) := Lib.hid (fun k hk => by
    have h1 := flat_take zss k hk
    have h2 := flat_len (zss.take (k + 1))
    have h3 := sumLen_take_le zss (k + 1)
    rw [h1, List.length_append] at h2
    exact ⟨h1, by omega⟩)
  have Hwf : Hid (∀ x ∈ zss.flatten, (Lit.int .i64 x).wf = true) := Lib.hid (fun x hx => by
    obtain ⟨zs, h1, h2⟩ := List.mem_flatten.1 hx
    obtain ⟨j, hj, rfl⟩ := List.getElem_of_mem h1
    obtain ⟨_, _, _, _, _, b, _, _, hr, _⟩ := h.row hj
    exact hr.wf x h2)
  have Hsl : Hid (zss.flatten.length ≤ 4194304) := Lib.hid (by rw [flat_len]; exact hl2)
  rw [← hn] at hl ⊢
  clear hn hrow h hl2
  go_enter Tryd.func60, Tryd.ntmps60
  go_wp2_with fail
  have hown0 := World.ownsRow_lit (base := w.heap.size) (e := 3) (size := 1) w #[] 0 (Nat.le_refl _) (Nat.zero_le _) rfl
  go_loopw [3, 4] (fun o i wr => ∃ k : Nat, k ≤ n ∧ i = .int .i64 k ∧ Below w.heap.size w wr ∧ wr.ownsRow w.heap.size 3 1 o (zss.take k).flatten.length ((zss.take k).flatten.map (Value.int .i64))) (fun _ i _ => n - (intOf i).toNat)
  case atStart => exact ⟨0, Nat.zero_le _, rfl, (Below.refl _ _).alloc (Nat.le_refl _) _, hown0⟩
  case round =>
    clear hown0
    obtain ⟨k, hk, rfl, B, hown⟩ := hrel
    by_cases hlt : k < n
    · have hz : k < zss.length := by rw [← Hn.out]; exact hlt
      obtain ⟨blk, off, cap', p, c, b, hv, hc, hr, -⟩ := Hrow.out wr B k hz
      have ha := (Value.slice.inj hv).1
      clear hv
      subst ha
      obtain ⟨hft, hle⟩ := Hft.out k hz
      have Hf2 := Lib.hid hft
      generalize (zss.take k).flatten = F at *
      have hsz := B.size
      clear hft
      go_wp2_with (at_builtin; refine wpList_append_rd _ rfl _ _ 23 rfl w.heap.size 3 i0 (.int .i64 0) 8 Tryd.underlying23 hi hz0 hz1 hz2 rfl _ _ _ rfl hown .i64 _ (zss[k]'hz) b rfl hr ?f3 ?f4 ?f5 ?_)
      case f3 => unfold maxLen; omega
      case f4 => omega
      case f5 => exact hsz
      intro v6 w6 hown6 hgr
      have hB2 : Below w.heap.size w w6 := B.grown hgr hsz (own_block hown)
      have hown7 := own_app hown6
      rw [← Hf2.out] at hown7
      clear hown6 hgr hown hr hle B
      go_wp2_with fail
      go_roundw
      case rel => exact ⟨k + 1, by omega, by go_num, hB2, hown7⟩
      case measure => simp [intOf]; omega
    · obtain rfl : k = n := by omega
      rw [List.take_of_length_le (by rw [Hn.out]; exact Nat.le_refl _)] at hown
      obtain ⟨b', hb', hw'⟩ := own_wr hown Hwf.out
      have HI := Lib.hid (sIsHand_any _ _ b' wr hw'.rd (by have := Hsl.out; omega))
      clear hown hw'
      go_wp2_with fail
      refine HI.out.mono ?_
      rintro e w1 ⟨rfl, B1⟩
      replace B := B.trans (B1.mono B.size)
      go_wp2_with fail
      go_ret
      exact ⟨rfl, B⟩
theorem allApart_any (v : Value) (zss : List (List Int)) (w : World) (h : RdRows .i64 w v zss) (hl : zss.length ≤ 1048576) (hl2 : sumLen zss ≤ 1048576) :
    Calls Tryd.prog 62 #[v] w fun e w' => e = .returned (.bool (apart zss)) ∧ Below w.heap.size w w' := allApart_big v zss w h hl (by omega)
theorem sAllApart_any (v : Value) (zss : List (List Int)) (w : World) (h : RdRows .i64 w v zss) (hl : zss.length ≤ 1048576) (hl2 : sumLen zss ≤ 1048576) :
    Calls Tryd.prog 60 #[v] w fun e w' => e = .returned (.bool (apart zss)) ∧ Below w.heap.size w w' := sAllApart_big v zss w h hl (by omega)
end Go.Proofs.YtbojhbhniollaaaDoor
