/-
  SeatsFor, both sides.
-/
import Derived.Test.YtjlcmocepnlibaaDoorSent
import Derived.Test.YtjlcmocepnlibaaDoorIn
import Derived.Test.YtjlcmocepnlibaaDoorMarksI
namespace Go.Proofs.YtjlcmocepnlibaaDoor
open Go.RowKit
set_option linter.unusedVariables false
set_option linter.unusedSimpArgs false

def seatsN (n : Nat) (r : Int) (k : Nat) : List Int := (List.range k).map fun (i : Nat) => ((i : Int) + r) % (n : Int)
theorem seatsN_len (n : Nat) (r : Int) (k : Nat) : (seatsN n r k).length = k := by simp [seatsN]
theorem seatsN_next (n : Nat) (r : Int) (k : Nat) : seatsN n r (k + 1) = seatsN n r k ++ [((k : Int) + r) % (n : Int)] := by
  unfold seatsN; rw [List.range_succ, List.map_append]; rfl
def seatsI (p r : Int) : List Int := if 2 ≤ p ∧ p ≤ 6 ∧ 0 ≤ r ∧ r ≤ 1000 then seatsN p.toNat r p.toNat else []
theorem seatsI_len (p r : Int) : (seatsI p r).length ≤ 6 := by
  unfold seatsI
  split
  · rw [seatsN_len]; omega
  · simp
theorem seatsI_in {n : Nat} {r : Int} (h : 2 ≤ n ∧ n ≤ 6 ∧ 0 ≤ r ∧ r ≤ 1000) : seatsI n r = seatsN n r n := by
  unfold seatsI; rw [if_pos (by omega)]; simp
theorem seatsI_out {p r : Int} (h : ¬ (2 ≤ p ∧ p ≤ 6 ∧ 0 ≤ r ∧ r ≤ 1000)) : seatsI p r = [] := by unfold seatsI; rw [if_neg h]
theorem seats_wf {n : Nat} {r : Int} {k : Nat} (hn : 1 ≤ n) (hn2 : n ≤ 6) : ∀ x ∈ seatsN n r k, (Lit.int .i64 x).wf = true := by
  intro x hx
  obtain ⟨i, -, rfl⟩ := List.mem_map.1 hx
  have h1 := Int.emod_nonneg ((i : Int) + r) (show (n : Int) ≠ 0 by omega)
  have h2 := Int.emod_lt_of_pos ((i : Int) + r) (show 0 < (n : Int) by omega)
  exact WalkArith.wf_i64 (by omega)
set_option maxRecDepth 100000 in
set_option maxHeartbeats 1000000 in
theorem sSeatsFor_any (p r : Int) (w : World) :
    Calls Tryd.prog 8 #[.int .i64 p, .int .i64 r] w fun e w' => ∃ v' b', e = .returned v' ∧ w.heap.size ≤ b' ∧ WrAt .i64 w' v' (seatsI p r) b' ∧ Below w.heap.size w w' := by
  obtain ⟨i0, hi, hz0, hz1, hz2⟩ := info_parts info_i64
  have H1 := Lib.hid (fun wx => inM_any p 2 6 wx _ rfl)
  have H2 := Lib.hid (fun wx => inM_any r 0 1000 wx _ rfl)
  have hown0 := World.ownsRow_lit (base := w.heap.size) (e := 3) (size := 1) w #[] 0 (Nat.le_refl _) (Nat.zero_le _) rfl
  have HW0 := Lib.hid (own_wr (k := .i64) (zs := []) hown0 (fun x hx => by cases hx))
  have B0 : Below w.heap.size w (w.alloc (.cells #[] 3)) := (Below.refl _ _).alloc (Nat.le_refl _) _
  by_cases hin : 2 ≤ p ∧ p ≤ 6 ∧ 0 ≤ r ∧ r ≤ 1000
  case neg =>
    rw [seatsI_out hin]
    by_cases h0 : 0 < p
    · by_cases h1 : 2 ≤ p ∧ p ≤ 6
      · rw [decide_eq_true h1] at H1
        rw [decide_eq_false (show ¬ (0 ≤ r ∧ r ≤ 1000) by omega)] at H2
        clear hin h1 hown0
        go_enter Tryd.func8, Tryd.ntmps8
        go_wp2_with fail
        refine wp_loop_rounds 1 ?_
        rw [rounds_succ]
        go_wp2_with fail
        refine (H1.out _).mono ?_
        rintro e _w ⟨rfl, rfl⟩
        go_wp2_with fail
        refine (H2.out _).mono ?_
        rintro e _w ⟨rfl, rfl⟩
        go_wp2_with fail
        go_ret
        obtain ⟨b', hb', hw'⟩ := HW0.out
        first | exact ⟨_, b', rfl, hb', hw', B0⟩ | exact ⟨_, rfl, b', hb', hw', B0⟩
      · rw [decide_eq_false h1] at H1
        clear hin h1 hown0
        go_enter Tryd.func8, Tryd.ntmps8
        go_wp2_with fail
        refine wp_loop_rounds 1 ?_
        rw [rounds_succ]
        go_wp2_with fail
        refine (H1.out _).mono ?_
        rintro e _w ⟨rfl, rfl⟩
        go_wp2_with fail
        go_ret
        obtain ⟨b', hb', hw'⟩ := HW0.out
        first | exact ⟨_, b', rfl, hb', hw', B0⟩ | exact ⟨_, rfl, b', hb', hw', B0⟩
    · clear hin hown0
      go_enter Tryd.func8, Tryd.ntmps8
      go_wp2_with fail
      refine wp_loop_rounds 1 ?_
      rw [rounds_succ]
      go_wp2_with fail
      go_ret
      obtain ⟨b', hb', hw'⟩ := HW0.out
      first | exact ⟨_, b', rfl, hb', hw', B0⟩ | exact ⟨_, rfl, b', hb', hw', B0⟩
  obtain ⟨n, rfl⟩ : ∃ n : Nat, p = n := ⟨p.toNat, by omega⟩
  rw [decide_eq_true (show 2 ≤ (n : Int) ∧ (n : Int) ≤ 6 by omega)] at H1
  rw [decide_eq_true (show 0 ≤ r ∧ r ≤ 1000 by omega)] at H2
  rw [seatsI_in (by omega)]
  obtain ⟨g1, g2, g3, g4⟩ : 2 ≤ n ∧ n ≤ 6 ∧ 0 ≤ r ∧ r ≤ 1000 := by omega
  clear hin HW0
  go_enter Tryd.func8, Tryd.ntmps8
  go_wp2_with fail
  go_loopw [5, 6] (fun o i wr => ∃ k : Nat, k ≤ n ∧ i = .int .i64 k ∧ Below w.heap.size w wr ∧ wr.ownsRow w.heap.size 3 1 o k ((seatsN n r k).map (Value.int .i64))) (fun _ i _ => n - (intOf i).toNat)
  case atStart => exact ⟨0, Nat.zero_le _, rfl, B0, hown0⟩
  case round =>
    clear hown0 B0
    obtain ⟨k, hk, rfl, hb2, hown⟩ := hrel
    by_cases hlt : k < n
    · obtain ⟨y, hy⟩ : ∃ y, y = ((k : Int) + r) % (n : Int) := ⟨_, rfl⟩
      have hty : ((k : Int) + r).tmod (n : Int) = y := by rw [hy]; exact Int.tmod_eq_emod_of_nonneg (by omega)
      have hnext : Hid (seatsN n r (k + 1) = seatsN n r k ++ [y]) := Lib.hid (by rw [seatsN_next, hy])
      have hkr : IntKind.i64.wrap ((k : Int) + r) = (k : Int) + r := by rw [IntKind.wrap_i64]; omega
      have hy0 : 0 ≤ y := by rw [hy]; exact Int.emod_nonneg _ (by omega)
      have hy1 : y < n := by rw [hy]; exact Int.emod_lt_of_pos _ (by omega)
      have hn0 : ((n : Int) == 0) = false := by simp; omega
      have hsz := hb2.size
      have hln := seatsN_len n r k
      generalize seatsN n r k = F at *
      clear hy
      go_wp2_with fail
      refine (H1.out _).mono ?_
      rintro e _w ⟨rfl, rfl⟩
      go_wp2_with fail
      refine (H2.out _).mono ?_
      rintro e _w ⟨rfl, rfl⟩
      go_wp2_with (at_builtin; refine wpList_append_own _ rfl _ _ 24 rfl w.heap.size 3 i0 (.int .i64 0) 1 8 Tryd.underlying24 hi hz0 hz1 hz2 rfl (by decide) _ _ _ rfl (hown.alloc _) ⟨wr.heap.size, 0, none⟩ 1 1 [.int .i64 y] rfl rfl ?c1 ?c2 ?c3 ?c4 ?c5 ?_)
      case c1 => exact cell_one_new _ _ _
      case c2 => intro u hu; simp at hu; subst hu; rfl
      case c3 => unfold maxLen; omega
      case c4 => omega
      case c5 => simp; omega
      intro v' w1 hown' hgrow _
      have hb3 : Below w.heap.size w w1 := (hb2.alloc hsz _).grown hgrow (by simp; omega) (own_block hown)
      have hown2 : w1.ownsRow w.heap.size 3 1 v' (k + 1) ((F ++ [y]).map (Value.int .i64)) := by rw [List.map_append]; exact hown'
      clear hown' hgrow hown hb2
      go_wp2_with fail
      go_roundw
      case rel => exact ⟨k + 1, by omega, by go_num, hb3, by rw [hnext.out]; exact hown2⟩
      case measure => simp [intOf]; omega
    · obtain rfl : k = n := by omega
      have hwr := Lib.hid (own_wr (k := .i64) (zs := seatsN k r k) (by rw [seatsN_len]; exact hown) (seats_wf (by omega) (by omega)))
      clear hown
      go_wp2_with fail
      go_ret
      obtain ⟨b', hb', hw'⟩ := hwr.out
      exact ⟨_, b', rfl, hb', hw', hb2⟩
set_option maxRecDepth 100000 in
set_option maxHeartbeats 1000000 in
theorem seatsFor_any (a0 a1 : Addr) (p r : Int) (w : World) (hS : Sent a0 a1 w) :
    Calls Tryd.prog 9 #[.int .i64 p, .int .i64 r] w fun e w' => ∃ v' b', e = .returned v' ∧ w.heap.size ≤ b' ∧ WrAt .i64 w' v' (seatsI p r) b' ∧ Below w.heap.size w w' := by
  obtain ⟨i0, hi, hz0, hz1, hz2⟩ := info_parts info_i64
  have H1 := Lib.hid (fun wx => inR_any p 2 6 wx _ rfl)
  have H2 := Lib.hid (fun wx => inR_any r 0 1000 wx _ rfl)
  have hown0 := World.ownsRow_lit (base := w.heap.size) (e := 3) (size := 1) w #[] 0 (Nat.le_refl _) (Nat.zero_le _) rfl
  have HW0 := Lib.hid (own_wr (k := .i64) (zs := []) hown0 (fun x hx => by cases hx))
  have B0 : Below w.heap.size w (w.alloc (.cells #[] 3)) := (Below.refl _ _).alloc (Nat.le_refl _) _
  by_cases h1 : 2 ≤ p ∧ p ≤ 6
  case neg =>
    rw [seatsI_out (by omega)]
    rw [decide_eq_false h1] at H1
    clear h1 hown0 hS
    go_enter Tryd.func9, Tryd.ntmps9
    go_wp2_with fail
    refine (H1.out _).mono ?_
    rintro e _w ⟨rfl, rfl⟩
    go_wp2_with fail
    go_ret
    obtain ⟨b', hb', hw'⟩ := HW0.out
    first | exact ⟨_, b', rfl, hb', hw', B0⟩ | exact ⟨_, rfl, b', hb', hw', B0⟩
  rw [decide_eq_true h1] at H1
  by_cases h2 : 0 ≤ r ∧ r ≤ 1000
  case neg =>
    rw [seatsI_out (by omega)]
    rw [decide_eq_false h2] at H2
    clear h1 h2 hown0 hS
    go_enter Tryd.func9, Tryd.ntmps9
    go_wp2_with fail
    refine (H1.out _).mono ?_
    rintro e _w ⟨rfl, rfl⟩
    go_wp2_with fail
    refine (H2.out _).mono ?_
    rintro e _w ⟨rfl, rfl⟩
    go_wp2_with fail
    go_ret
    obtain ⟨b', hb', hw'⟩ := HW0.out
    first | exact ⟨_, b', rfl, hb', hw', B0⟩ | exact ⟨_, rfl, b', hb', hw', B0⟩
  rw [decide_eq_true h2] at H2
  obtain ⟨n, rfl⟩ : ∃ n : Nat, p = n := ⟨p.toNat, by omega⟩
  rw [seatsI_in (by omega)]
  obtain ⟨g1, g2, g3, g4⟩ : 2 ≤ n ∧ n ≤ 6 ∧ 0 ≤ r ∧ r ≤ 1000 := by omega
  have HM : Hid (∀ wx, Below w.heap.size w wx → ∀ k : Nat, k < n → Calls Tryd.prog 19 #[.int .i64 ((k : Int) + r), .int .i64 n] wx fun e w' => e = .returned (.int .i64 (((k : Int) + r) % (n : Int))) ∧ wx = w') := Lib.hid (fun wx bx k hk => by
    have := mod_any a0 a1 ((k : Int) + r) n wx (WalkArith.wf_i64 (by omega)) (hS.below bx (Nat.le_refl _))
    unfold modI at this
    rw [if_pos (by omega)] at this
    exact this)
  clear h1 h2 HW0 hS
  go_enter Tryd.func9, Tryd.ntmps9
  go_wp2_with fail
  refine (H1.out _).mono ?_
  rintro e _w ⟨rfl, rfl⟩
  go_wp2_with fail
  refine (H2.out _).mono ?_
  rintro e _w ⟨rfl, rfl⟩
  go_wp2_with fail
  go_loopw [5, 6, 18] (fun o _ i wr => ∃ k : Nat, k ≤ n ∧ i = .int .i64 k ∧ Below w.heap.size w wr ∧ wr.ownsRow w.heap.size 3 1 o k ((seatsN n r k).map (Value.int .i64))) (fun _ _ i _ => n - (intOf i).toNat)
  case atStart => exact ⟨0, Nat.zero_le _, rfl, B0, hown0⟩
  case round =>
    clear hown0 B0
    obtain ⟨k, hk, rfl, hb2, hown⟩ := hrel
    by_cases hlt : k < n
    · have HMk := Lib.hid (HM.out wr hb2 k hlt)
      obtain ⟨y, hy⟩ : ∃ y, y = ((k : Int) + r) % (n : Int) := ⟨_, rfl⟩
      rw [← hy] at HMk
      have hnext : Hid (seatsN n r (k + 1) = seatsN n r k ++ [y]) := Lib.hid (by rw [seatsN_next, hy])
      have hkr : IntKind.i64.wrap ((k : Int) + r) = (k : Int) + r := by rw [IntKind.wrap_i64]; omega
      have hsz := hb2.size
      have hln := seatsN_len n r k
      generalize seatsN n r k = F at *
      clear hy
      go_wp2_with fail
      refine HMk.out.mono ?_
      rintro e _w ⟨rfl, rfl⟩
      go_wp2_with (at_builtin; refine wpList_append_own _ rfl _ _ 24 rfl w.heap.size 3 i0 (.int .i64 0) 1 8 Tryd.underlying24 hi hz0 hz1 hz2 rfl (by decide) _ _ _ rfl (hown.alloc _) ⟨wr.heap.size, 0, none⟩ 1 1 [.int .i64 y] rfl rfl ?c1 ?c2 ?c3 ?c4 ?c5 ?_)
      case c1 => exact cell_one_new _ _ _
      case c2 => intro u hu; simp at hu; subst hu; rfl
      case c3 => unfold maxLen; omega
      case c4 => omega
      case c5 => simp; omega
      intro v' w1 hown' hgrow _
      have hb3 : Below w.heap.size w w1 := (hb2.alloc hsz _).grown hgrow (by simp; omega) (own_block hown)
      have hown2 : w1.ownsRow w.heap.size 3 1 v' (k + 1) ((F ++ [y]).map (Value.int .i64)) := by rw [List.map_append]; exact hown'
      clear hown' hgrow hown hb2
      go_wp2_with fail
      go_roundw
      case rel => exact ⟨k + 1, by omega, by go_num, hb3, by rw [hnext.out]; exact hown2⟩
      case measure => simp [intOf]; omega
    · obtain rfl : k = n := by omega
      have hwr := Lib.hid (own_wr (k := .i64) (zs := seatsN k r k) (by rw [seatsN_len]; exact hown) (seats_wf (by omega) (by omega)))
      clear hown
      go_wp2_with fail
      go_ret
      obtain ⟨b', hb', hw'⟩ := hwr.out
      exact ⟨_, b', rfl, hb', hw', hb2⟩
end Go.Proofs.YtjlcmocepnlibaaDoor
