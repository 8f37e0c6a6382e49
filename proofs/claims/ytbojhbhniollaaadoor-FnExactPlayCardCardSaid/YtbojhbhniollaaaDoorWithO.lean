/-
  Without, both sides: the list returned is the call's own.
-/
import Derived.Test.YtbojhbhniollaaaDoorWithout
import Derived.Test.YtbojhbhniollaaaDoorOwn
namespace Go.Proofs.YtbojhbhniollaaaDoor
open Go.RowKit
set_option linter.unusedVariables false
set_option linter.unusedSimpArgs false

set_option maxRecDepth 100000 in
set_option maxHeartbeats 400000 in
theorem sWithout_own (v : Value) (zs : List Int) (b : Nat) (c : Int) (w : World) (h : RdAt .i64 w v zs b) (hl : zs.length ≤ 1099511627776) :
    Calls Tryd.prog 51 #[v, .int .i64 c] w fun e w' => ∃ v', e = .returned v' ∧ OwnI (In w.heap.size w'.heap.size) w' v' (without zs c) ∧ Below w.heap.size w w' := by
  obtain ⟨i0, hi, hz0, hz1, hz2⟩ := info_parts info_i64
  obtain ⟨a, cap, rfl, -, hwf, hcell⟩ := h
  obtain ⟨n, hn⟩ : ∃ n, n = zs.length := ⟨_, rfl⟩
  have Hn := Lib.hid hn
  rw [← hn] at hl ⊢
  clear hn
  go_enter Tryd.func51, Tryd.ntmps51
  go_wp2_with fail
  have hown0 := World.ownsRow_lit (base := w.heap.size) (e := 3) (size := 1) w #[] 0 (Nat.le_refl _) (Nat.zero_le _) rfl
  go_loopw [5, 6] (fun o i wr => ∃ k : Nat, k ≤ n ∧ i = .int .i64 k ∧ Below w.heap.size w wr ∧ wr.ownsRow w.heap.size 3 1 o (without (zs.take k) c).length ((without (zs.take k) c).map (Value.int .i64))) (fun _ i _ => n - (intOf i).toNat)
  case atStart => exact ⟨0, Nat.zero_le _, rfl, (Below.refl _ _).alloc (Nat.le_refl _) _, hown0⟩
  case round =>
    clear hown0
    obtain ⟨k, hk, rfl, hb2, hown⟩ := hrel
    by_cases hlt : k < n
    · have hzl : k < zs.length := by rw [← Hn.out]; exact hlt
      rcases hcell with h0 | ⟨off, rfl, hc⟩
      · subst h0; simp at hzl
      obtain ⟨y, hy⟩ : ∃ y, Hid (y = zs[k]) := ⟨_, Lib.hid rfl⟩
      have hc1 : wr.cell? ⟨b, off + k, none⟩ = some (.int .i64 y) := by
        have h1 := hc k hzl
        rw [hb2.cell (World.block_lt_of_cell? _ _ h1), h1, hy.out]
      have hstep := without_take zs c k hzl
      rw [← hy.out] at hstep
      clear hc
      by_cases hyc : y = c
      · subst hyc
        have hq : (y != y) = false := by simp
        rw [hq] at hstep
        have hrel2 : Hid (without (zs.take (k + 1)) y = without (zs.take k) y) := Lib.hid (by rw [hstep]; simp)
        clear hstep
        go_wp2_with fail
        go_roundw
        case rel => exact ⟨k + 1, by omega, by go_num, hb2, by rw [hrel2.out]; exact hown⟩
        case measure => simp [intOf]; omega
      · have hq : (y != c) = true := by simpa using hyc
        rw [hq] at hstep
        have hrel2 : Hid (without (zs.take (k + 1)) c = without (zs.take k) c ++ [y]) := Lib.hid (by rw [hstep]; simp)
        have hle := without_le (zs.take k) c
        have hle2 : (without (zs.take k) c).length ≤ n := Nat.le_trans hle (by rw [List.length_take, Hn.out]; omega)
        clear hstep hyc hle
        generalize without (zs.take k) c = F at *
        have hsz := hb2.size
        go_wp2_with (at_builtin; refine wpList_append_own _ rfl _ _ 23 rfl w.heap.size 3 i0 (.int .i64 0) 1 8 Tryd.underlying23 hi hz0 hz1 hz2 rfl (by decide) _ _ _ rfl (hown.alloc _) ⟨wr.heap.size, 0, none⟩ 1 1 [.int .i64 y] rfl rfl ?c1 ?c2 ?c3 ?c4 ?c5 ?_)
        case c1 => exact cell_one_new _ _ _
        case c2 => intro u hu; simp at hu; subst hu; rfl
        case c3 => unfold maxLen; omega
        case c4 => omega
        case c5 => simp; omega
        intro v' w1 hown' hgrow _
        have hb3 : Below w.heap.size w w1 := (hb2.alloc hsz _).grown hgrow (by simp; omega) (own_block hown)
        have hown2 := own_snoc hown'
        clear hown' hgrow hown hb2
        go_wp2_with fail
        go_roundw
        case rel => exact ⟨k + 1, by omega, by go_num, hb3, by rw [hrel2.out]; exact hown2⟩
        case measure => simp [intOf]; omega
    · obtain rfl : k = n := by omega
      have e : zs.take k = zs := List.take_of_length_le (by rw [Hn.out]; exact Nat.le_refl _)
      rw [e] at hown
      have hwr := Lib.hid (OwnI.of hown (fun x hx => hwf x (List.mem_filter.1 hx).1))
      clear hown e
      go_wp2_with fail
      go_ret
      exact ⟨_, rfl, hwr.out, hb2⟩
set_option maxRecDepth 100000 in
set_option maxHeartbeats 400000 in
theorem without_own (v : Value) (zs : List Int) (b : Nat) (c : Int) (w : World) (h : RdAt .i64 w v zs b) (hl : zs.length ≤ 1099511627776) :
    Calls Tryd.prog 56 #[v, .int .i64 c] w fun e w' => ∃ v', e = .returned v' ∧ OwnI (In w.heap.size w'.heap.size) w' v' (without zs c) ∧ Below w.heap.size w w' := by
  obtain ⟨i0, hi, hz0, hz1, hz2⟩ := info_parts info_i64
  obtain ⟨a, cap, rfl, -, hwf, hcell⟩ := h
  obtain ⟨n, hn⟩ : ∃ n, n = zs.length := ⟨_, rfl⟩
  have Hn := Lib.hid hn
  rw [← hn] at hl ⊢
  clear hn
  go_enter Tryd.func56, Tryd.ntmps56
  go_wp2_with fail
  have hown0 := World.ownsRow_lit (base := w.heap.size) (e := 3) (size := 1) w #[] 0 (Nat.le_refl _) (Nat.zero_le _) rfl
  go_loopw [5, 11] (fun o i wr => ∃ k : Nat, k ≤ n ∧ i = .int .i64 k ∧ Below w.heap.size w wr ∧ wr.ownsRow w.heap.size 3 1 o (without (zs.take k) c).length ((without (zs.take k) c).map (Value.int .i64))) (fun _ i _ => n - (intOf i).toNat)
  case atStart => exact ⟨0, Nat.zero_le _, rfl, (Below.refl _ _).alloc (Nat.le_refl _) _, hown0⟩
  case round =>
    clear hown0
    obtain ⟨k, hk, rfl, hb2, hown⟩ := hrel
    by_cases hlt : k < n
    · have hzl : k < zs.length := by rw [← Hn.out]; exact hlt
      rcases hcell with h0 | ⟨off, rfl, hc⟩
      · subst h0; simp at hzl
      obtain ⟨y, hy⟩ : ∃ y, Hid (y = zs[k]) := ⟨_, Lib.hid rfl⟩
      have hc1 : wr.cell? ⟨b, off + k, none⟩ = some (.int .i64 y) := by
        have h1 := hc k hzl
        rw [hb2.cell (World.block_lt_of_cell? _ _ h1), h1, hy.out]
      have hstep := without_take zs c k hzl
      rw [← hy.out] at hstep
      clear hc
      by_cases hyc : y = c
      · subst hyc
        have hq : (y != y) = false := by simp
        rw [hq] at hstep
        have hrel2 : Hid (without (zs.take (k + 1)) y = without (zs.take k) y) := Lib.hid (by rw [hstep]; simp)
        clear hstep
        go_wp2_with fail
        go_roundw
        case rel => exact ⟨k + 1, by omega, by go_num, hb2, by rw [hrel2.out]; exact hown⟩
        case measure => simp [intOf]; omega
      · have hq : (y != c) = true := by simpa using hyc
        rw [hq] at hstep
        have hrel2 : Hid (without (zs.take (k + 1)) c = without (zs.take k) c ++ [y]) := Lib.hid (by rw [hstep]; simp)
        have hle := without_le (zs.take k) c
        have hle2 : (without (zs.take k) c).length ≤ n := Nat.le_trans hle (by rw [List.length_take, Hn.out]; omega)
        clear hstep hyc hle
        generalize without (zs.take k) c = F at *
        have hsz := hb2.size
        go_wp2_with (at_builtin; refine wpList_append_own _ rfl _ _ 23 rfl w.heap.size 3 i0 (.int .i64 0) 1 8 Tryd.underlying23 hi hz0 hz1 hz2 rfl (by decide) _ _ _ rfl (hown.alloc _) ⟨wr.heap.size, 0, none⟩ 1 1 [.int .i64 y] rfl rfl ?c1 ?c2 ?c3 ?c4 ?c5 ?_)
        case c1 => exact cell_one_new _ _ _
        case c2 => intro u hu; simp at hu; subst hu; rfl
        case c3 => unfold maxLen; omega
        case c4 => omega
        case c5 => simp; omega
        intro v' w1 hown' hgrow _
        have hb3 : Below w.heap.size w w1 := (hb2.alloc hsz _).grown hgrow (by simp; omega) (own_block hown)
        have hown2 := own_snoc hown'
        clear hown' hgrow hown hb2
        go_wp2_with fail
        go_roundw
        case rel => exact ⟨k + 1, by omega, by go_num, hb3, by rw [hrel2.out]; exact hown2⟩
        case measure => simp [intOf]; omega
    · obtain rfl : k = n := by omega
      have e : zs.take k = zs := List.take_of_length_le (by rw [Hn.out]; exact Nat.le_refl _)
      rw [e] at hown
      have hwr := Lib.hid (OwnI.of hown (fun x hx => hwf x (List.mem_filter.1 hx).1))
      clear hown e
      go_wp2_with fail
      go_ret
      exact ⟨_, rfl, hwr.out, hb2⟩

end Go.Proofs.YtbojhbhniollaaaDoor
