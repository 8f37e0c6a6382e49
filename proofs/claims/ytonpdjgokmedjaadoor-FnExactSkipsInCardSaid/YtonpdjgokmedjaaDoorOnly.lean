/-
  The program's generic helpers over lists of numbers: only and countIf, for any function value that answers a question of a number.
-/
import Derived.Test.YtonpdjgokmedjaaDoorMarksI
import Derived.Shelf.Abstract
namespace Go.Proofs.YtonpdjgokmedjaaDoor
open Go.RowKit
set_option linter.unusedVariables false
set_option linter.unusedSimpArgs false

/-- The function value v answers of each number what P answers. -/
def Asks (w : World) (v : Value) (P : Int → Bool) : Prop :=
  ∃ (n : Nat) (caps : Array Value), v = .func (.func n) #[] caps ∧ Enters Tryd.prog n ∧ ∀ w', Below w.heap.size w w' → ∀ c, (Lit.int .i64 c).wf = true → Calls Tryd.prog n (#[.int .i64 c] ++ caps) w' fun e w'' => e = .returned (.bool (P c)) ∧ Below w'.heap.size w' w''
theorem Asks.below {w w1 : World} {v : Value} {P : Int → Bool} (h : Asks w v P) (b : Below w.heap.size w w1) : Asks w1 v P := by
  obtain ⟨n, caps, e, he, hc⟩ := h
  exact ⟨n, caps, e, he, fun w' b' => hc w' (b.trans (b'.mono b.size))⟩
theorem filt_take (P : Int → Bool) (zs : List Int) (k : Nat) (h : k < zs.length) : (zs.take (k + 1)).filter P = (zs.take k).filter P ++ if P zs[k] = true then [zs[k]] else [] := by
  rw [List.take_succ_eq_append_getElem h, List.filter_append]
  congr 1
  by_cases e : P zs[k] = true <;> simp [e]

set_option maxRecDepth 100000 in
set_option maxHeartbeats 1000000 in
theorem only_any (v fv : Value) (zs : List Int) (b : Nat) (P : Int → Bool) (w : World) (h : RdAt .i64 w v zs b) (hl : zs.length ≤ 1099511627776) (hP : Asks w fv P) :
    Calls Tryd.prog 61 #[v, fv] w fun e w' => ∃ v' b', e = .returned v' ∧ w.heap.size ≤ b' ∧ WrAt .i64 w' v' (zs.filter P) b' ∧ Below w.heap.size w w' := by
  obtain ⟨i0, hi, hz0, hz1, hz2⟩ := info_parts info_i64
  obtain ⟨a, cap, rfl, -, hwf, hcell⟩ := h
  obtain ⟨fn, caps, rfl, hE, hM⟩ := hP
  have HM := Lib.hid hM
  unfold Enters at hE
  clear hM
  obtain ⟨n, hn⟩ : ∃ n, n = zs.length := ⟨_, rfl⟩
  have Hn := Lib.hid hn
  rw [← hn] at hl ⊢
  clear hn
  go_enter Tryd.func61, Tryd.ntmps61
  go_wp2_with fail
  have hown0 := World.ownsRow_lit (base := w.heap.size) (e := 3) (size := 1) w #[] 0 (Nat.le_refl _) (Nat.zero_le _) rfl
  go_loopw [5, 7, 11] (fun o _ i wr => ∃ k : Nat, k ≤ n ∧ i = .int .i64 k ∧ Below w.heap.size w wr ∧ wr.ownsRow w.heap.size 3 1 o ((zs.take k).filter P).length (((zs.take k).filter P).map (Value.int .i64))) (fun _ _ i _ => n - (intOf i).toNat)
  case atStart => exact ⟨0, Nat.zero_le _, rfl, (Below.refl _ _).alloc (Nat.le_refl _) _, hown0⟩
  case round =>
    clear hown0
    obtain ⟨k, hk, rfl, hb2, hown⟩ := hrel
    by_cases hlt : k < n
    · have hzl : k < zs.length := by rw [← Hn.out]; exact hlt
      rcases hcell with h0 | ⟨off, rfl, hc⟩
      · subst h0; simp at hzl
      obtain ⟨y, hy⟩ : ∃ y, Hid (y = zs[k]) := ⟨_, Lib.hid rfl⟩
      have hc1 : wr.cell? ⟨b, off + k, none⟩ = some (.int .i64 y) := by
        have h1 := hc k hzl
        rw [hb2.cell (World.block_lt_of_cell? _ _ h1), h1, hy.out]
      have hstep := filt_take P zs k hzl
      rw [← hy.out] at hstep
      have HC := Lib.hid (HM.out wr hb2 y (by rw [hy.out]; exact hwf _ (List.getElem_mem hzl)))
      clear hc
      cases hyc : P y with
      | false =>
        rw [hyc] at hstep HC
        have hrel2 : Hid ((zs.take (k + 1)).filter P = (zs.take k).filter P) := Lib.hid (by rw [hstep]; simp)
        clear hstep hyc
        go_wp2_with fail
        refine HC.out.mono ?_
        rintro e w2 ⟨rfl, B2⟩
        have hb3 := hb2.trans (B2.mono hb2.size)
        have hown2 := own_below hown B2
        clear hown B2
        go_wp2_with fail
        go_roundw
        case rel => exact ⟨k + 1, by omega, by go_num, hb3, by rw [hrel2.out]; exact hown2⟩
        case measure => simp [intOf]; omega
      | true =>
        rw [hyc] at hstep HC
        have hrel2 : Hid ((zs.take (k + 1)).filter P = (zs.take k).filter P ++ [y]) := Lib.hid (by rw [hstep]; simp)
        have hle2 : ((zs.take k).filter P).length ≤ n := Nat.le_trans (List.length_filter_le _ _) (by rw [List.length_take, Hn.out]; omega)
        clear hstep hyc
        generalize (zs.take k).filter P = FF at *
        go_wp2_with fail
        refine HC.out.mono ?_
        rintro e w2 ⟨rfl, B2⟩
        have hb4 := hb2.trans (B2.mono hb2.size)
        have hown2 := own_below hown B2
        have hsz := hb4.size
        clear hown B2
        go_wp2_with (at_builtin; refine wpList_append_own _ rfl _ _ 22 rfl w.heap.size 3 i0 (.int .i64 0) 1 8 Tryd.underlying22 hi hz0 hz1 hz2 rfl (by decide) _ _ _ rfl (hown2.alloc _) ⟨w2.heap.size, 0, none⟩ 1 1 [.int .i64 y] rfl rfl ?c1 ?c2 ?c3 ?c4 ?c5 ?_)
        case c1 => exact cell_one_new _ _ _
        case c2 => intro u hu; simp at hu; subst hu; rfl
        case c3 => unfold maxLen; omega
        case c4 => omega
        case c5 => simp; omega
        intro v' w1 hown' hgrow _
        have hb3 : Below w.heap.size w w1 := (hb4.alloc hsz _).grown hgrow (by simp; omega) (own_block hown2)
        have hown3 := own_snoc hown'
        clear hown' hgrow hown2 hb2 hb4
        go_wp2_with fail
        go_roundw
        case rel => exact ⟨k + 1, by omega, by go_num, hb3, by rw [hrel2.out]; exact hown3⟩
        case measure => simp [intOf]; omega
    · obtain rfl : k = n := by omega
      have e : zs.take k = zs := List.take_of_length_le (by rw [Hn.out]; exact Nat.le_refl _)
      rw [e] at hown
      have hwr := Lib.hid (own_wr hown (fun x hx => hwf x (List.mem_filter.1 hx).1))
      clear hown e
      go_wp2_with fail
      go_ret
      obtain ⟨b', hb', hw'⟩ := hwr.out
      exact ⟨_, b', rfl, hb', hw', hb2⟩
set_option maxRecDepth 100000 in
set_option maxHeartbeats 1000000 in
theorem countIf_any (v fv : Value) (zs : List Int) (b : Nat) (P : Int → Bool) (w : World) (h : RdAt .i64 w v zs b) (hl : zs.length ≤ 1099511627776) (hP : Asks w fv P) :
    Calls Tryd.prog 48 #[v, fv] w fun e w' => e = .returned (.int .i64 ((zs.filter P).length : Nat)) ∧ Below w.heap.size w w' := by
  obtain ⟨a, cap, rfl, -, hwf, hcell⟩ := h
  obtain ⟨fn, caps, rfl, hE, hM⟩ := hP
  have HM := Lib.hid hM
  unfold Enters at hE
  clear hM
  obtain ⟨n, hn⟩ : ∃ n, n = zs.length := ⟨_, rfl⟩
  have Hn := Lib.hid hn
  rw [← hn] at hl ⊢
  clear hn
  go_enter Tryd.func48, Tryd.ntmps48
  go_wp2_with fail
  go_loopw [5, 7, 10] (fun o _ i wr => ∃ k : Nat, k ≤ n ∧ i = .int .i64 k ∧ Below w.heap.size w wr ∧ o = .int .i64 (((zs.take k).filter P).length : Nat)) (fun _ _ i _ => n - (intOf i).toNat)
  case atStart => exact ⟨0, Nat.zero_le _, rfl, Below.refl _ _, rfl⟩
  case round =>
    obtain ⟨k, hk, rfl, hb2, rfl⟩ := hrel
    have hle2 : ((zs.take k).filter P).length ≤ k := Nat.le_trans (List.length_filter_le _ _) (by rw [List.length_take]; omega)
    by_cases hlt : k < n
    · have hzl : k < zs.length := by rw [← Hn.out]; exact hlt
      rcases hcell with h0 | ⟨off, rfl, hc⟩
      · subst h0; simp at hzl
      obtain ⟨y, hy⟩ : ∃ y, Hid (y = zs[k]) := ⟨_, Lib.hid rfl⟩
      have hc1 : wr.cell? ⟨b, off + k, none⟩ = some (.int .i64 y) := by
        have h1 := hc k hzl
        rw [hb2.cell (World.block_lt_of_cell? _ _ h1), h1, hy.out]
      have hstep := filt_take P zs k hzl
      rw [← hy.out] at hstep
      have HC := Lib.hid (HM.out wr hb2 y (by rw [hy.out]; exact hwf _ (List.getElem_mem hzl)))
      clear hc
      cases hyc : P y with
      | false =>
        rw [hyc] at hstep HC
        have hrel2 : Hid (((zs.take (k + 1)).filter P).length = ((zs.take k).filter P).length) := Lib.hid (by rw [hstep]; simp)
        clear hstep hyc
        generalize ((zs.take k).filter P).length = m at *
        go_wp2_with fail
        refine HC.out.mono ?_
        rintro e w2 ⟨rfl, B2⟩
        have hb3 := hb2.trans (B2.mono hb2.size)
        go_wp2_with fail
        go_roundw
        case rel => exact ⟨k + 1, by omega, by go_num, hb3, by rw [hrel2.out]⟩
        case measure => simp [intOf]; omega
      | true =>
        rw [hyc] at hstep HC
        have hrel2 : Hid (((zs.take (k + 1)).filter P).length = ((zs.take k).filter P).length + 1) := Lib.hid (by rw [hstep]; simp)
        clear hstep hyc
        generalize ((zs.take k).filter P).length = m at *
        go_wp2_with fail
        refine HC.out.mono ?_
        rintro e w2 ⟨rfl, B2⟩
        have hb3 := hb2.trans (B2.mono hb2.size)
        go_wp2_with fail
        go_roundw
        case rel => exact ⟨k + 1, by omega, by go_num, hb3, by rw [hrel2.out]; simp⟩
        case measure => simp [intOf]; omega
    · obtain rfl : k = n := by omega
      have e : zs.take k = zs := List.take_of_length_le (by rw [Hn.out]; exact Nat.le_refl _)
      rw [e]
      go_wp2_with fail
      go_ret
      exact ⟨rfl, hb2⟩
end Go.Proofs.YtonpdjgokmedjaaDoor
