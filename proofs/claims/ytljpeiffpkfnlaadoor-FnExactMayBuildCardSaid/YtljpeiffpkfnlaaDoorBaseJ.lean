/-
  Foundations: MayBuild, IsSafe, Built.
-/
import Derived.Test.YtljpeiffpkfnlaaDoorBaseI
import Derived.Test.YtljpeiffpkfnlaaDoorCopyI
namespace Go.Proofs.YtljpeiffpkfnlaaDoor
open Go.RowKit
set_option linter.unusedVariables false

theorem below_box1 {w w1 : World} (b1 : Below w.heap.size w w1) (o : Obj) : Below w.heap.size w (w1.alloc o) := b1.alloc b1.size o
set_option maxRecDepth 100000 in
set_option maxHeartbeats 1000000 in
theorem mayBuild_any (a0 a1 : Addr) (v : Value) (zs : List Int) (b : Nat) (c : Int) (w : World) (h : RdAt .i64 w v zs b) (hl : zs.length ≤ 1099511627776) (r : Bool) (hr : mayBuild zs c = r) (hS : Sent a0 a1 w) :
    Calls Tryd.prog 14 #[v, .int .i64 c] w fun e w' => e = .returned (.bool r) ∧ Below w.heap.size w w' := by
  cases hb : isBase zs with
  | false =>
    have HF := Lib.hid (found_f v zs b w h hl hb)
    obtain rfl : r = false := by rw [← hr]; exact mb_0 hb
    obtain ⟨p, cap, rfl, -⟩ := id h
    unfold agg4 at HF
    clear h hb hr hS
    go_enter Tryd.func14, Tryd.ntmps14
    go_wp2_with fail
    refine HF.out.mono ?_
    rintro e w1 ⟨rfl, b1⟩
    go_wp2_with fail
    go_ret
    exact ⟨rfl, below_box1 b1 _⟩
  | true =>
    obtain ⟨x0, x1, x2, x3, rfl, q1, q2, q3, q4, q5, q6, q7, q8⟩ := base_t hb
    have HF := Lib.hid (found_t v x0 x1 x2 x3 b w h hb)
    obtain ⟨p, cap, rfl, -⟩ := id h
    unfold agg4 at HF
    have HT : Hid (∀ wx, Below w.heap.size w wx → Calls Tryd.prog 36 #[.agg #[.int .i64 x0, .int .i64 x1, .int .i64 x2, .int .i64 x3], .int .i64 c] wx fun e w' => e = .returned (.bool r) ∧ Below wx.heap.size wx w') := Lib.hid (fun wx hw => by
      cases hc : isCard c with
      | false =>
        obtain rfl : r = false := by rw [← hr]; exact mb_1 hc
        exact takes_n x0 x1 x2 x3 c wx hc
      | true => exact takes_y a0 a1 x0 x1 x2 x3 c wx hc ⟨q1, q2⟩ ⟨q3, q4⟩ ⟨q5, q6⟩ ⟨q7, q8⟩ (hS.below hw (Nat.le_refl _)) r (by rw [← hr, mb_2 hb hc]))
    clear h hb hr hS q1 q2 q3 q4 q5 q6 q7 q8
    go_enter Tryd.func14, Tryd.ntmps14
    go_wp2_with fail
    refine HF.out.mono ?_
    rintro e w1 ⟨rfl, b1⟩
    go_wp2_with fail
    refine (HT.out _ (below_box1 b1 _)).mono ?_
    rintro e w2 ⟨rfl, b2⟩
    have B2 := (below_box1 b1 _).trans (b2.mono (below_box1 b1 _).size)
    clear b1 b2
    go_wp2_with fail
    go_ret
    exact ⟨rfl, B2⟩
@[go_sem] theorem run_ixF0 (f0 f1 f2 f3 : Value) (w : World) : (Instr.index 37 (.agg #[f0, f1, f2, f3]) (.int .i64 0)).run Tryd.prog w = .ok f0 w := by
  simp [Instr.index, run_underlying Tryd.underlying37, asIntOf, go_sem]
@[go_sem] theorem run_ixF1 (f0 f1 f2 f3 : Value) (w : World) : (Instr.index 37 (.agg #[f0, f1, f2, f3]) (.int .i64 1)).run Tryd.prog w = .ok f1 w := by
  simp [Instr.index, run_underlying Tryd.underlying37, asIntOf, go_sem]
@[go_sem] theorem run_ixF2 (f0 f1 f2 f3 : Value) (w : World) : (Instr.index 37 (.agg #[f0, f1, f2, f3]) (.int .i64 2)).run Tryd.prog w = .ok f2 w := by
  simp [Instr.index, run_underlying Tryd.underlying37, asIntOf, go_sem]
@[go_sem] theorem run_ixF3 (f0 f1 f2 f3 : Value) (w : World) : (Instr.index 37 (.agg #[f0, f1, f2, f3]) (.int .i64 3)).run Tryd.prog w = .ok f3 w := by
  simp [Instr.index, run_underlying Tryd.underlying37, asIntOf, go_sem]
def reachB (zs : List Int) (c t : Int) : Bool := (List.range 4).all fun s => !(redS s != redB c) || !decide (zs.getD s 0 < t)
theorem reach_lets (zs : List Int) (c : Int) : reachB zs c (stepOf c - 1) = (List.range 4).all (lets zs c) := rfl

set_option maxRecDepth 100000 in
set_option maxHeartbeats 4000000 in
theorem othersReach_any (x0 x1 x2 x3 c t : Int) (w : World) (r : Bool) (hr : reachB [x0, x1, x2, x3] c t = r) :
    Calls Tryd.prog 44 #[.agg #[.int .i64 x0, .int .i64 x1, .int .i64 x2, .int .i64 x3], .int .i64 c, .int .i64 t] w fun e w' => e = .returned (.bool r) ∧ Below w.heap.size w w' := by
  have R0 := Lib.hid (fun wx => isRed_r 0 wx false (by decide))
  have R1 := Lib.hid (fun wx => isRed_r 13 wx true (by decide))
  have R2 := Lib.hid (fun wx => isRed_r 26 wx true (by decide))
  have R3 := Lib.hid (fun wx => isRed_r 39 wx false (by decide))
  have B0 := fun o => (Below.refl w.heap.size w).alloc (Nat.le_refl _) o
  cases hq : redB c with
  | true =>
    have HQ := Lib.hid hq
    by_cases h0 : x0 < t
    · have d0 : decide (x0 < t) = true := decide_eq_true h0
      obtain rfl : r = false := by rw [← hr]; unfold reachB; rw [hq]; simp [List.range, List.range.loop, redS, h0]
      clear hr hq
      go_enter Tryd.func44, Tryd.ntmps44
      go_wp2_with fail
      refine wp_loop_rounds 5 ?_
      rw [rounds_succ]
      go_wp2_with fail
      refine (R0.out _).mono ?_
      rintro e _w ⟨rfl, rfl⟩
      go_wp2_with fail
      refine (isRed_r _ _ _ HQ.out).mono ?_
      rintro e _w ⟨rfl, rfl⟩
      go_wp2_with fail
      go_ret
      exact ⟨rfl, B0 _⟩
    · have d0 : decide (x0 < t) = false := decide_eq_false h0
      by_cases h3 : x3 < t
      · have d3 : decide (x3 < t) = true := decide_eq_true h3
        obtain rfl : r = false := by rw [← hr]; unfold reachB; rw [hq]; simp [List.range, List.range.loop, redS, h0, h3]
        clear hr hq
        go_enter Tryd.func44, Tryd.ntmps44
        go_wp2_with fail
        refine wp_loop_rounds 5 ?_
        rw [rounds_succ]
        go_wp2_with fail
        refine (R0.out _).mono ?_
        rintro e _w ⟨rfl, rfl⟩
        go_wp2_with fail
        refine (isRed_r _ _ _ HQ.out).mono ?_
        rintro e _w ⟨rfl, rfl⟩
        go_wp2_with fail
        rw [rounds_succ]
        go_wp2_with fail
        refine (R1.out _).mono ?_
        rintro e _w ⟨rfl, rfl⟩
        go_wp2_with fail
        refine (isRed_r _ _ _ HQ.out).mono ?_
        rintro e _w ⟨rfl, rfl⟩
        go_wp2_with fail
        rw [rounds_succ]
        go_wp2_with fail
        refine (R2.out _).mono ?_
        rintro e _w ⟨rfl, rfl⟩
        go_wp2_with fail
        refine (isRed_r _ _ _ HQ.out).mono ?_
        rintro e _w ⟨rfl, rfl⟩
        go_wp2_with fail
        rw [rounds_succ]
        go_wp2_with fail
        refine (R3.out _).mono ?_
        rintro e _w ⟨rfl, rfl⟩
        go_wp2_with fail
        refine (isRed_r _ _ _ HQ.out).mono ?_
        rintro e _w ⟨rfl, rfl⟩
        go_wp2_with fail
        go_ret
        exact ⟨rfl, B0 _⟩
      · have d3 : decide (x3 < t) = false := decide_eq_false h3
        obtain rfl : r = true := by rw [← hr]; unfold reachB; rw [hq]; simp [List.range, List.range.loop, redS, h0, h3]
        clear hr hq
        go_enter Tryd.func44, Tryd.ntmps44
        go_wp2_with fail
        refine wp_loop_rounds 5 ?_
        rw [rounds_succ]
        go_wp2_with fail
        refine (R0.out _).mono ?_
        rintro e _w ⟨rfl, rfl⟩
        go_wp2_with fail
        refine (isRed_r _ _ _ HQ.out).mono ?_
        rintro e _w ⟨rfl, rfl⟩
        go_wp2_with fail
        rw [rounds_succ]
        go_wp2_with fail
        refine (R1.out _).mono ?_
        rintro e _w ⟨rfl, rfl⟩
        go_wp2_with fail
        refine (isRed_r _ _ _ HQ.out).mono ?_
        rintro e _w ⟨rfl, rfl⟩
        go_wp2_with fail
        rw [rounds_succ]
        go_wp2_with fail
        refine (R2.out _).mono ?_
        rintro e _w ⟨rfl, rfl⟩
        go_wp2_with fail
        refine (isRed_r _ _ _ HQ.out).mono ?_
        rintro e _w ⟨rfl, rfl⟩
        go_wp2_with fail
        rw [rounds_succ]
        go_wp2_with fail
        refine (R3.out _).mono ?_
        rintro e _w ⟨rfl, rfl⟩
        go_wp2_with fail
        refine (isRed_r _ _ _ HQ.out).mono ?_
        rintro e _w ⟨rfl, rfl⟩
        go_wp2_with fail
        rw [rounds_succ]
        go_wp2_with fail
        go_ret
        exact ⟨rfl, B0 _⟩
  | false =>
    have HQ := Lib.hid hq
    by_cases h1 : x1 < t
    · have d1 : decide (x1 < t) = true := decide_eq_true h1
      obtain rfl : r = false := by rw [← hr]; unfold reachB; rw [hq]; simp [List.range, List.range.loop, redS, h1]
      clear hr hq
      go_enter Tryd.func44, Tryd.ntmps44
      go_wp2_with fail
      refine wp_loop_rounds 5 ?_
      rw [rounds_succ]
      go_wp2_with fail
      refine (R0.out _).mono ?_
      rintro e _w ⟨rfl, rfl⟩
      go_wp2_with fail
      refine (isRed_r _ _ _ HQ.out).mono ?_
      rintro e _w ⟨rfl, rfl⟩
      go_wp2_with fail
      rw [rounds_succ]
      go_wp2_with fail
      refine (R1.out _).mono ?_
      rintro e _w ⟨rfl, rfl⟩
      go_wp2_with fail
      refine (isRed_r _ _ _ HQ.out).mono ?_
      rintro e _w ⟨rfl, rfl⟩
      go_wp2_with fail
      go_ret
      exact ⟨rfl, B0 _⟩
    · have d1 : decide (x1 < t) = false := decide_eq_false h1
      by_cases h2 : x2 < t
      · have d2 : decide (x2 < t) = true := decide_eq_true h2
        obtain rfl : r = false := by rw [← hr]; unfold reachB; rw [hq]; simp [List.range, List.range.loop, redS, h1, h2]
        clear hr hq
        go_enter Tryd.func44, Tryd.ntmps44
        go_wp2_with fail
        refine wp_loop_rounds 5 ?_
        rw [rounds_succ]
        go_wp2_with fail
        refine (R0.out _).mono ?_
        rintro e _w ⟨rfl, rfl⟩
        go_wp2_with fail
        refine (isRed_r _ _ _ HQ.out).mono ?_
        rintro e _w ⟨rfl, rfl⟩
        go_wp2_with fail
        rw [rounds_succ]
        go_wp2_with fail
        refine (R1.out _).mono ?_
        rintro e _w ⟨rfl, rfl⟩
        go_wp2_with fail
        refine (isRed_r _ _ _ HQ.out).mono ?_
        rintro e _w ⟨rfl, rfl⟩
        go_wp2_with fail
        rw [rounds_succ]
        go_wp2_with fail
        refine (R2.out _).mono ?_
        rintro e _w ⟨rfl, rfl⟩
        go_wp2_with fail
        refine (isRed_r _ _ _ HQ.out).mono ?_
        rintro e _w ⟨rfl, rfl⟩
        go_wp2_with fail
        go_ret
        exact ⟨rfl, B0 _⟩
      · have d2 : decide (x2 < t) = false := decide_eq_false h2
        obtain rfl : r = true := by rw [← hr]; unfold reachB; rw [hq]; simp [List.range, List.range.loop, redS, h1, h2]
        clear hr hq
        go_enter Tryd.func44, Tryd.ntmps44
        go_wp2_with fail
        refine wp_loop_rounds 5 ?_
        rw [rounds_succ]
        go_wp2_with fail
        refine (R0.out _).mono ?_
        rintro e _w ⟨rfl, rfl⟩
        go_wp2_with fail
        refine (isRed_r _ _ _ HQ.out).mono ?_
        rintro e _w ⟨rfl, rfl⟩
        go_wp2_with fail
        rw [rounds_succ]
        go_wp2_with fail
        refine (R1.out _).mono ?_
        rintro e _w ⟨rfl, rfl⟩
        go_wp2_with fail
        refine (isRed_r _ _ _ HQ.out).mono ?_
        rintro e _w ⟨rfl, rfl⟩
        go_wp2_with fail
        rw [rounds_succ]
        go_wp2_with fail
        refine (R2.out _).mono ?_
        rintro e _w ⟨rfl, rfl⟩
        go_wp2_with fail
        refine (isRed_r _ _ _ HQ.out).mono ?_
        rintro e _w ⟨rfl, rfl⟩
        go_wp2_with fail
        rw [rounds_succ]
        go_wp2_with fail
        refine (R3.out _).mono ?_
        rintro e _w ⟨rfl, rfl⟩
        go_wp2_with fail
        refine (isRed_r _ _ _ HQ.out).mono ?_
        rintro e _w ⟨rfl, rfl⟩
        go_wp2_with fail
        rw [rounds_succ]
        go_wp2_with fail
        go_ret
        exact ⟨rfl, B0 _⟩
set_option maxRecDepth 100000 in
set_option maxHeartbeats 2000000 in
theorem isSafe_any (a0 a1 : Addr) (v : Value) (zs : List Int) (b : Nat) (c : Int) (w : World) (h : RdAt .i64 w v zs b) (hl : zs.length ≤ 1099511627776) (r : Bool) (hr : isSafe zs c = r) (hS : Sent a0 a1 w) :
    Calls Tryd.prog 23 #[v, .int .i64 c] w fun e w' => e = .returned (.bool r) ∧ Below w.heap.size w w' := by
  cases hb : isBase zs with
  | false =>
    have HF := Lib.hid (found_f v zs b w h hl hb)
    obtain rfl : r = false := by rw [← hr]; exact safe_0 (mb_0 hb)
    obtain ⟨p, cap, rfl, -⟩ := id h
    unfold agg4 at HF
    clear h hb hr hS
    go_enter Tryd.func23, Tryd.ntmps23
    go_wp2_with fail
    refine HF.out.mono ?_
    rintro e w1 ⟨rfl, b1⟩
    go_wp2_with fail
    go_ret
    exact ⟨rfl, below_box1 b1 _⟩
  | true =>
    obtain ⟨x0, x1, x2, x3, rfl, q1, q2, q3, q4, q5, q6, q7, q8⟩ := base_t hb
    have HF := Lib.hid (found_t v x0 x1 x2 x3 b w h hb)
    obtain ⟨p, cap, rfl, -⟩ := id h
    unfold agg4 at HF
    obtain ⟨m, hm⟩ : ∃ m, mayBuild [x0, x1, x2, x3] c = m := ⟨_, rfl⟩
    have HT : Hid (∀ wx, Below w.heap.size w wx → Calls Tryd.prog 36 #[.agg #[.int .i64 x0, .int .i64 x1, .int .i64 x2, .int .i64 x3], .int .i64 c] wx fun e w' => e = .returned (.bool m) ∧ Below wx.heap.size wx w') := Lib.hid (fun wx hw => by
      cases hc : isCard c with
      | false =>
        obtain rfl : m = false := by rw [← hm]; exact mb_1 hc
        exact takes_n x0 x1 x2 x3 c wx hc
      | true => exact takes_y a0 a1 x0 x1 x2 x3 c wx hc ⟨q1, q2⟩ ⟨q3, q4⟩ ⟨q5, q6⟩ ⟨q7, q8⟩ (hS.below hw (Nat.le_refl _)) m (by rw [← hm, mb_2 hb hc]))
    have HG : Hid (∀ wy w1, Below w.heap.size w w1 → Below (w1.alloc (.cells #[.int .i64 x0, .int .i64 x1, .int .i64 x2, .int .i64 x3] 37)).heap.size (w1.alloc (.cells #[.int .i64 x0, .int .i64 x1, .int .i64 x2, .int .i64 x3] 37)) wy →
        Below w.heap.size w wy ∧ wy.heap[w1.heap.size]? = some (.cells #[.int .i64 x0, .int .i64 x1, .int .i64 x2, .int .i64 x3] 37 (0, 0))) := Lib.hid (fun wy w1 b1 b2 =>
      ⟨(below_box1 b1 _).trans (b2.mono (below_box1 b1 _).size), (b2.block _ (by simp)).trans (heap_alloc_new _ _)⟩)
    have HSt := Lib.hid (fun wx hw => stepOf_any a0 a1 c wx (hS.below (w' := wx) hw (Nat.le_refl _)))
    cases m with
    | false =>
      obtain rfl : r = false := by rw [← hr]; exact safe_0 hm
      clear h hb hr hS q1 q2 q3 q4 q5 q6 q7 q8 hm HSt
      go_enter Tryd.func23, Tryd.ntmps23
      go_wp2_with fail
      refine HF.out.mono ?_
      rintro e w1 ⟨rfl, b1⟩
      go_wp2_with fail
      refine (HT.out _ (below_box1 b1 _)).mono ?_
      rintro e w2 ⟨rfl, b2⟩
      obtain ⟨B2, -⟩ := HG.out _ _ b1 b2
      clear b1 b2
      go_wp2_with fail
      go_ret
      exact ⟨rfl, B2⟩
    | true =>
      have hr2 : safeB [x0, x1, x2, x3] c = r := by rw [← hr, safe_1 hm]
      have tb := step_bd c
      by_cases ht : stepOf c ≤ 2
      · obtain rfl : r = true := by rw [← hr2]; exact safe_low ht
        have d1 : decide (stepOf c ≤ 2) = true := decide_eq_true ht
        generalize stepOf c = t at *
        clear h hb hr hS q1 q2 q3 q4 q5 q6 q7 q8 hm hr2
        go_enter Tryd.func23, Tryd.ntmps23
        go_wp2_with fail
        refine HF.out.mono ?_
        rintro e w1 ⟨rfl, b1⟩
        go_wp2_with fail
        refine (HT.out _ (below_box1 b1 _)).mono ?_
        rintro e w2 ⟨rfl, b2⟩
        obtain ⟨B2, -⟩ := HG.out _ _ b1 b2
        clear b1 b2
        go_wp2_with fail
        refine (HSt.out _ B2).mono ?_
        rintro e _w ⟨rfl, rfl⟩
        go_wp2_with fail
        go_ret
        exact ⟨rfl, B2⟩
      · have d1 : decide (stepOf c ≤ 2) = false := decide_eq_false ht
        have HO := Lib.hid (fun wx => othersReach_any x0 x1 x2 x3 c (stepOf c - 1) wx r (by rw [← hr2, reach_lets]; unfold safeB; rw [d1]; rfl))
        obtain ⟨tb0, tb1⟩ := tb
        generalize stepOf c = t at *
        clear h hb hr hS q1 q2 q3 q4 q5 q6 q7 q8 hm hr2
        go_enter Tryd.func23, Tryd.ntmps23
        go_wp2_with fail
        refine HF.out.mono ?_
        rintro e w1 ⟨rfl, b1⟩
        go_wp2_with fail
        refine (HT.out _ (below_box1 b1 _)).mono ?_
        rintro e w2 ⟨rfl, b2⟩
        obtain ⟨B2, G⟩ := HG.out _ _ b1 b2
        obtain ⟨k0, k1, k2, k3⟩ := cells4 G
        clear b1 b2 G
        go_wp2_with fail
        refine (HSt.out _ B2).mono ?_
        rintro e _w ⟨rfl, rfl⟩
        go_wp2_with fail
        refine (HO.out _).mono ?_
        rintro e w3 ⟨rfl, b3⟩
        go_wp2_with fail
        go_ret
        exact ⟨rfl, B2.trans (b3.mono B2.size)⟩
def built (zs : List Int) (c : Int) : List Int := if mayBuild zs c then zs.set (c / 13).toNat (zs.getD (c / 13).toNat 0 + 1) else zs
theorem built_len (zs : List Int) (c : Int) : (built zs c).length = zs.length := by unfold built; split <;> simp
theorem built_f {zs : List Int} {c : Int} (h : mayBuild zs c = false) : built zs c = zs := by unfold built; rw [h]; rfl
theorem built_t {zs : List Int} {c : Int} (h : mayBuild zs c = true) : built zs c = zs.set (c / 13).toNat (zs.getD (c / 13).toNat 0 + 1) := by unfold built; rw [h]; rfl
theorem built_wf {zs : List Int} {c : Int} (h : mayBuild zs c = true) (hw : ∀ x ∈ zs, (Lit.int .i64 x).wf = true) : ∀ x ∈ zs.set (c / 13).toNat (zs.getD (c / 13).toNat 0 + 1), (Lit.int .i64 x).wf = true := by
  intro x hx
  obtain ⟨h1, h2, -⟩ := mb_t h
  have hcc := isCard_t h2
  have hb := base_getD h1 (c / 13).toNat (by omega)
  rcases List.mem_or_eq_of_mem_set hx with h' | rfl
  · exact hw x h'
  · exact WalkArith.wf_i64 (by omega)

set_option maxRecDepth 100000 in
set_option maxHeartbeats 2000000 in
theorem sBuilt_any (v : Value) (zs : List Int) (b : Nat) (c : Int) (w : World) (h : RdAt .i64 w v zs b) (hl : zs.length ≤ 1048576) :
    Calls Tryd.prog 16 #[v, .int .i64 c] w fun e w' => ∃ v' b', e = .returned (.tuple #[v', .bool (mayBuild zs c)]) ∧ w.heap.size ≤ b' ∧ WrAt .i64 w' v' (built zs c) b' ∧ Below w.heap.size w w' := by
  have hwf := h.wf
  have HM : Hid (∀ wx, Below w.heap.size w wx → Calls Tryd.prog 12 #[v, .int .i64 c] wx fun e w' => e = .returned (.bool (mayBuild zs c)) ∧ Below wx.heap.size wx w') := Lib.hid (fun wx hw => (sMayBuild_any v zs b c wx (h.below hw) (by omega) _ rfl).mono (fun e w' he => ⟨he.1, by rw [← he.2]; exact Below.refl _ _⟩))
  obtain ⟨p0, cap0, hv, -⟩ := id h
  obtain ⟨i0, hi, hz0, hz1, hz2⟩ := info_parts info_i64
  have hown0 := World.ownsRow_lit (base := w.heap.size) (e := 3) (size := 1) w #[] 0 (Nat.le_refl _) (Nat.zero_le _) rfl
  have ha : RdAt .i64 (w.alloc (.cells #[] 3)) v zs b := h.below ((Below.refl _ _).alloc (Nat.le_refl _) _)
  subst hv
  clear h
  cases hm : mayBuild zs c with
  | false =>
    rw [hm] at HM
    rw [built_f hm]
    clear hm
    go_enter Tryd.func16, Tryd.ntmps16
    go_wp2_with (at_builtin; refine wpList_append_rd _ rfl _ _ 24 rfl w.heap.size 3 i0 (.int .i64 0) 8 Tryd.underlying24 hi hz0 hz1 hz2 rfl _ _ _ rfl hown0 .i64 _ zs b rfl ha ?d3 ?d4 (by simp) ?_)
    case d3 => unfold maxLen; omega
    case d4 => omega
    intro v1 w1 hown hgr
    have hb1 : Below w.heap.size w w1 := ((Below.refl _ _).alloc (Nat.le_refl _) _).grown hgr (by simp) (own_block hown0)
    try simp only [Nat.zero_add, List.nil_append] at hown
    clear hgr ha hown0
    obtain ⟨a1', cap1, rfl⟩ := own_shape hown
    go_wp2_with fail
    refine (HM.out _ hb1).mono ?_
    rintro e w2 ⟨rfl, b2⟩
    have hown2 := own_below hown b2
    have B2 := hb1.trans (b2.mono hb1.size)
    have HW := Lib.hid (own_wr hown2 hwf)
    clear hown hown2 b2 hb1
    go_wp2_with fail
    go_ret2
    obtain ⟨b', hb', hw'⟩ := HW.out
    exact ⟨_, b', rfl, hb', hw', B2⟩
  | true =>
    rw [hm] at HM
    rw [built_t hm]
    have hwf2 := built_wf hm hwf
    obtain ⟨h1, h2, -⟩ := mb_t hm
    have hcc := isCard_t h2
    have hln := base_len h1
    obtain ⟨s, hs⟩ : ∃ s : Nat, (s : Int) = c / 13 := ⟨(c / 13).toNat, by omega⟩
    have hs3 : s < 4 := by omega
    have HSu := Lib.hid (show suitOf c = (s : Int) by rw [suit_in h2, hs])
    rw [← hs] at hwf2 ⊢
    obtain ⟨y, hy⟩ : ∃ y, y = zs.getD s 0 := ⟨_, rfl⟩
    have hyb := base_getD h1 s hs3
    rw [← hy] at hyb
    obtain ⟨hy0, hy1⟩ := hyb
    have hs' : ((s : Int)).toNat = s := by omega
    rw [hs', ← hy] at hwf2 ⊢
    have Hy := Lib.hid hy
    have HL := Lib.hid hln
    have hsi : (s : Int) < 4 := by omega
    clear hm h1 h2 hs hy hln hcc hs'
    go_enter Tryd.func16, Tryd.ntmps16
    go_wp2_with (at_builtin; refine wpList_append_rd _ rfl _ _ 24 rfl w.heap.size 3 i0 (.int .i64 0) 8 Tryd.underlying24 hi hz0 hz1 hz2 rfl _ _ _ rfl hown0 .i64 _ zs b rfl ha ?d3 ?d4 (by simp) ?_)
    case d3 => unfold maxLen; omega
    case d4 => omega
    intro v1 w1 hown hgr
    have hb1 : Below w.heap.size w w1 := ((Below.refl _ _).alloc (Nat.le_refl _) _).grown hgr (by simp) (own_block hown0)
    try simp only [Nat.zero_add, List.nil_append] at hown
    clear hgr ha hown0
    rcases hown.2 with ⟨-, h0⟩ | ⟨g, cap1, cur, rfl, hb', hgg, rest⟩
    · rw [HL.out] at h0; cases h0
    go_wp2_with fail
    refine (HM.out _ hb1).mono ?_
    rintro e w2 ⟨rfl, b2⟩
    have hown2 := own_below hown b2
    have B2 := hb1.trans (b2.mono hb1.size)
    have hcl : w2.cell? ⟨g, s, none⟩ = some (.int .i64 y) := by
      rw [hown2.cellAt s (by rw [HL.out]; omega), List.getElem?_map, List.getElem?_eq_getElem (by rw [HL.out]; omega), Hy.out]; simp [List.getD, HL.out, hs3]
    have hfr : w2.frozen? ⟨g, s, none⟩ = false := hown2.frozenAt s
    have hst := (hown2.stored s (.int .i64 (y + 1))).1
    rw [← List.map_set] at hst
    have B3 : Below w.heap.size w (w2.setCell ⟨g, s, none⟩ (.int .i64 (y + 1))) := B2.setCell hb' _
    have hst2 : (w2.setCell ⟨g, s, none⟩ (.int .i64 (y + 1))).ownsRow w.heap.size 3 1 (.slice (some ⟨g, 0, none⟩) zs.length cap1) (zs.set s (y + 1)).length ((zs.set s (y + 1)).map (Value.int .i64)) := by rw [List.length_set]; exact hst
    have HW := Lib.hid (own_wr hst2 hwf2)
    have hsl : s < zs.length := by rw [HL.out]; omega
    clear hown hown2 b2 hb1 hst hst2 hgg rest B2
    go_wp2_with fail
    refine (sSuitOf_r _ _ _ HSu.out).mono ?_
    rintro e _w ⟨rfl, rfl⟩
    go_wp2_with fail
    refine (sSuitOf_r _ _ _ HSu.out).mono ?_
    rintro e _w ⟨rfl, rfl⟩
    go_wp2_with fail
    go_ret2
    obtain ⟨b', hb2', hw'⟩ := HW.out
    exact ⟨_, b', rfl, hb2', hw', B3⟩
set_option maxRecDepth 100000 in
set_option maxHeartbeats 2000000 in
theorem built_any (a0 a1 : Addr) (v : Value) (zs : List Int) (b : Nat) (c : Int) (w : World) (h : RdAt .i64 w v zs b) (hl : zs.length ≤ 1048576) (hS : Sent a0 a1 w) :
    Calls Tryd.prog 17 #[v, .int .i64 c] w fun e w' => ∃ v' b', e = .returned (.tuple #[v', .bool (mayBuild zs c)]) ∧ w.heap.size ≤ b' ∧ WrAt .i64 w' v' (built zs c) b' ∧ Below w.heap.size w w' := by
  have hwf := h.wf
  have HM : Hid (∀ wx, Below w.heap.size w wx → Calls Tryd.prog 14 #[v, .int .i64 c] wx fun e w' => e = .returned (.bool (mayBuild zs c)) ∧ Below wx.heap.size wx w') := Lib.hid (fun wx hw => (mayBuild_any a0 a1 v zs b c wx (h.below hw) (by omega) _ rfl (hS.below hw (Nat.le_refl _))))
  obtain ⟨p0, cap0, hv, -⟩ := id h
  have HK := Lib.hid (copyInts_own v zs b w h (by omega))
  subst hv
  clear h hS
  cases hm : mayBuild zs c with
  | false =>
    rw [hm] at HM
    rw [built_f hm]
    clear hm
    go_enter Tryd.func17, Tryd.ntmps17
    go_wp2_with fail
    refine HK.out.mono ?_
    rintro e w1 ⟨v1, rfl, hown, hb1⟩
    obtain ⟨a1', cap1, rfl⟩ := own_shape hown
    go_wp2_with fail
    refine (HM.out _ hb1).mono ?_
    rintro e w2 ⟨rfl, b2⟩
    have hown2 := own_below hown b2
    have B2 := hb1.trans (b2.mono hb1.size)
    have HW := Lib.hid (own_wr hown2 hwf)
    clear hown hown2 b2 hb1
    go_wp2_with fail
    go_ret2
    obtain ⟨b', hb', hw'⟩ := HW.out
    exact ⟨_, b', rfl, hb', hw', B2⟩
  | true =>
    rw [hm] at HM
    rw [built_t hm]
    have hwf2 := built_wf hm hwf
    obtain ⟨h1, h2, -⟩ := mb_t hm
    have hcc := isCard_t h2
    have hln := base_len h1
    obtain ⟨s, hs⟩ : ∃ s : Nat, (s : Int) = c / 13 := ⟨(c / 13).toNat, by omega⟩
    have hs3 : s < 4 := by omega
    have HSu := Lib.hid (show suitOf c = (s : Int) by rw [suit_in h2, hs])
    rw [← hs] at hwf2 ⊢
    obtain ⟨y, hy⟩ : ∃ y, y = zs.getD s 0 := ⟨_, rfl⟩
    have hyb := base_getD h1 s hs3
    rw [← hy] at hyb
    obtain ⟨hy0, hy1⟩ := hyb
    have hs' : ((s : Int)).toNat = s := by omega
    rw [hs', ← hy] at hwf2 ⊢
    have Hy := Lib.hid hy
    have HL := Lib.hid hln
    have hsi : (s : Int) < 4 := by omega
    clear hm h1 h2 hs hy hln hcc hs'
    go_enter Tryd.func17, Tryd.ntmps17
    go_wp2_with fail
    refine HK.out.mono ?_
    rintro e w1 ⟨v1, rfl, hown, hb1⟩
    rcases hown.2 with ⟨-, h0⟩ | ⟨g, cap1, cur, rfl, hb', hgg, rest⟩
    · rw [HL.out] at h0; cases h0
    go_wp2_with fail
    refine (HM.out _ hb1).mono ?_
    rintro e w2 ⟨rfl, b2⟩
    have hown2 := own_below hown b2
    have B2 := hb1.trans (b2.mono hb1.size)
    have hcl : w2.cell? ⟨g, s, none⟩ = some (.int .i64 y) := by
      rw [hown2.cellAt s (by rw [HL.out]; omega), List.getElem?_map, List.getElem?_eq_getElem (by rw [HL.out]; omega), Hy.out]; simp [List.getD, HL.out, hs3]
    have hfr : w2.frozen? ⟨g, s, none⟩ = false := hown2.frozenAt s
    have hst := (hown2.stored s (.int .i64 (y + 1))).1
    rw [← List.map_set] at hst
    have B3 : Below w.heap.size w (w2.setCell ⟨g, s, none⟩ (.int .i64 (y + 1))) := B2.setCell hb' _
    have hst2 : (w2.setCell ⟨g, s, none⟩ (.int .i64 (y + 1))).ownsRow w.heap.size 3 1 (.slice (some ⟨g, 0, none⟩) zs.length cap1) (zs.set s (y + 1)).length ((zs.set s (y + 1)).map (Value.int .i64)) := by rw [List.length_set]; exact hst
    have HW := Lib.hid (own_wr hst2 hwf2)
    have hsl : s < zs.length := by rw [HL.out]; omega
    clear hown hown2 b2 hb1 hst hst2 hgg rest B2
    go_wp2_with fail
    refine (suitOf_r _ _ _ HSu.out).mono ?_
    rintro e _w ⟨rfl, rfl⟩
    go_wp2_with fail
    go_ret2
    obtain ⟨b', hb2', hw'⟩ := HW.out
    exact ⟨_, b', rfl, hb2', hw', B3⟩
end Go.Proofs.YtljpeiffpkfnlaaDoor
