/-
  The hands of five, the program's: cmp.Or of two numbers; the comparison of two ranks.
-/
import Derived.Test.YtcafbnddbddijaaFive0
import Derived.Test.YtcafbnddbddijaaMarksI
import Derived.Test.YtcafbnddbddijaaShelf
import Derived.BigQuiet
import Derived.IntWalk
import Derived.Sort.Grow
import Derived.Maps.AppendAt
import Derived.Deep.RegionHeld3
namespace Go.Proofs.Ytcafbnddbddijaa
open Go.RowKit Go.Sort
set_option linter.unusedVariables false
set_option linter.unusedSimpArgs false

def orI (x y : Int) : Int := if x = 0 then y else x

set_option maxRecDepth 100000 in
theorem cmpOr_any (v : Value) (x y : Int) (b : Nat) (w : World) (h : RdAt .i64 w v [x, y] b) :
    Calls Try.prog 74 #[v] w fun e w' => e = .returned (.int .i64 (orI x y)) ∧ w = w' := by
  obtain ⟨a, cap, rfl, -, -, hcell⟩ := h
  obtain ⟨off, rfl, hc⟩ : ∃ off, a = some ⟨b, off, none⟩ ∧ ∀ j (hj : j < [x, y].length), w.cell? ⟨b, off + j, none⟩ = some (.int .i64 [x, y][j]) := by
    rcases hcell with h0 | h1
    · simp at h0
    · exact h1
  have c0 : w.cell? ⟨b, off, none⟩ = some (.int .i64 x) := hc 0 (by simp)
  have c1 : w.cell? ⟨b, off + 1, none⟩ = some (.int .i64 y) := hc 1 (by simp)
  have C0 := Lib.hid c0
  have C1 := Lib.hid c1
  obtain ⟨r, hr⟩ : ∃ r, r = orI x y := ⟨_, rfl⟩
  have Hr := Lib.hid hr
  rw [← hr]
  clear hc hcell hr c0 c1
  go_enter Try.func74, Try.ntmps74
  go_wp2_with fail
  go_loop [5, 8] (fun _ i => ∃ k : Nat, k ≤ 2 ∧ i = .int .i64 k ∧ Hid ((1 ≤ k → x = 0) ∧ (2 ≤ k → y = 0))) (fun _ i => 2 - (intOf i).toNat)
  case atStart => exact ⟨0, Nat.zero_le _, rfl, Lib.hid ⟨fun h => by omega, fun h => by omega⟩⟩
  case round =>
    obtain ⟨k, hk, rfl, hz⟩ := hrel
    match k, hk with
    | 0, _ =>
      have c0 := C0.out
      by_cases hx : x = 0
      · subst hx
        go_wp2_with fail
        go_round
        case rel => exact ⟨1, by omega, by first | trivial | rfl, Lib.hid ⟨fun _ => by first | trivial | rfl, fun h => by omega⟩⟩
        case measure => simp [intOf]
      · have hq : (x == 0) = false := by simpa using hx
        have hq2 : (x != 0) = true := by simpa using hx
        have hr1 : Hid (r = x) := Lib.hid (by rw [Hr.out]; exact if_neg hx)
        clear hx
        go_wp2_with fail
        go_ret
        exact ⟨by rw [hr1.out]; rfl, rfl⟩
    | 1, _ =>
      have c1 := C1.out
      have hx : x = 0 := hz.out.1 (Nat.le_refl _)
      by_cases hy : y = 0
      · subst hy
        go_wp2_with fail
        go_round
        case rel => exact ⟨2, by omega, by first | trivial | rfl, Lib.hid ⟨fun _ => by first | trivial | exact hx, fun _ => by first | trivial | rfl⟩⟩
        case measure => simp [intOf]
      · have hq : (y == 0) = false := by simpa using hy
        have hq2 : (y != 0) = true := by simpa using hy
        have hr1 : Hid (r = y) := Lib.hid (by rw [Hr.out]; exact if_pos hx)
        clear hy hx
        go_wp2_with fail
        go_ret
        exact ⟨by rw [hr1.out]; rfl, rfl⟩
    | 2, _ =>
      have hr1 : Hid (r = 0) := Lib.hid (by rw [Hr.out]; unfold orI; rw [if_pos (hz.out.1 (by omega))]; exact hz.out.2 (by omega))
      go_wp2_with fail
      go_ret
      exact ⟨by rw [hr1.out]; rfl, rfl⟩

theorem rd_two (W : World) (t : TypeId) (x y : Int) (hx : (Lit.int .i64 x).wf = true) (hy : (Lit.int .i64 y).wf = true) : RdAt .i64 (W.alloc (.cells #[.int .i64 x, .int .i64 y] t)) (.slice (some ⟨W.heap.size, 0, none⟩) 2 2) [x, y] W.heap.size := by
  refine ⟨_, _, rfl, ⟨by simp, by unfold maxLen; omega, by simp⟩, ?_, .inr ⟨0, rfl, ?_⟩⟩
  · intro z hz
    simp at hz
    rcases hz with rfl | rfl
    · exact hx
    · exact hy
  · intro j hj
    have e : (W.alloc (.cells #[.int .i64 x, .int .i64 y] t)).heap[W.heap.size]? = some (.cells #[.int .i64 x, .int .i64 y] t (0, 0)) := by
      show (W.heap.push _)[W.heap.size]? = _
      simp
    unfold World.cell?
    match j, hj with
    | 0, _ => simp only [e]; rfl
    | 1, _ => simp only [e]; rfl
theorem compareInt_rng (x y : Int) : -1 ≤ Lib.compareInt x y ∧ Lib.compareInt x y ≤ 1 := by
  unfold Lib.compareInt
  split <;> (try split) <;> omega

set_option maxRecDepth 100000 in
set_option maxHeartbeats 2000000 in
theorem ranksCmp_any (a b g : Nat) (n : Nat → Nat) (w : World) (ha : a < 13) (hb : b < 13) (hc : ∀ r, r < 13 → w.cell? ⟨g, r, none⟩ = some (.int .i64 (n r : Nat))) :
    Calls Try.prog 73 #[.int .i64 a, .int .i64 b, .pointer (some ⟨g, 0, none⟩)] w fun e w' =>
      e = .returned (.int .i64 (orI (Lib.compareInt (n b) (n a)) (Lib.compareInt b a))) ∧ ∃ q os, w' = grow (w.drewN q) os := by
  have ca := hc a ha
  have cb := hc b hb
  have HC1 := Lib.hid (Try.cmp_Compare_int (n b) (n a))
  have HC2 := Lib.hid (Try.cmp_Compare_int b a)
  have r1 := compareInt_rng (n b) (n a)
  have r2 := compareInt_rng b a
  generalize Lib.compareInt (n b) (n a) = c1 at *
  generalize Lib.compareInt b a = c2 at *
  have HO := Lib.hid (fun (W : World) (t : TypeId) => cmpOr_any _ c1 c2 _ _ (rd_two W t c1 c2 (WalkArith.wf_i64 (by omega)) (WalkArith.wf_i64 (by omega))))
  have HOd := Lib.hid (fun (W : World) (t : TypeId) => cmpOr_any _ c1 c2 _ _ ((rd_two W t c1 c2 (WalkArith.wf_i64 (by omega)) (WalkArith.wf_i64 (by omega))).keep (w' := (W.alloc (.cells #[.int .i64 c1, .int .i64 c2] t)).drew) fun _ => rfl))
  have qa : (a : Int) < 13 := by omega
  have qb : (b : Int) < 13 := by omega
  clear hc r1 r2
  go_enter Try.func73, Try.ntmps73
  go_wp2_with fail
  go_region_held3 (fun w' => w'.cell? ⟨g, a, none⟩ = some (.int .i64 (n a : Nat)) ∧ w'.cell? ⟨g, b, none⟩ = some (.int .i64 (n b : Nat))) (go_keep) (first
    | (go_at_call 75; (with_reducible refine Calls.mono (HC1.out _) ?_); rintro e _w ⟨rfl, rfl⟩)
    | (go_at_call 75; (with_reducible refine Calls.mono (HC2.out _) ?_); rintro e _w ⟨rfl, rfl⟩)
    | (go_at_call 74; (with_reducible refine Calls.mono (HOd.out _ _) ?_); rintro e _w ⟨rfl, rfl⟩)
    | (go_at_call 74; (with_reducible refine Calls.mono (HO.out _ _) ?_); rintro e _w ⟨rfl, rfl⟩))
  all_goals
    go_wp2_with fail
    go_ret
    refine ⟨rfl, ?_⟩
    exact ⟨1, #[_], by rw [alloc_eq_grow, drew_grow]; rfl⟩
end Go.Proofs.Ytcafbnddbddijaa
