/-
  Foundations: IsBase, MayBuild, IsSafe of the program.
-/
import Derived.Test.YtljpeiffpkfnlaaDoorBase
import Derived.Deep.RegionHeld3
namespace Go.Proofs.YtljpeiffpkfnlaaDoor
open Go.RowKit
set_option linter.unusedVariables false

theorem cells4 {w : World} {b : Nat} {a0 a1 a2 a3 : Value} {t : TypeId} {fr : Nat × Nat} (h : w.heap[b]? = some (.cells #[a0, a1, a2, a3] t fr)) : w.cell? ⟨b, 0, none⟩ = some a0 ∧ w.cell? ⟨b, 1, none⟩ = some a1 ∧ w.cell? ⟨b, 2, none⟩ = some a2 ∧ w.cell? ⟨b, 3, none⟩ = some a3 := by
  simp [World.cell?, h]
theorem takes_n (x0 x1 x2 x3 c : Int) (w : World) (hc : isCard c = false) :
    Calls Tryd.prog 36 #[agg4 x0 x1 x2 x3, .int .i64 c] w fun e w' => e = .returned (.bool false) ∧ Below w.heap.size w w' := by
  have HC := Lib.hid hc
  have B0 := fun o => (Below.refl w.heap.size w).alloc (Nat.le_refl _) o
  clear hc
  unfold agg4
  go_enter Tryd.func36, Tryd.ntmps36
  go_wp2_with fail
  go_quiet ((go_at_call 30; exact Calls.quiet_of_same (flip_same (isCard_r _ _ _ HC.out) rfl)))
  go_wp2_with fail
  go_ret
  exact ⟨rfl, below_drewN (B0 _) _⟩
set_option maxRecDepth 100000 in
set_option maxHeartbeats 2000000 in
theorem takes_y (a0 a1 : Addr) (x0 x1 x2 x3 c : Int) (w : World) (hc : isCard c = true) (r0 : 0 ≤ x0 ∧ x0 ≤ 13) (r1 : 0 ≤ x1 ∧ x1 ≤ 13) (r2 : 0 ≤ x2 ∧ x2 ≤ 13) (r3 : 0 ≤ x3 ∧ x3 ≤ 13) (hS : Sent a0 a1 w) (r : Bool) (hr : decide (stepOf c = [x0, x1, x2, x3].getD (c / 13).toNat 0 + 1) = r) :
    Calls Tryd.prog 36 #[agg4 x0 x1 x2 x3, .int .i64 c] w fun e w' => e = .returned (.bool r) ∧ Below w.heap.size w w' := by
  have HC := Lib.hid hc
  have hcc := isCard_t hc
  obtain ⟨s, hs⟩ : ∃ s : Nat, (s : Int) = c / 13 := ⟨(c / 13).toNat, by omega⟩
  have hs3 : s < 4 := by omega
  have hsu : suitOf c = (s : Int) := by rw [suit_in hc, hs]
  have HSu := Lib.hid hsu
  rw [← hs] at hr
  have HP := Lib.hid (fun wx hw => placeOf_any a0 a1 c wx (hS.below (w' := wx) hw (Nat.le_refl _)))
  have HN := Lib.hid (fun wx => nextPlace_any x0 x1 x2 x3 s hs3 wx r0 r1 r2 r3)
  rw [hsu] at HP
  have hr' : decide (stepOf c = [x0, x1, x2, x3].getD s 0 + 1) = r := hr
  generalize stepOf c = t at *
  generalize [x0, x1, x2, x3].getD s 0 + 1 = y at *
  obtain ⟨W0, hW0⟩ : ∃ W, W = w.alloc (.cells #[.int .i64 x0, .int .i64 x1, .int .i64 x2, .int .i64 x3] 37) := ⟨_, rfl⟩
  have B : Below w.heap.size w W0 := by rw [hW0]; exact (Below.refl _ _).alloc (Nat.le_refl _) _
  have G : W0.heap[w.heap.size]? = some (.cells #[.int .i64 x0, .int .i64 x1, .int .i64 x2, .int .i64 x3] 37 (0, 0)) := by rw [hW0]; exact heap_alloc_new _ _
  have lG : w.heap.size < W0.heap.size := (Array.getElem?_eq_some_iff.1 G).1
  have HG : Hid (∀ wx, Below W0.heap.size W0 wx → wx.cell? ⟨w.heap.size, 0, none⟩ = some (.int .i64 x0) ∧ wx.cell? ⟨w.heap.size, 1, none⟩ = some (.int .i64 x1) ∧ wx.cell? ⟨w.heap.size, 2, none⟩ = some (.int .i64 x2) ∧ wx.cell? ⟨w.heap.size, 3, none⟩ = some (.int .i64 x3)) := Lib.hid (fun wx hb => cells4 ((hb.block _ lG).trans G))
  obtain ⟨k0, k1, k2, k3⟩ := cells4 G
  have HW0 := Lib.hid hW0
  have HB := Lib.hid B
  clear hc hcc hs hs3 hsu r0 r1 r2 r3 hS hW0 G lG B hr
  unfold agg4
  unfold agg2 at HP HN
  cases r with
  | true =>
    have e : t = y := of_decide_eq_true hr'
    subst e
    clear hr'
    go_enter Tryd.func36, Tryd.ntmps36
    go_wp2_with fail
    rw [← HW0.out]
    go_region_held3 (fun w' => w'.cell? ⟨w.heap.size, 0, none⟩ = some (.int .i64 x0) ∧ w'.cell? ⟨w.heap.size, 1, none⟩ = some (.int .i64 x1) ∧ w'.cell? ⟨w.heap.size, 2, none⟩ = some (.int .i64 x2) ∧ w'.cell? ⟨w.heap.size, 3, none⟩ = some (.int .i64 x3)) (go_keep) (first
      | (go_at_call 30; refine (isCard_r _ _ _ HC.out).mono ?_; rintro e _w ⟨rfl, rfl⟩)
      | (go_at_call 41; refine (HP.out _ HB.out.drew).mono ?_; rintro e wy ⟨rfl, By⟩; obtain ⟨y0, y1, y2, y3⟩ := HG.out wy ((Below.refl _ _).drew.trans By))
      | (go_at_call 38; refine (suitOf_r _ _ _ HSu.out).mono ?_; rintro e _w ⟨rfl, rfl⟩)
      | (go_at_call 53; refine (HN.out _).mono ?_; rintro e wz ⟨rfl, Bz⟩; obtain ⟨z0, z1, z2, z3⟩ := HG.out wz (((Below.refl _ _).drew.trans By).trans (Bz.mono By.size))))
    all_goals
      go_wp2_with fail
      go_ret
      exact ⟨rfl, (HB.out.drew.trans (By.mono HB.out.drew.size)).trans (Bz.mono (Nat.le_trans HB.out.drew.size By.size))⟩
  | false =>
    have e : (t == y) = false := by simpa using of_decide_eq_false hr'
    clear hr'
    go_enter Tryd.func36, Tryd.ntmps36
    go_wp2_with fail
    rw [← HW0.out]
    go_region_held3 (fun w' => w'.cell? ⟨w.heap.size, 0, none⟩ = some (.int .i64 x0) ∧ w'.cell? ⟨w.heap.size, 1, none⟩ = some (.int .i64 x1) ∧ w'.cell? ⟨w.heap.size, 2, none⟩ = some (.int .i64 x2) ∧ w'.cell? ⟨w.heap.size, 3, none⟩ = some (.int .i64 x3)) (go_keep) (first
      | (go_at_call 30; refine (isCard_r _ _ _ HC.out).mono ?_; rintro e _w ⟨rfl, rfl⟩)
      | (go_at_call 41; refine (HP.out _ HB.out.drew).mono ?_; rintro e wy ⟨rfl, By⟩; obtain ⟨y0, y1, y2, y3⟩ := HG.out wy ((Below.refl _ _).drew.trans By))
      | (go_at_call 38; refine (suitOf_r _ _ _ HSu.out).mono ?_; rintro e _w ⟨rfl, rfl⟩)
      | (go_at_call 53; refine (HN.out _).mono ?_; rintro e wz ⟨rfl, Bz⟩; obtain ⟨z0, z1, z2, z3⟩ := HG.out wz (((Below.refl _ _).drew.trans By).trans (Bz.mono By.size))))
    all_goals
      go_wp2_with fail
      go_ret
      exact ⟨rfl, (HB.out.drew.trans (By.mono HB.out.drew.size)).trans (Bz.mono (Nat.le_trans HB.out.drew.size By.size))⟩
end Go.Proofs.YtljpeiffpkfnlaaDoor
