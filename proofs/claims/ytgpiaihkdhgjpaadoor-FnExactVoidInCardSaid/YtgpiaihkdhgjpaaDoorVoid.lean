/-
  VoidIn, both sides.
-/
import Derived.Test.YtgpiaihkdhgjpaaDoorIsDealS
import Derived.Test.YtgpiaihkdhgjpaaDoorCard
import Derived.Test.YtgpiaihkdhgjpaaDoorFrX
import Derived.BigQuiet
import Derived.Deep.QuietTactic
namespace Go.Proofs.YtgpiaihkdhgjpaaDoor
open Go.RowKit
set_option linter.unusedVariables false
set_option linter.unusedSimpArgs false

def placeI (D : MDeal) (who : Int) : Nat := (modI (who - D.leader) D.hands.length).toNat
def voidI (D : MDeal) (who : Int) : Int :=
  if isDeal D && decide (0 ≤ who ∧ who ≤ (D.hands.length : Int) - 1) && decide (placeI D who < D.trick.length) then (if suitOf (D.trick.getD (placeI D who) 0) = suitOf (D.trick.getD 0 0) then -1 else suitOf (D.trick.getD 0 0)) else -1
theorem void_no1 {D : MDeal} {who : Int} (h : isDeal D = false) : voidI D who = -1 := by unfold voidI; rw [h]; rfl
theorem void_no2 {D : MDeal} {who : Int} (h : ¬ (0 ≤ who ∧ who ≤ (D.hands.length : Int) - 1)) : voidI D who = -1 := by unfold voidI; rw [decide_eq_false h]; simp
theorem void_no3 {D : MDeal} {who : Int} (h : ¬ placeI D who < D.trick.length) : voidI D who = -1 := by unfold voidI; rw [decide_eq_false h]; simp
theorem void_yes {D : MDeal} {who : Int} (h1 : isDeal D = true) (h2 : 0 ≤ who ∧ who ≤ (D.hands.length : Int) - 1) (h3 : placeI D who < D.trick.length) : voidI D who = if suitOf (D.trick.getD (placeI D who) 0) = suitOf (D.trick.getD 0 0) then -1 else suitOf (D.trick.getD 0 0) := by
  unfold voidI; rw [h1, decide_eq_true h2, decide_eq_true h3]; rfl
theorem deal_shapes {D : MDeal} (h : isDeal D = true) : shape1 D ∧ shape2 D := by
  unfold isDeal at h
  simp only [Bool.and_eq_true, decide_eq_true_eq] at h
  exact ⟨h.1.1.1, h.1.1.2⟩
theorem place_bd {D : MDeal} {who : Int} (h : shape1 D) : (placeI D who : Int) = modI (who - D.leader) D.hands.length ∧ placeI D who < D.hands.length := by
  obtain ⟨⟨h1, h2⟩, -⟩ := h
  have : 0 ≤ modI (who - D.leader) D.hands.length ∧ modI (who - D.leader) D.hands.length < D.hands.length := by
    unfold modI
    rw [if_pos ⟨by omega, by omega⟩]
    exact ⟨Int.emod_nonneg _ (by omega), Int.emod_lt_of_pos _ (by omega)⟩
  unfold placeI
  omega
theorem place_mod {D : MDeal} {who : Int} (h : shape1 D) : (who - D.leader + (D.hands.length : Int)) % (D.hands.length : Int) = (placeI D who : Int) := by
  rw [(place_bd h).1]
  obtain ⟨⟨h1, h2⟩, -⟩ := h
  unfold modI
  rw [if_pos ⟨by omega, by omega⟩, Int.add_emod_right]
set_option maxRecDepth 100000 in
set_option maxHeartbeats 2000000 in
theorem voidIn_any (a0 a1 : Addr) (v : Value) (D : MDeal) (who : Int) (w : World) (h : RdDeal w v D) (hf : D.Few) (wfw : (Lit.int .i64 who).wf = true) (hS : Sent a0 a1 w) :
    Calls Tryd.prog 12 #[v, .int .i64 who] w fun e w' => e = .returned (.int .i64 (voidI D who)) ∧ Below w.heap.size w w' := by
  have hD := h
  obtain ⟨v0, v3, v4, v5, b3, b4, b5, rfl, h0, h3, h4, h5, wf1, wf2, wf6⟩ := h
  have hf' := hf
  obtain ⟨f0, fs0, f3, f4, f5⟩ := hf'
  obtain ⟨p0, c0, e0, -⟩ := id h0
  obtain ⟨p3, c3, e3, -⟩ := id h3
  obtain ⟨p4, c4, e4, -⟩ := id h4
  obtain ⟨p5, c5, e5, -⟩ := id h5
  subst e0 e3 e4 e5
  obtain ⟨r, hr⟩ : ∃ r, r = voidI D who := ⟨_, rfl⟩
  have HR := Lib.hid hr
  rw [← hr]
  have B0 : ∀ o1, Below w.heap.size w (w.alloc o1) := fun o1 => (Below.refl w.heap.size w).alloc (Nat.le_refl _) o1
  obtain ⟨W0, hW0⟩ : ∃ W0, W0 = w.alloc (.cells #[.slice p0 D.hands.length c0, .int .i64 D.leader, .int .i64 D.trump, .slice p3 D.trick.length c3, .slice p4 D.won.length c4, .slice p5 D.points.length c5, .int .i64 D.left] 28) := ⟨_, rfl⟩
  have G0 : W0.heap[w.heap.size]? = some (.cells #[.slice p0 D.hands.length c0, .int .i64 D.leader, .int .i64 D.trump, .slice p3 D.trick.length c3, .slice p4 D.won.length c4, .slice p5 D.points.length c5, .int .i64 D.left] 28 (0, 0)) := by rw [hW0]; exact heap_alloc_new _ _
  have l0 : w.heap.size < W0.heap.size := by rw [hW0]; simp
  have BW0 : Below w.heap.size w W0 := by rw [hW0]; exact B0 _
  rw [hW0] at G0 l0 BW0
  cases hq : isDeal D with
  | false =>
    have HI := Lib.hid (isDeal_any a0 a1 _ D _ (hD.below BW0) hf (hS.below BW0 (Nat.le_refl _)) false hq)
    have Hf : Hid (r = -1) := Lib.hid (by rw [HR.out]; exact void_no1 hq)
    clear hr hD hf hq h0 h3 h4 h5 hS
    go_enter Tryd.func12, Tryd.ntmps12
    go_wp2_with fail
    refine HI.out.mono ?_
    rintro e w1 ⟨rfl, B1⟩
    have l1 := Nat.lt_of_lt_of_le l0 B1.size
    have G1 := (B1.block _ l0).trans G0
    have B2 := BW0.trans (B1.mono BW0.size)
    go_wp2_with fail
    go_ret
    exact ⟨by rw [Hf.out]; rfl, B2⟩
  | true =>
    have HI := Lib.hid (isDeal_any a0 a1 _ D _ (hD.below BW0) hf (hS.below BW0 (Nat.le_refl _)) true hq)
    obtain ⟨s1, s2⟩ := deal_shapes hq
    have s1' := s1
    have s2' := s2
    obtain ⟨⟨n2, n4⟩, -, -⟩ := s1'
    obtain ⟨⟨l0', l1'⟩, -, -, tl⟩ := s2'
    by_cases hw : 0 ≤ who ∧ who ≤ (D.hands.length : Int) - 1
    · have HW := Lib.hid (fun wx => inR_any who 0 ((D.hands.length : Int) - 1) wx true (by simpa using hw))
      have hpb := place_bd (who := who) s1
      have hpm := Lib.hid (place_mod (who := who) s1)
      have hy := Lib.hid (fun h3 => void_yes hq hw h3)
      have hn := Lib.hid (fun (h3 : ¬ placeI D who < D.trick.length) => void_no3 h3)
      have HP := Lib.hid (fun wx (hb : Below w.heap.size w wx) => playedInTrick_any a0 a1 _ D who wx (hD.below hb) hf (by omega) (by omega) (by omega) (by omega) (hS.below hb (Nat.le_refl _)))
      have hpI : playedI D who = if placeI D who < D.trick.length then 1 else 0 := by
        unfold playedI; rw [← hpb.1]
        by_cases e : placeI D who < D.trick.length
        · rw [if_pos e, if_pos (by omega)]
        · rw [if_neg e, if_neg (by omega)]
      have HMo := Lib.hid (fun wx (hb : Below w.heap.size w wx) => mod_any a0 a1 (who - D.leader) D.hands.length wx (WalkArith.wf_i64 (by omega)) (hS.below hb (Nat.le_refl _)))
      rw [← hpb.1] at HMo
      have hwr : IntKind.i64.wrap (who - D.leader) = who - D.leader := by rw [IntKind.wrap_i64]; omega
      obtain ⟨k, hk⟩ : ∃ k, k = placeI D who := ⟨_, rfl⟩
      rw [← hk] at HMo hpI hpb hy hn
      have HG : Hid (∀ wx, Below w.heap.size w wx → wx.heap[w.heap.size]? = some (.cells #[.slice p0 D.hands.length c0, .int .i64 D.leader, .int .i64 D.trump, .slice p3 D.trick.length c3, .slice p4 D.won.length c4, .slice p5 D.points.length c5, .int .i64 D.left] 28 (0, 0)) → wx.cell? ⟨w.heap.size, 0, none⟩ = some (.slice p0 D.hands.length c0) ∧ wx.cell? ⟨w.heap.size, 1, none⟩ = some (.int .i64 D.leader) ∧ wx.cell? ⟨w.heap.size, 2, none⟩ = some (.int .i64 D.trump) ∧ wx.cell? ⟨w.heap.size, 3, none⟩ = some (.slice p3 D.trick.length c3) ∧ wx.cell? ⟨w.heap.size, 4, none⟩ = some (.slice p4 D.won.length c4) ∧ wx.cell? ⟨w.heap.size, 5, none⟩ = some (.slice p5 D.points.length c5) ∧ wx.cell? ⟨w.heap.size, 6, none⟩ = some (.int .i64 D.left)) := Lib.hid (fun wx hb G => by
        refine ⟨?_, ?_, ?_, ?_, ?_, ?_, ?_⟩ <;> rw [box_cell G] <;> rfl)
      by_cases hkl : k < D.trick.length
      · rw [if_pos hkl] at hpI
        rw [hpI] at HP
        obtain ⟨pa, ca, epa, -, -, hcell⟩ := h3
        rcases hcell with e0 | ⟨off, rfl, hc⟩
        · rw [e0] at hkl; simp at hkl
        obtain ⟨rfl, rfl⟩ : p3 = some ⟨b3, off, none⟩ ∧ c3 = ca := by simpa using epa
        obtain ⟨y, hy'⟩ : ∃ y, y = D.trick[k] := ⟨_, rfl⟩
        obtain ⟨z, hz'⟩ : ∃ z, z = D.trick[0]'(by omega) := ⟨_, rfl⟩
        have hcy : w.cell? ⟨b3, off + k, none⟩ = some (.int .i64 y) := by rw [hc k hkl, hy']
        have hcz : w.cell? ⟨b3, off, none⟩ = some (.int .i64 z) := by have := hc 0 (by omega); rw [Nat.add_zero] at this; rw [this, hz']
        have HC : Hid (∀ wx, Below w.heap.size w wx → wx.cell? ⟨b3, off + k, none⟩ = some (.int .i64 y) ∧ wx.cell? ⟨b3, off, none⟩ = some (.int .i64 z)) := Lib.hid (fun wx hb => ⟨(hb.cell (World.block_lt_of_cell? _ _ hcy)).trans hcy, (hb.cell (World.block_lt_of_cell? _ _ hcz)).trans hcz⟩)
        have Hres : Hid (r = if suitOf y = suitOf z then -1 else suitOf z) := Lib.hid (by
          have := hy.out hkl
          rw [HR.out, this, hy', hz']
          simp [List.getD, hkl, show 0 < D.trick.length by omega])
        obtain ⟨sy, hsy⟩ : ∃ s, suitOf y = s := ⟨_, rfl⟩
        obtain ⟨sz, hsz⟩ : ∃ s, suitOf z = s := ⟨_, rfl⟩
        rw [hsy, hsz] at Hres
        have HSy := Lib.hid (fun wx => suitOf_r y wx sy hsy)
        have HSz := Lib.hid (fun wx => suitOf_r z wx sz hsz)
        have kL : (k : Int) < (D.trick.length : Int) := by omega
        have kP : 0 < D.trick.length := by omega
        have kN : (0 : Int) ≤ (k : Int) := by omega
        have kT : ((k : Int)).toNat = k := by omega
        clear hr hD hf hq h0 h4 h5 hS hc hcy hcz hy' hz' hsy hsz hpI hpb hy hn hpm s1 s2 epa f3 hk
        generalize D.trick.length = m at *
        generalize D.hands.length = n at *
        go_enter Tryd.func12, Tryd.ntmps12
        go_wp2_with fail
        refine HI.out.mono ?_
        rintro e w1 ⟨rfl, B1⟩
        have l1 := Nat.lt_of_lt_of_le l0 B1.size
        have G1 := (B1.block _ l0).trans G0
        have B2 := BW0.trans (B1.mono BW0.size)
        obtain ⟨k0, k1, k2, k3, k4, k5, k6⟩ := HG.out w1 B2 G1
        have HP1 := Lib.hid (HP.out w1 B2)
        go_wp2_with fail
        refine (HW.out _).mono ?_
        rintro e _w ⟨rfl, rfl⟩
        go_wp2_with fail
        refine HP1.out.mono ?_
        rintro e w2 ⟨rfl, B3⟩
        clear k0 k1 k2 k3 k4 k5 k6
        have G2 := (B3.block _ l1).trans G1
        have B4 := B2.trans (B3.mono B2.size)
        obtain ⟨k0, k1, k2, k3, k4, k5, k6⟩ := HG.out w2 B4 G2
        obtain ⟨cy, cz⟩ := HC.out w2 B4
        have HM2 := Lib.hid (HMo.out w2 B4)
        go_wp2_with fail
        refine (HSz.out _).mono ?_
        rintro e _w ⟨rfl, rfl⟩
        go_wp2_with fail
        go_quiet ((go_at_call 44; first | exact Calls.quiet_of_same (flip_same (HMo.out _ (below_drewN B4 _)) rfl) | exact Calls.quiet_of_same (flip_same HM2.out rfl)))
        go_wp2_with fail
        refine (HSy.out _).mono ?_
        rintro e _w ⟨rfl, rfl⟩
        by_cases hss : sy = sz
        · have hf2 : Hid (r = -1) := Lib.hid (by rw [Hres.out, if_pos hss])
          have hd : (sy == sz) = true := by simpa using hss
          clear hss
          go_wp2_with fail
          go_ret
          exact ⟨by rw [hf2.out]; rfl, below_drewN B4 _⟩
        · have hf2 : Hid (r = sz) := Lib.hid (by rw [Hres.out, if_neg hss])
          have hd : (sy == sz) = false := by simpa using hss
          clear hss
          go_wp2_with fail
          go_ret
          exact ⟨by rw [hf2.out]; rfl, below_drewN B4 _⟩
      · rw [if_neg hkl] at hpI
        rw [hpI] at HP
        have Hf : Hid (r = -1) := Lib.hid (by rw [HR.out]; exact hn.out hkl)
        clear hr hD hf hq h0 h3 h4 h5 hS hpI hpb hy hn hpm s1 s2 hk
        go_enter Tryd.func12, Tryd.ntmps12
        go_wp2_with fail
        refine HI.out.mono ?_
        rintro e w1 ⟨rfl, B1⟩
        have l1 := Nat.lt_of_lt_of_le l0 B1.size
        have G1 := (B1.block _ l0).trans G0
        have B2 := BW0.trans (B1.mono BW0.size)
        obtain ⟨k0, k1, k2, k3, k4, k5, k6⟩ := HG.out w1 B2 G1
        have HP1 := Lib.hid (HP.out w1 B2)
        go_wp2_with fail
        refine (HW.out _).mono ?_
        rintro e _w ⟨rfl, rfl⟩
        go_wp2_with fail
        refine HP1.out.mono ?_
        rintro e w2 ⟨rfl, B3⟩
        have B4 := B2.trans (B3.mono B2.size)
        go_wp2_with fail
        go_ret
        exact ⟨by rw [Hf.out]; rfl, B4⟩
    · have HW := Lib.hid (fun wx => inR_any who 0 ((D.hands.length : Int) - 1) wx false (by simp only [decide_eq_false hw]))
      have Hf : Hid (r = -1) := Lib.hid (by rw [HR.out]; exact void_no2 hw)
      have HG : Hid (∀ wx : World, wx.heap[w.heap.size]? = some (.cells #[.slice p0 D.hands.length c0, .int .i64 D.leader, .int .i64 D.trump, .slice p3 D.trick.length c3, .slice p4 D.won.length c4, .slice p5 D.points.length c5, .int .i64 D.left] 28 (0, 0)) → wx.cell? ⟨w.heap.size, 0, none⟩ = some (.slice p0 D.hands.length c0)) := Lib.hid (fun wx G => by rw [box_cell G]; rfl)
      clear hr hD hf hq h0 h3 h4 h5 hw s1 s2 hS
      go_enter Tryd.func12, Tryd.ntmps12
      go_wp2_with fail
      refine HI.out.mono ?_
      rintro e w1 ⟨rfl, B1⟩
      have G1 := (B1.block _ l0).trans G0
      have B2 := BW0.trans (B1.mono BW0.size)
      have k0 := HG.out w1 G1
      go_wp2_with fail
      refine (HW.out _).mono ?_
      rintro e _w ⟨rfl, rfl⟩
      go_wp2_with fail
      go_ret
      exact ⟨by rw [Hf.out]; rfl, B2⟩
set_option maxRecDepth 100000 in
set_option maxHeartbeats 2000000 in
theorem sVoidIn_any (v : Value) (D : MDeal) (who : Int) (w : World) (h : RdDeal w v D) (hf : D.Few) (wfw : (Lit.int .i64 who).wf = true) :
    Calls Tryd.prog 10 #[v, .int .i64 who] w fun e w' => e = .returned (.int .i64 (voidI D who)) ∧ Below w.heap.size w w' := by
  have hD := h
  obtain ⟨v0, v3, v4, v5, b3, b4, b5, rfl, h0, h3, h4, h5, wf1, wf2, wf6⟩ := h
  have hf' := hf
  obtain ⟨f0, fs0, f3, f4, f5⟩ := hf'
  obtain ⟨p0, c0, e0, -⟩ := id h0
  obtain ⟨p3, c3, e3, -⟩ := id h3
  obtain ⟨p4, c4, e4, -⟩ := id h4
  obtain ⟨p5, c5, e5, -⟩ := id h5
  subst e0 e3 e4 e5
  obtain ⟨r, hr⟩ : ∃ r, r = voidI D who := ⟨_, rfl⟩
  have HR := Lib.hid hr
  rw [← hr]
  have B0 : ∀ o1, Below w.heap.size w (w.alloc o1) := fun o1 => (Below.refl w.heap.size w).alloc (Nat.le_refl _) o1
  obtain ⟨W0, hW0⟩ : ∃ W0, W0 = w.alloc (.cells #[.slice p0 D.hands.length c0, .int .i64 D.leader, .int .i64 D.trump, .slice p3 D.trick.length c3, .slice p4 D.won.length c4, .slice p5 D.points.length c5, .int .i64 D.left] 28) := ⟨_, rfl⟩
  have G0 : W0.heap[w.heap.size]? = some (.cells #[.slice p0 D.hands.length c0, .int .i64 D.leader, .int .i64 D.trump, .slice p3 D.trick.length c3, .slice p4 D.won.length c4, .slice p5 D.points.length c5, .int .i64 D.left] 28 (0, 0)) := by rw [hW0]; exact heap_alloc_new _ _
  have l0 : w.heap.size < W0.heap.size := by rw [hW0]; simp
  have BW0 : Below w.heap.size w W0 := by rw [hW0]; exact B0 _
  rw [hW0] at G0 l0 BW0
  cases hq : isDeal D with
  | false =>
    have HI := Lib.hid (sIsDeal_any _ D _ (hD.below BW0) hf false hq)
    have Hf : Hid (r = -1) := Lib.hid (by rw [HR.out]; exact void_no1 hq)
    clear hr hD hf hq h0 h3 h4 h5
    go_enter Tryd.func10, Tryd.ntmps10
    go_wp2_with fail
    refine HI.out.mono ?_
    rintro e w1 ⟨rfl, B1⟩
    have l1 := Nat.lt_of_lt_of_le l0 B1.size
    have G1 := (B1.block _ l0).trans G0
    have B2 := BW0.trans (B1.mono BW0.size)
    go_wp2_with fail
    go_ret
    exact ⟨by rw [Hf.out]; rfl, B2⟩
  | true =>
    have HI := Lib.hid (sIsDeal_any _ D _ (hD.below BW0) hf true hq)
    obtain ⟨s1, s2⟩ := deal_shapes hq
    have s1' := s1
    have s2' := s2
    obtain ⟨⟨n2, n4⟩, -, -⟩ := s1'
    obtain ⟨⟨l0', l1'⟩, -, -, tl⟩ := s2'
    by_cases hw : 0 ≤ who ∧ who ≤ (D.hands.length : Int) - 1
    · have HW := Lib.hid (fun wx => inM_any who 0 ((D.hands.length : Int) - 1) wx true (by simpa using hw))
      have hpb := place_bd (who := who) s1
      have hpm := Lib.hid (place_mod (who := who) s1)
      have hy := Lib.hid (fun h3 => void_yes hq hw h3)
      have hn := Lib.hid (fun (h3 : ¬ placeI D who < D.trick.length) => void_no3 h3)
      have hwr : IntKind.i64.wrap (who - D.leader) = who - D.leader := by rw [IntKind.wrap_i64]; omega
      obtain ⟨k, hk⟩ : ∃ k, k = placeI D who := ⟨_, rfl⟩
      have hpm2 := hpm.out
      rw [← hk] at hpm2 hpb hy hn
      have HG : Hid (∀ wx : World, wx.heap[w.heap.size]? = some (.cells #[.slice p0 D.hands.length c0, .int .i64 D.leader, .int .i64 D.trump, .slice p3 D.trick.length c3, .slice p4 D.won.length c4, .slice p5 D.points.length c5, .int .i64 D.left] 28 (0, 0)) → wx.cell? ⟨w.heap.size, 0, none⟩ = some (.slice p0 D.hands.length c0) ∧ wx.cell? ⟨w.heap.size, 1, none⟩ = some (.int .i64 D.leader) ∧ wx.cell? ⟨w.heap.size, 3, none⟩ = some (.slice p3 D.trick.length c3)) := Lib.hid (fun wx G => by
        refine ⟨?_, ?_, ?_⟩ <;> rw [box_cell G] <;> rfl)
      have HPM := Lib.hid hpm2
      have hk4 : k < D.hands.length := hpb.2
      have htm : Int.tmod (who - D.leader + (D.hands.length : Int)) (D.hands.length : Int) = (k : Int) := by rw [Int.tmod_eq_emod_of_nonneg (by omega)]; exact hpm2
      have HC : Hid (∀ j (hj : j < D.trick.length), ∃ off, p3 = some ⟨b3, off, none⟩ ∧ w.cell? ⟨b3, off + j, none⟩ = some (.int .i64 D.trick[j])) := Lib.hid (fun j hj => by
        obtain ⟨pa, ca, epa, -, -, hcell⟩ := h3
        rcases hcell with e0 | ⟨off, rfl, hc⟩
        · rw [e0] at hj; simp at hj
        obtain ⟨rfl, rfl⟩ : p3 = some ⟨b3, off, none⟩ ∧ c3 = ca := by simpa using epa
        exact ⟨off, rfl, hc j hj⟩)
      by_cases hk0 : k = 0
      · have Hf : Hid (r = -1) := Lib.hid (by
          rw [HR.out]
          by_cases hkl : k < D.trick.length
          · rw [hy.out hkl, hk0, if_pos rfl]
          · exact hn.out hkl)
        subst hk0
        clear hr hD hf hq h0 h3 h4 h5 hpb hy hn hpm hpm2 s1 s2 HPM hk
        go_enter Tryd.func10, Tryd.ntmps10
        go_wp2_with fail
        refine HI.out.mono ?_
        rintro e w1 ⟨rfl, B1⟩
        have G1 := (B1.block _ l0).trans G0
        have B2 := BW0.trans (B1.mono BW0.size)
        obtain ⟨k0, k1, k3⟩ := HG.out w1 G1
        go_wp2_with fail
        refine (HW.out _).mono ?_
        rintro e _w ⟨rfl, rfl⟩
        go_wp2_with fail
        go_quiet (fail)
        go_wp2_with fail
        go_ret
        exact ⟨by rw [Hf.out]; rfl, below_drewN B2 _⟩
      · have hk1 : ¬ ((k : Int) < 1) := by omega
        have hd1 : decide ((k : Int) < 1) = false := by simp; omega
        by_cases hkl : k < D.trick.length
        · obtain ⟨off, rfl, hcy⟩ := HC.out k hkl
          obtain ⟨off2, eo, hcz⟩ := HC.out 0 (by omega)
          obtain rfl : off = off2 := by simpa using eo
          rw [Nat.add_zero] at hcz
          obtain ⟨y, hy'⟩ : ∃ y, y = D.trick[k] := ⟨_, rfl⟩
          obtain ⟨z, hz'⟩ : ∃ z, z = D.trick[0]'(by omega) := ⟨_, rfl⟩
          rw [← hy'] at hcy
          rw [← hz'] at hcz
          have HC2 : Hid (∀ wx, Below w.heap.size w wx → wx.cell? ⟨b3, off + k, none⟩ = some (.int .i64 y) ∧ wx.cell? ⟨b3, off, none⟩ = some (.int .i64 z)) := Lib.hid (fun wx hb => ⟨(hb.cell (World.block_lt_of_cell? _ _ hcy)).trans hcy, (hb.cell (World.block_lt_of_cell? _ _ hcz)).trans hcz⟩)
          have Hres : Hid (r = if suitOf y = suitOf z then -1 else suitOf z) := Lib.hid (by
            have := hy.out hkl
            rw [HR.out, this, hy', hz']
            simp [List.getD, hkl, show 0 < D.trick.length by omega])
          obtain ⟨sy, hsy⟩ : ∃ s, suitOf y = s := ⟨_, rfl⟩
          obtain ⟨sz, hsz⟩ : ∃ s, suitOf z = s := ⟨_, rfl⟩
          rw [hsy, hsz] at Hres
          have HSy := Lib.hid (fun wx => sSuitOf_r y wx sy hsy)
          have HSz := Lib.hid (fun wx => sSuitOf_r z wx sz hsz)
          have kL : (k : Int) < (D.trick.length : Int) := by omega
          have kG : decide ((k : Int) ≥ (D.trick.length : Int)) = false := by simp; omega
          have kP : 0 < D.trick.length := by omega
          clear hr hD hf hq h0 h3 h4 h5 hpb hy hn hpm hpm2 s1 s2 HPM hk hcy hcz hy' hz' hsy hsz HC eo f3 hk0
          generalize D.trick.length = m at *
          go_enter Tryd.func10, Tryd.ntmps10
          go_wp2_with fail
          refine HI.out.mono ?_
          rintro e w1 ⟨rfl, B1⟩
          have G1 := (B1.block _ l0).trans G0
          have B2 := BW0.trans (B1.mono BW0.size)
          obtain ⟨k0, k1, k3⟩ := HG.out w1 G1
          obtain ⟨cy, cz⟩ := HC2.out w1 B2
          go_wp2_with fail
          refine (HW.out _).mono ?_
          rintro e _w ⟨rfl, rfl⟩
          by_cases hss : sy = sz
          · have hf2 : Hid (r = -1) := Lib.hid (by rw [Hres.out, if_pos hss])
            have hd : (sy == sz) = true := by simpa using hss
            clear hss
            go_wp2_with fail
            go_quiet ((go_at_call 39; first | exact Calls.quiet_of_same (flip_same (HSy.out _) rfl) | exact Calls.quiet_of_same (flip_same (HSz.out _) rfl)))
            go_wp2_with fail
            go_ret
            exact ⟨by rw [hf2.out]; rfl, below_drewN B2 _⟩
          · have hf2 : Hid (r = sz) := Lib.hid (by rw [Hres.out, if_neg hss])
            have hd : (sy == sz) = false := by simpa using hss
            clear hss
            go_wp2_with fail
            go_quiet ((go_at_call 39; first | exact Calls.quiet_of_same (flip_same (HSy.out _) rfl) | exact Calls.quiet_of_same (flip_same (HSz.out _) rfl)))
            go_wp2_with fail
            refine (HSz.out _).mono ?_
            rintro e _w ⟨rfl, rfl⟩
            go_wp2_with fail
            go_ret
            exact ⟨by rw [hf2.out]; rfl, below_drewN B2 _⟩
        · have Hf : Hid (r = -1) := Lib.hid (by rw [HR.out]; exact hn.out hkl)
          have kG : decide ((k : Int) ≥ (D.trick.length : Int)) = true := by simp; omega
          clear hr hD hf hq h0 h3 h4 h5 hpb hy hn hpm hpm2 s1 s2 HPM hk HC f3 hk0
          generalize D.trick.length = m at *
          go_enter Tryd.func10, Tryd.ntmps10
          go_wp2_with fail
          refine HI.out.mono ?_
          rintro e w1 ⟨rfl, B1⟩
          have G1 := (B1.block _ l0).trans G0
          have B2 := BW0.trans (B1.mono BW0.size)
          obtain ⟨k0, k1, k3⟩ := HG.out w1 G1
          go_wp2_with fail
          refine (HW.out _).mono ?_
          rintro e _w ⟨rfl, rfl⟩
          go_wp2_with fail
          go_quiet (fail)
          go_wp2_with fail
          go_ret
          exact ⟨by rw [Hf.out]; rfl, below_drewN B2 _⟩
    · have HW := Lib.hid (fun wx => inM_any who 0 ((D.hands.length : Int) - 1) wx false (by simp only [decide_eq_false hw]))
      have Hf : Hid (r = -1) := Lib.hid (by rw [HR.out]; exact void_no2 hw)
      have HG : Hid (∀ wx : World, wx.heap[w.heap.size]? = some (.cells #[.slice p0 D.hands.length c0, .int .i64 D.leader, .int .i64 D.trump, .slice p3 D.trick.length c3, .slice p4 D.won.length c4, .slice p5 D.points.length c5, .int .i64 D.left] 28 (0, 0)) → wx.cell? ⟨w.heap.size, 0, none⟩ = some (.slice p0 D.hands.length c0)) := Lib.hid (fun wx G => by rw [box_cell G]; rfl)
      clear hr hD hf hq h0 h3 h4 h5 hw s1 s2
      go_enter Tryd.func10, Tryd.ntmps10
      go_wp2_with fail
      refine HI.out.mono ?_
      rintro e w1 ⟨rfl, B1⟩
      have G1 := (B1.block _ l0).trans G0
      have B2 := BW0.trans (B1.mono BW0.size)
      have k0 := HG.out w1 G1
      go_wp2_with fail
      refine (HW.out _).mono ?_
      rintro e _w ⟨rfl, rfl⟩
      go_wp2_with fail
      go_ret
      exact ⟨by rw [Hf.out]; rfl, B2⟩
end Go.Proofs.YtgpiaihkdhgjpaaDoor
