/-
  copyDeal, the program's side.
-/
import Derived.Test.YtbojhbhniollaaaDoorDCopy
namespace Go.Proofs.YtbojhbhniollaaaDoor
open Go.RowKit
set_option linter.unusedVariables false
set_option linter.unusedSimpArgs false

theorem copyInts_D (v : Value) (zs : List Int) (b : Nat) (w : World) (h : RdAt .i64 w v zs b) (hl : zs.length ≤ 1048576) :
    Calls Tryd.prog 40 #[v] w fun e w' => ∃ v', e = .returned v' ∧ OwnI (In w.heap.size w'.heap.size) w' v' zs ∧ Below w.heap.size w w' :=
  (copyInts_own v zs b w h (by omega)).mono fun e w' ⟨v', he, ho, hb⟩ => ⟨v', he, OwnI.of ho h.wf, hb⟩
set_option maxRecDepth 100000 in
set_option maxHeartbeats 2000000 in
theorem copyDeal_any (v : Value) (D : MDeal) (w : World) (h : RdDeal w v D) (hf : D.Few) :
    Calls Tryd.prog 46 #[v] w fun e w' => ∃ v', e = .returned v' ∧ OwnDeal (In w.heap.size w'.heap.size) w' v' D ∧ Below w.heap.size w w' := by
  obtain ⟨p0, p3, p4, p5, c0, c3, c4, c5, ev⟩ := h.shape
  obtain ⟨v0, v3, v4, v5, b3, b4, b5, e, h0, h3, h4, h5, wf0, wf1, wf2⟩ := h
  rw [ev] at e
  simp at e
  obtain ⟨rfl, rfl, rfl, rfl⟩ := e
  subst ev
  obtain ⟨f0, fs0, f3, f4, f5⟩ := hf
  obtain ⟨X0, hX0⟩ : ∃ W, W = (w.alloc (.cells #[.slice p0 D.hands.length c0, .int .i64 D.leader, .int .i64 D.trump, .slice p3 D.trick.length c3, .slice p4 D.won.length c4, .slice p5 D.points.length c5, .int .i64 D.left] 31)).alloc (.cells #[.slice none 0 0, .int .i64 0, .int .i64 0, .slice none 0 0, .slice none 0 0, .slice none 0 0, .int .i64 0] 31) := ⟨_, rfl⟩
  have gx : X0.heap[w.heap.size]? = some (.cells #[.slice p0 D.hands.length c0, .int .i64 D.leader, .int .i64 D.trump, .slice p3 D.trick.length c3, .slice p4 D.won.length c4, .slice p5 D.points.length c5, .int .i64 D.left] 31 (0, 0)) := by rw [hX0]; exact heap_alloc2_old _ _ _
  have rx : X0.heap[w.heap.size + 1]? = some (.cells #[.slice none 0 0, .int .i64 0, .int .i64 0, .slice none 0 0, .slice none 0 0, .slice none 0 0, .int .i64 0] 31 (0, 0)) := by rw [hX0]; exact heap_alloc2_new _ _ _
  have hs0 : X0.heap.size = w.heap.size + 2 := by rw [hX0]; simp
  have BX : Below w.heap.size w X0 := by rw [hX0]; exact ((Below.refl _ _).alloc (Nat.le_refl _) _).alloc (by simp) _
  have H0 := Lib.hid (fun wx (hb : Below w.heap.size w wx) => copyRows_own _ D.hands wx (h0.below hb) f0 fs0)
  have H3 := Lib.hid (fun wx (hb : Below w.heap.size w wx) => copyInts_D _ D.trick _ wx (h3.below hb) f3)
  have H4 := Lib.hid (fun wx (hb : Below w.heap.size w wx) => copyInts_D _ D.won _ wx (h4.below hb) f4)
  have H5 := Lib.hid (fun wx (hb : Below w.heap.size w wx) => copyInts_D _ D.points _ wx (h5.below hb) f5)
  have Hwf := Lib.hid (And.intro wf0 (And.intro wf1 wf2))
  have HX0 := Lib.hid hX0
  have HS0 : Hid (w.heap.size + 2 ≤ X0.heap.size) := Lib.hid (by omega)
  have HSX : Hid (w.heap.size + 2 ≤ X0.heap.size) := HS0
  clear hX0 h0 h3 h4 h5 f0 fs0 f3 f4 f5 wf0 wf1 wf2 hs0
  have HG := Lib.hid (And.intro gx (And.intro rx BX))
  clear gx rx BX
  go_enter Tryd.func46, Tryd.ntmps46
  go_upto_region 1 with fail
  rw [← HX0.out]
  obtain ⟨gx, rx, BX⟩ := HG.out
  have k0 := box_cell gx 0
  simp at k0
  clear gx rx
  go_wp2_with fail
  refine (H0.out _ BX).mono ?_
  rintro e w1 ⟨u, rfl, own, B⟩
  obtain ⟨gx, rx, BX⟩ := HG.out
  have s0 := HS0.out
  have sB := B.size
  have G := (B.block _ (show w.heap.size < X0.heap.size by omega)).trans gx
  have R := (B.block _ (show w.heap.size + 1 < X0.heap.size by omega)).trans rx
  obtain ⟨q0, d0, eu⟩ := own.shape
  subst eu
  obtain ⟨X1, hX⟩ : ∃ X, X = w1.setCell ⟨w.heap.size, 0, none⟩ (.slice q0 D.hands.length d0) := ⟨_, rfl⟩
  have tX := touchCell w1 w.heap.size 0 (.slice q0 D.hands.length d0)
  rw [← hX] at tX
  have gx2 : X1.heap[w.heap.size]? = some (.cells #[.slice q0 D.hands.length d0, .int .i64 D.leader, .int .i64 D.trump, .slice p3 D.trick.length c3, .slice p4 D.won.length c4, .slice p5 D.points.length c5, .int .i64 D.left] 31 (0, 0)) := by rw [hX]; exact box_set G 0 _
  have rx2 : X1.heap[w.heap.size + 1]? = some (.cells #[.slice none 0 0, .int .i64 0, .int .i64 0, .slice none 0 0, .slice none 0 0, .slice none 0 0, .int .i64 0] 31 (0, 0)) := by rw [hX, Below.heap_setCell _ _ _ _ (show w.heap.size + 1 ≠ w.heap.size by omega)]; exact R
  have hs : X1.heap.size = w1.heap.size := by rw [hX]; simp [World.setCell]
  have BX2 : Below w.heap.size w X1 := by rw [hX]; exact (BX.trans (B.mono BX.size)).setCell (Nat.le_refl _) _
  have o0 : Hid (OwnR (In X0.heap.size X1.heap.size) X1 (.slice q0 D.hands.length d0) D.hands) := Lib.hid (by rw [hs]; exact own.touch tX (fun b hb e => by have := hb.1; omega))
  have S1 : Hid (X0.heap.size ≤ X1.heap.size) := Lib.hid (by omega)
  have HS0 : Hid (w.heap.size + 2 ≤ X1.heap.size) := Lib.hid (by omega)
  have HG := Lib.hid (And.intro gx2 (And.intro rx2 BX2))
  have z := box_cell G 0
  have y := box_free G 0
  simp at z
  have HX := Lib.hid hX
  clear k0 gx rx BX B own G R hX tX gx2 rx2 hs BX2 s0 sB
  go_upto_region 2 with fail
  rw [← HX.out]
  clear z y HX
  obtain ⟨gx, rx, BX⟩ := HG.out
  have k3 := box_cell gx 3
  simp at k3
  clear gx rx
  go_wp2_with fail
  refine (H3.out _ BX).mono ?_
  rintro e w2 ⟨u, rfl, own, B⟩
  obtain ⟨gx, rx, BX⟩ := HG.out
  have s0 := HS0.out
  have sB := B.size
  have G := (B.block _ (show w.heap.size < X1.heap.size by omega)).trans gx
  have R := (B.block _ (show w.heap.size + 1 < X1.heap.size by omega)).trans rx
  obtain ⟨q3, d3, eu⟩ := own.shape
  subst eu
  obtain ⟨X2, hX⟩ : ∃ X, X = w2.setCell ⟨w.heap.size, 3, none⟩ (.slice q3 D.trick.length d3) := ⟨_, rfl⟩
  have tX := touchCell w2 w.heap.size 3 (.slice q3 D.trick.length d3)
  rw [← hX] at tX
  have gx2 : X2.heap[w.heap.size]? = some (.cells #[.slice q0 D.hands.length d0, .int .i64 D.leader, .int .i64 D.trump, .slice q3 D.trick.length d3, .slice p4 D.won.length c4, .slice p5 D.points.length c5, .int .i64 D.left] 31 (0, 0)) := by rw [hX]; exact box_set G 3 _
  have rx2 : X2.heap[w.heap.size + 1]? = some (.cells #[.slice none 0 0, .int .i64 0, .int .i64 0, .slice none 0 0, .slice none 0 0, .slice none 0 0, .int .i64 0] 31 (0, 0)) := by rw [hX, Below.heap_setCell _ _ _ _ (show w.heap.size + 1 ≠ w.heap.size by omega)]; exact R
  have hs : X2.heap.size = w2.heap.size := by rw [hX]; simp [World.setCell]
  have BX2 : Below w.heap.size w X2 := by rw [hX]; exact (BX.trans (B.mono BX.size)).setCell (Nat.le_refl _) _
  have o3 : Hid (OwnI (In X1.heap.size X2.heap.size) X2 (.slice q3 D.trick.length d3) D.trick) := Lib.hid (by rw [hs]; exact own.touch tX (fun b hb e => by have := hb.1; omega))
  have S2 : Hid (X1.heap.size ≤ X2.heap.size) := Lib.hid (by omega)
  have o0 := Lib.hid ((o0.out.below B).touch tX (fun b hb e => by have := hb.1; have := HSX.out; have := S1.out; omega))
  have HS0 : Hid (w.heap.size + 2 ≤ X2.heap.size) := Lib.hid (by omega)
  have HG := Lib.hid (And.intro gx2 (And.intro rx2 BX2))
  have z := box_cell G 3
  have y := box_free G 3
  simp at z
  have HX := Lib.hid hX
  clear k3 gx rx BX B own G R hX tX gx2 rx2 hs BX2 s0 sB
  go_upto_region 3 with fail
  rw [← HX.out]
  clear z y HX
  obtain ⟨gx, rx, BX⟩ := HG.out
  have k4 := box_cell gx 4
  simp at k4
  clear gx rx
  go_wp2_with fail
  refine (H4.out _ BX).mono ?_
  rintro e w3 ⟨u, rfl, own, B⟩
  obtain ⟨gx, rx, BX⟩ := HG.out
  have s0 := HS0.out
  have sB := B.size
  have G := (B.block _ (show w.heap.size < X2.heap.size by omega)).trans gx
  have R := (B.block _ (show w.heap.size + 1 < X2.heap.size by omega)).trans rx
  obtain ⟨q4, d4, eu⟩ := own.shape
  subst eu
  obtain ⟨X3, hX⟩ : ∃ X, X = w3.setCell ⟨w.heap.size, 4, none⟩ (.slice q4 D.won.length d4) := ⟨_, rfl⟩
  have tX := touchCell w3 w.heap.size 4 (.slice q4 D.won.length d4)
  rw [← hX] at tX
  have gx2 : X3.heap[w.heap.size]? = some (.cells #[.slice q0 D.hands.length d0, .int .i64 D.leader, .int .i64 D.trump, .slice q3 D.trick.length d3, .slice q4 D.won.length d4, .slice p5 D.points.length c5, .int .i64 D.left] 31 (0, 0)) := by rw [hX]; exact box_set G 4 _
  have rx2 : X3.heap[w.heap.size + 1]? = some (.cells #[.slice none 0 0, .int .i64 0, .int .i64 0, .slice none 0 0, .slice none 0 0, .slice none 0 0, .int .i64 0] 31 (0, 0)) := by rw [hX, Below.heap_setCell _ _ _ _ (show w.heap.size + 1 ≠ w.heap.size by omega)]; exact R
  have hs : X3.heap.size = w3.heap.size := by rw [hX]; simp [World.setCell]
  have BX2 : Below w.heap.size w X3 := by rw [hX]; exact (BX.trans (B.mono BX.size)).setCell (Nat.le_refl _) _
  have o4 : Hid (OwnI (In X2.heap.size X3.heap.size) X3 (.slice q4 D.won.length d4) D.won) := Lib.hid (by rw [hs]; exact own.touch tX (fun b hb e => by have := hb.1; omega))
  have S3 : Hid (X2.heap.size ≤ X3.heap.size) := Lib.hid (by omega)
  have o0 := Lib.hid ((o0.out.below B).touch tX (fun b hb e => by have := hb.1; have := HSX.out; have := S1.out; have := S2.out; omega))
  have o3 := Lib.hid ((o3.out.below B).touch tX (fun b hb e => by have := hb.1; have := HSX.out; have := S1.out; have := S2.out; omega))
  have HS0 : Hid (w.heap.size + 2 ≤ X3.heap.size) := Lib.hid (by omega)
  have HG := Lib.hid (And.intro gx2 (And.intro rx2 BX2))
  have z := box_cell G 4
  have y := box_free G 4
  simp at z
  have HX := Lib.hid hX
  clear k4 gx rx BX B own G R hX tX gx2 rx2 hs BX2 s0 sB
  go_upto_region 4 with fail
  rw [← HX.out]
  clear z y HX
  obtain ⟨gx, rx, BX⟩ := HG.out
  have k5 := box_cell gx 5
  simp at k5
  clear gx rx
  go_wp2_with fail
  refine (H5.out _ BX).mono ?_
  rintro e w4 ⟨u, rfl, own, B⟩
  obtain ⟨gx, rx, BX⟩ := HG.out
  have s0 := HS0.out
  have sB := B.size
  have G := (B.block _ (show w.heap.size < X3.heap.size by omega)).trans gx
  have R := (B.block _ (show w.heap.size + 1 < X3.heap.size by omega)).trans rx
  obtain ⟨q5, d5, eu⟩ := own.shape
  subst eu
  obtain ⟨X4, hX⟩ : ∃ X, X = w4.setCell ⟨w.heap.size, 5, none⟩ (.slice q5 D.points.length d5) := ⟨_, rfl⟩
  have tX := touchCell w4 w.heap.size 5 (.slice q5 D.points.length d5)
  rw [← hX] at tX
  have gx2 : X4.heap[w.heap.size]? = some (.cells #[.slice q0 D.hands.length d0, .int .i64 D.leader, .int .i64 D.trump, .slice q3 D.trick.length d3, .slice q4 D.won.length d4, .slice q5 D.points.length d5, .int .i64 D.left] 31 (0, 0)) := by rw [hX]; exact box_set G 5 _
  have rx2 : X4.heap[w.heap.size + 1]? = some (.cells #[.slice none 0 0, .int .i64 0, .int .i64 0, .slice none 0 0, .slice none 0 0, .slice none 0 0, .int .i64 0] 31 (0, 0)) := by rw [hX, Below.heap_setCell _ _ _ _ (show w.heap.size + 1 ≠ w.heap.size by omega)]; exact R
  have hs : X4.heap.size = w4.heap.size := by rw [hX]; simp [World.setCell]
  have BX2 : Below w.heap.size w X4 := by rw [hX]; exact (BX.trans (B.mono BX.size)).setCell (Nat.le_refl _) _
  have o5 : Hid (OwnI (In X3.heap.size X4.heap.size) X4 (.slice q5 D.points.length d5) D.points) := Lib.hid (by rw [hs]; exact own.touch tX (fun b hb e => by have := hb.1; omega))
  have S4 : Hid (X3.heap.size ≤ X4.heap.size) := Lib.hid (by omega)
  have o0 := Lib.hid ((o0.out.below B).touch tX (fun b hb e => by have := hb.1; have := HSX.out; have := S1.out; have := S2.out; have := S3.out; omega))
  have o3 := Lib.hid ((o3.out.below B).touch tX (fun b hb e => by have := hb.1; have := HSX.out; have := S1.out; have := S2.out; have := S3.out; omega))
  have o4 := Lib.hid ((o4.out.below B).touch tX (fun b hb e => by have := hb.1; have := HSX.out; have := S1.out; have := S2.out; have := S3.out; omega))
  have HS0 : Hid (w.heap.size + 2 ≤ X4.heap.size) := Lib.hid (by omega)
  have HG := Lib.hid (And.intro gx2 (And.intro rx2 BX2))
  have z := box_cell G 5
  have y := box_free G 5
  simp at z
  have HX := Lib.hid hX
  clear k5 gx rx BX B own G R hX tX gx2 rx2 hs BX2 s0 sB
  go_upto_region 5 with fail
  rw [← HX.out]
  clear z y HX
  obtain ⟨gx, rx, BX⟩ := HG.out
  have s0 := HS0.out
  have s1 := S1.out
  have s2 := S2.out
  have s3 := S3.out
  have s4 := S4.out
  obtain ⟨wf0, wf1, wf2⟩ := Hwf.out
  have l0 : X0.heap.size = w.heap.size + 2 := by rw [HX0.out]; simp
  have HXX := Lib.hid (deal_laid (lo := w.heap.size) (r := w.heap.size + 1) o0.out o3.out o4.out o5.out ⟨by omega, by omega⟩ ⟨by omega, by omega⟩ ⟨by omega, by omega⟩ ⟨by omega, by omega⟩ (by omega) (by omega) (by omega) (by omega) (by omega) (by omega) wf0 wf1 wf2 (by omega) (by omega) (by omega) (by omega) (by omega) rx BX)
  clear s0 s1 s2 s3 s4 wf0 wf1 wf2 l0 BX
  refine wp_region_lit ?_
  refine wpList_load_row rfl 31 _ rfl w.heap.size rfl 31 _ _ _ gx Tryd.underlying31 rfl (by kernel_rfl) ?_
  refine wpList_store_row rfl 31 _ _ rfl (w.heap.size + 1) #[.slice q0 D.hands.length d0, .int .i64 D.leader, .int .i64 D.trump, .slice q3 D.trick.length d3, .slice q4 D.won.length d4, .slice q5 D.points.length d5, .int .i64 D.left] rfl rfl 31 _ rx (by kernel_rfl) rfl (by simp [Value.oneCell']) ?_
  clear gx rx
  go_wp2_with fail
  (try simp only [Exit.inBlock, Exit.then]); refine bodyPost_ret (results_cell_row rfl _ _ (w.heap.size + 1) _ _ _ _ rfl HXX.out.1 Tryd.underlying31 rfl (by kernel_rfl)) rfl ?_
  exact ⟨_, rfl, HXX.out.2.1, HXX.out.2.2⟩
end Go.Proofs.YtbojhbhniollaaaDoor
