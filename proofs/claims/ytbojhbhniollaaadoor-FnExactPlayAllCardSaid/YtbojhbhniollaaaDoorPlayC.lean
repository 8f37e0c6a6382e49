/-
  PlayCard, both sides.
-/
import Derived.Test.YtbojhbhniollaaaDoorM13
namespace Go.Proofs.YtbojhbhniollaaaDoor
open Go.RowKit
set_option linter.unusedVariables false
set_option linter.unusedSimpArgs false

set_option maxRecDepth 100000 in
set_option maxHeartbeats 4000000 in
theorem playCard_any (a0 a1 : Addr) (v : Value) (D : MDeal) (c : Int) (w : World) (h : RdDeal w v D) (hf : D.Few) (wc : (Lit.int .i64 c).wf = true) (hS : Sent a0 a1 w) :
    Calls Tryd.prog 21 #[v, .int .i64 c] w fun e w' => ∃ v', e = .returned (.tuple #[v', .bool (playOK D c)]) ∧ WrDeal (In w.heap.size w'.heap.size) w' v' (playD D c) ∧ Below w.heap.size w w' := by
  obtain ⟨p0, p3, p4, p5, c0, c3, c4, c5, ev⟩ := h.shape
  subst ev
  obtain ⟨W0, hW0⟩ : ∃ W, W = (w.alloc (.cells #[.slice p0 D.hands.length c0, .int .i64 D.leader, .int .i64 D.trump, .slice p3 D.trick.length c3, .slice p4 D.won.length c4, .slice p5 D.points.length c5, .int .i64 D.left] 31)).alloc (.cells #[.slice none 0 0, .int .i64 0, .int .i64 0, .slice none 0 0, .slice none 0 0, .slice none 0 0, .int .i64 0] 31) := ⟨_, rfl⟩
  have G0 : W0.heap[w.heap.size]? = some (.cells #[.slice p0 D.hands.length c0, .int .i64 D.leader, .int .i64 D.trump, .slice p3 D.trick.length c3, .slice p4 D.won.length c4, .slice p5 D.points.length c5, .int .i64 D.left] 31 (0, 0)) := by rw [hW0]; exact heap_alloc2_old _ _ _
  have G1 : W0.heap[w.heap.size + 1]? = some (.cells #[.slice none 0 0, .int .i64 0, .int .i64 0, .slice none 0 0, .slice none 0 0, .slice none 0 0, .int .i64 0] 31 (0, 0)) := by rw [hW0]; exact heap_alloc2_new _ _ _
  have hsz : W0.heap.size = w.heap.size + 2 := by rw [hW0]; simp
  have B0 : Below w.heap.size w W0 := by rw [hW0]; exact ((Below.refl _ _).alloc (Nat.le_refl _) _).alloc (by simp) _
  have hfw := hf
  obtain ⟨f0, fs0, f3, -⟩ := hfw
  obtain ⟨hr0, b3, h3⟩ : RdRows .i64 w (.slice p0 D.hands.length c0) D.hands ∧ ∃ b3, RdAt .i64 w (.slice p3 D.trick.length c3) D.trick b3 := by
    obtain ⟨v0, v3, v4, v5, b3, b4, b5, e, h0, h3, -⟩ := id h
    simp at e
    obtain ⟨rfl, rfl, -⟩ := e
    exact ⟨h0, b3, h3⟩
  have Hsum : Hid (∀ j (hj : j < D.hands.length), D.hands[j].length ≤ 1048576) := Lib.hid (fun j hj => Nat.le_trans (len_le_sum D.hands hj) fs0)
  have HCp := Lib.hid (copyDeal_any _ D W0 (h.below B0) hf)
  have HI := Lib.hid (fun wx (hb : Below w.heap.size w wx) => isDeal_any a0 a1 _ D wx (h.below hb) hf (hS.below hb (Nat.le_refl _)) _ rfl)
  have HT := Lib.hid (fun wx (hb : Below w.heap.size w wx) => turnOf_any a0 a1 _ D wx (h.below hb) hf (hS.below hb (Nat.le_refl _)))
  have HRd := Lib.hid (fun wx (hb : Below w.heap.size w wx) => And.intro (hr0.below hb) (h3.below hb))
  have HSn := Lib.hid (fun wx (hb : Below w.heap.size w wx) => hS.below hb (Nat.le_refl _))
  have HW := Lib.hid hW0
  have HG := Lib.hid (And.intro G0 (And.intro G1 (And.intro hsz B0)))
  have Hsz := Lib.hid hsz
  have Hf := Lib.hid (And.intro hf (And.intro f0 f3))
  have Hwc := Lib.hid wc
  clear h hf hS f0 fs0 f3 hr0 h3 hW0 G0 G1 hsz B0 wc
  go_enter Tryd.func21, Tryd.ntmps21
  go_upto_region 1 with fail
  rw [← HW.out]
  obtain ⟨G0, G1, hsz, B0⟩ := HG.out
  refine wp_region_lit ?_
  refine wpList_load_row rfl 31 _ rfl w.heap.size rfl 31 _ _ _ G0 Tryd.underlying31 rfl (by kernel_rfl) ?_
  clear G0 G1 hsz B0
  go_wp2_with fail
  refine HCp.out.mono ?_
  rintro e w1 ⟨v1, rfl, own, B1⟩
  obtain ⟨q0, q3, q4, q5, d0, d3, d4, d5, S0, S3, S4, S5, ev, ho⟩ := id own
  subst ev
  obtain ⟨X, hX⟩ : ∃ X, X = w1.alloc (.cells #[.slice q0 D.hands.length d0, .int .i64 D.leader, .int .i64 D.trump, .slice q3 D.trick.length d3, .slice q4 D.won.length d4, .slice q5 D.points.length d5, .int .i64 D.left] 31) := ⟨_, rfl⟩
  have HX0 := Lib.hid hX
  have bX : Below w1.heap.size w1 X := by rw [hX]; exact (Below.refl _ _).alloc (Nat.le_refl _) _
  have gX : X.heap[w1.heap.size]? = some (.cells #[.slice q0 D.hands.length d0, .int .i64 D.leader, .int .i64 D.trump, .slice q3 D.trick.length d3, .slice q4 D.won.length d4, .slice q5 D.points.length d5, .int .i64 D.left] 31 (0, 0)) := by rw [hX]; exact heap_alloc_new _ _
  have HGX : Hid (∀ wx, Below X.heap.size X wx → wx.heap[w.heap.size]? = some (.cells #[.slice p0 D.hands.length c0, .int .i64 D.leader, .int .i64 D.trump, .slice p3 D.trick.length c3, .slice p4 D.won.length c4, .slice p5 D.points.length c5, .int .i64 D.left] 31 (0, 0)) ∧ wx.heap[w.heap.size + 1]? = some (.cells #[.slice none 0 0, .int .i64 0, .int .i64 0, .slice none 0 0, .slice none 0 0, .slice none 0 0, .int .i64 0] 31 (0, 0)) ∧ Below w.heap.size w wx ∧ OD W0.heap.size w1.heap.size wx D q0 q3 q4 q5 d0 d3 d4 d5 D.hands.length D.trick.length D.won.length D.points.length) := by
    obtain ⟨G0, G1, hsz, B0⟩ := HG.out
    have s1 := B1.size
    have sX := bX.size
    have gl := (Array.getElem?_eq_some_iff.1 gX).1
    refine Lib.hid (fun wx hb => ⟨?_, ?_, ?_, (OD.of (own.below bX) s1 (Nat.le_refl _) gX).below hb⟩)
    · rw [hb.block _ (by omega), bX.block _ (by omega), B1.block _ (by omega)]; exact G0
    · rw [hb.block _ (by omega), bX.block _ (by omega), B1.block _ (by omega)]; exact G1
    · exact ((B0.trans (B1.mono B0.size)).trans (bX.mono (Nat.le_trans B0.size s1))).trans (hb.mono (Nat.le_trans (Nat.le_trans B0.size s1) sX))
  clear ho own bX gX hX B1
  go_upto_region 2 with fail
  rw [← HX0.out]
  obtain ⟨g0, g1, bw, od⟩ := HGX.out X (Below.refl _ _)
  refine wp_region_lit ?_
  refine wpList_load_row rfl 31 _ rfl w.heap.size rfl 31 _ _ _ g0 Tryd.underlying31 rfl (by kernel_rfl) ?_
  clear g0 g1 od
  go_wp2_with fail
  refine (HT.out _ bw).mono ?_
  rintro e w2 ⟨rfl, B2⟩
  clear bw HT HCp
  obtain ⟨tt, htt⟩ : ∃ t, t = turnOf D := ⟨_, rfl⟩
  rw [← htt]
  have Htt := Lib.hid htt
  clear htt
  go_upto_region 3 with fail
  obtain ⟨g0, g1, bw, od⟩ := HGX.out w2 B2
  have HC : Hid (∀ wx, Below w2.heap.size w2 wx → wx.heap[w.heap.size]? = some (.cells #[.slice p0 D.hands.length c0, .int .i64 D.leader, .int .i64 D.trump, .slice p3 D.trick.length c3, .slice p4 D.won.length c4, .slice p5 D.points.length c5, .int .i64 D.left] 31 (0, 0)) ∧ Below w.heap.size w wx) := Lib.hid (fun wx hb => ⟨(hb.block _ (Array.getElem?_eq_some_iff.1 g0).1).trans g0, bw.trans (hb.mono bw.size)⟩)
  clear g0 g1 bw od
  cases hd : isDeal D with
  | false =>
    have hok : playOK D c = false := by unfold playOK; rw [hd]; rfl
    have HOK := Lib.hid hok
    have HE := Lib.hid (playD_no hok)
    rw [hd] at HI
    clear hd hok
    refine wp_region_table [(0, some 12, .is (.agg #[.slice p0 D.hands.length c0, .int .i64 D.leader, .int .i64 D.trump, .slice p3 D.trick.length c3, .slice p4 D.won.length c4, .slice p5 D.points.length c5, .int .i64 D.left])), (1, some 13, .is (.bool false)), (2, some 14, .is (.bool true)), (3, some 15, .is (.bool true)), (4, some 16, .is (undef)), (5, some 17, .is (undef)), (6, some 18, .is (.bool true)), (7, some 19, .is (.bool true)), (8, some 20, .is (undef)), (9, some 21, .is (undef)), (10, some 22, .is (undef)), (11, some 23, .is (undef)), (12, some 24, .is (undef)), (13, some 25, .is (undef)), (14, some 26, .is (undef)), (15, some 27, .is (undef)), (16, some 28, .is (undef)), (17, some 29, .is (undef)), (18, some 30, .is (.bool true))] 0 (by kernel_rfl) (by kernel_rfl) (by kernel_rfl) (by kernel_rfl) (by kernel_rfl) (L := #[true, true, true, true, true, true, true, true, true, true, true, true, true, true, true, true, true, true, true]) (by kernel_rfl) ?steps ?fin
    case steps =>
      refine StepsT.cons [] (by simp only [List.getElem?_toArray, List.getElem?_cons_succ, List.getElem?_cons_zero]; rfl) (by kernel_rfl) (by rfl) (fun wx val iv hB hV K hK => ?_) ?_
      · (obtain ⟨G, -⟩ := HC.out wx hB; clear hV; simp only [putT, List.foldl_cons, List.foldl_nil, Made.val, Act.put, List.setIfInBounds_toArray, List.set_cons_zero, List.set_cons_succ]; rw [if_pos (by rfl)]; exact wp_load_row 31 (.tmp 2) (by rfl) w.heap.size (by rfl) 31 #[.slice p0 D.hands.length c0, .int .i64 D.leader, .int .i64 D.trump, .slice p3 D.trick.length c3, .slice p4 D.won.length c4, .slice p5 D.points.length c5, .int .i64 D.left] (0, 0) _ G Tryd.underlying31 (by rfl) (by kernel_rfl) (hK.out _ _ rfl (Below.refl _ _)))
      refine StepsT.cons [(0, some 12, .is (.agg #[.slice p0 D.hands.length c0, .int .i64 D.leader, .int .i64 D.trump, .slice p3 D.trick.length c3, .slice p4 D.won.length c4, .slice p5 D.points.length c5, .int .i64 D.left]))] (by simp only [List.getElem?_toArray, List.getElem?_cons_succ, List.getElem?_cons_zero]; rfl) (by kernel_rfl) (by rfl) (fun wx val iv hB hV K hK => ?_) ?_
      · (have hbw := (HC.out wx hB).2; clear hV; simp only [putT, List.foldl_cons, List.foldl_nil, Made.val, Act.put, List.setIfInBounds_toArray, List.set_cons_zero, List.set_cons_succ]; go_simp; go_at_call 37; refine (HI.out wx hbw).mono ?_; rintro e wa ⟨rfl, Ba⟩; exact hK.out _ _ rfl Ba)
      refine StepsT.cons [(1, some 13, .is (.bool false))] (by simp only [List.getElem?_toArray, List.getElem?_cons_succ, List.getElem?_cons_zero]; rfl) (by kernel_rfl) (by rfl) (fun wx val iv hB hV K hK => ?_) ?_
      · clear hV; simp only [putT, List.foldl_cons, List.foldl_nil, Made.val, Act.put, List.setIfInBounds_toArray, List.set_cons_zero, List.set_cons_succ]; go_simp; exact hK.out _ _ rfl (Below.refl _ _)
      refine StepsT.cons [(1, some 13, .is (.bool false)), (2, some 14, .is (.bool true))] (by simp only [List.getElem?_toArray, List.getElem?_cons_succ, List.getElem?_cons_zero]; rfl) (by kernel_rfl) (by rfl) (fun wx val iv hB hV K hK => ?_) ?_
      · clear hV; simp only [putT, List.foldl_cons, List.foldl_nil, Made.val, Act.put, List.setIfInBounds_toArray, List.set_cons_zero, List.set_cons_succ]; go_simp; exact hK.out _ _ rfl (Below.refl _ _)
      refine StepsT.cons [(3, some 15, .is (.bool true))] (by simp only [List.getElem?_toArray, List.getElem?_cons_succ, List.getElem?_cons_zero]; rfl) (by kernel_rfl) (by rfl) (fun wx val iv hB hV K hK => ?_) ?_
      · clear hV; simp only [putT, List.foldl_cons, List.foldl_nil, Made.val, Act.put, List.setIfInBounds_toArray, List.set_cons_zero, List.set_cons_succ]; go_simp; exact hK.out _ _ rfl (Below.refl _ _)
      refine StepsT.cons [(3, some 15, .is (.bool true)), (4, some 16, .is (undef))] (by simp only [List.getElem?_toArray, List.getElem?_cons_succ, List.getElem?_cons_zero]; rfl) (by kernel_rfl) (by rfl) (fun wx val iv hB hV K hK => ?_) ?_
      · clear hV; simp only [putT, List.foldl_cons, List.foldl_nil, Made.val, Act.put, List.setIfInBounds_toArray, List.set_cons_zero, List.set_cons_succ]; go_simp; exact hK.out _ _ rfl (Below.refl _ _)
      refine StepsT.cons [(3, some 15, .is (.bool true)), (5, some 17, .is (undef))] (by simp only [List.getElem?_toArray, List.getElem?_cons_succ, List.getElem?_cons_zero]; rfl) (by kernel_rfl) (by rfl) (fun wx val iv hB hV K hK => ?_) ?_
      · clear hV; simp only [putT, List.foldl_cons, List.foldl_nil, Made.val, Act.put, List.setIfInBounds_toArray, List.set_cons_zero, List.set_cons_succ]; go_simp; exact hK.out _ _ rfl (Below.refl _ _)
      refine StepsT.cons [(3, some 15, .is (.bool true)), (6, some 18, .is (.bool true))] (by simp only [List.getElem?_toArray, List.getElem?_cons_succ, List.getElem?_cons_zero]; rfl) (by kernel_rfl) (by rfl) (fun wx val iv hB hV K hK => ?_) ?_
      · clear hV; simp only [putT, List.foldl_cons, List.foldl_nil, Made.val, Act.put, List.setIfInBounds_toArray, List.set_cons_zero, List.set_cons_succ]; go_simp; exact hK.out _ _ rfl (Below.refl _ _)
      refine StepsT.cons [(7, some 19, .is (.bool true))] (by simp only [List.getElem?_toArray, List.getElem?_cons_succ, List.getElem?_cons_zero]; rfl) (by kernel_rfl) (by rfl) (fun wx val iv hB hV K hK => ?_) ?_
      · clear hV; simp only [putT, List.foldl_cons, List.foldl_nil, Made.val, Act.put, List.setIfInBounds_toArray, List.set_cons_zero, List.set_cons_succ]; go_simp; exact hK.out _ _ rfl (Below.refl _ _)
      refine StepsT.cons [(7, some 19, .is (.bool true)), (8, some 20, .is (undef))] (by simp only [List.getElem?_toArray, List.getElem?_cons_succ, List.getElem?_cons_zero]; rfl) (by kernel_rfl) (by rfl) (fun wx val iv hB hV K hK => ?_) ?_
      · (skip); clear hV; simp only [putT, List.foldl_cons, List.foldl_nil, Made.val, Act.put, List.setIfInBounds_toArray, List.set_cons_zero, List.set_cons_succ]; go_simp; exact hK.out _ _ rfl (Below.refl _ _)
      refine StepsT.cons [(7, some 19, .is (.bool true))] (by simp only [List.getElem?_toArray, List.getElem?_cons_succ, List.getElem?_cons_zero]; rfl) (by kernel_rfl) (by rfl) (fun wx val iv hB hV K hK => ?_) ?_
      · clear hV; simp only [putT, List.foldl_cons, List.foldl_nil, Made.val, Act.put, List.setIfInBounds_toArray, List.set_cons_zero, List.set_cons_succ]; go_simp; exact hK.out _ _ rfl (Below.refl _ _)
      refine StepsT.cons [(7, some 19, .is (.bool true)), (9, some 21, .is (undef)), (10, some 22, .is (undef))] (by simp only [List.getElem?_toArray, List.getElem?_cons_succ, List.getElem?_cons_zero]; rfl) (by kernel_rfl) (by rfl) (fun wx val iv hB hV K hK => ?_) ?_
      · (skip); clear hV; simp only [putT, List.foldl_cons, List.foldl_nil, Made.val, Act.put, List.setIfInBounds_toArray, List.set_cons_zero, List.set_cons_succ]; go_simp; exact hK.out _ _ rfl (Below.refl _ _)
      refine StepsT.cons [(7, some 19, .is (.bool true)), (11, some 23, .is (undef))] (by simp only [List.getElem?_toArray, List.getElem?_cons_succ, List.getElem?_cons_zero]; rfl) (by kernel_rfl) (by rfl) (fun wx val iv hB hV K hK => ?_) ?_
      · (skip); clear hV; simp only [putT, List.foldl_cons, List.foldl_nil, Made.val, Act.put, List.setIfInBounds_toArray, List.set_cons_zero, List.set_cons_succ]; go_simp; exact hK.out _ _ rfl (Below.refl _ _)
      refine StepsT.cons [(7, some 19, .is (.bool true))] (by simp only [List.getElem?_toArray, List.getElem?_cons_succ, List.getElem?_cons_zero]; rfl) (by kernel_rfl) (by rfl) (fun wx val iv hB hV K hK => ?_) ?_
      · clear hV; simp only [putT, List.foldl_cons, List.foldl_nil, Made.val, Act.put, List.setIfInBounds_toArray, List.set_cons_zero, List.set_cons_succ]; go_simp; exact hK.out _ _ rfl (Below.refl _ _)
      refine StepsT.cons [(7, some 19, .is (.bool true)), (13, some 25, .is (undef))] (by simp only [List.getElem?_toArray, List.getElem?_cons_succ, List.getElem?_cons_zero]; rfl) (by kernel_rfl) (by rfl) (fun wx val iv hB hV K hK => ?_) ?_
      · (skip); clear hV; simp only [putT, List.foldl_cons, List.foldl_nil, Made.val, Act.put, List.setIfInBounds_toArray, List.set_cons_zero, List.set_cons_succ]; go_simp; exact hK.out _ _ rfl (Below.refl _ _)
      refine StepsT.cons [(7, some 19, .is (.bool true))] (by simp only [List.getElem?_toArray, List.getElem?_cons_succ, List.getElem?_cons_zero]; rfl) (by kernel_rfl) (by rfl) (fun wx val iv hB hV K hK => ?_) ?_
      · clear hV; simp only [putT, List.foldl_cons, List.foldl_nil, Made.val, Act.put, List.setIfInBounds_toArray, List.set_cons_zero, List.set_cons_succ]; go_simp; exact hK.out _ _ rfl (Below.refl _ _)
      refine StepsT.cons [(7, some 19, .is (.bool true)), (12, some 24, .is (undef)), (14, some 26, .is (undef)), (15, some 27, .is (undef))] (by simp only [List.getElem?_toArray, List.getElem?_cons_succ, List.getElem?_cons_zero]; rfl) (by kernel_rfl) (by rfl) (fun wx val iv hB hV K hK => ?_) ?_
      · clear hV; simp only [putT, List.foldl_cons, List.foldl_nil, Made.val, Act.put, List.setIfInBounds_toArray, List.set_cons_zero, List.set_cons_succ]; go_simp; exact hK.out _ _ rfl (Below.refl _ _)
      refine StepsT.cons [(7, some 19, .is (.bool true)), (16, some 28, .is (undef))] (by simp only [List.getElem?_toArray, List.getElem?_cons_succ, List.getElem?_cons_zero]; rfl) (by kernel_rfl) (by rfl) (fun wx val iv hB hV K hK => ?_) ?_
      · clear hV; simp only [putT, List.foldl_cons, List.foldl_nil, Made.val, Act.put, List.setIfInBounds_toArray, List.set_cons_zero, List.set_cons_succ]; go_simp; exact hK.out _ _ rfl (Below.refl _ _)
      refine StepsT.cons [(7, some 19, .is (.bool true)), (17, some 29, .is (undef))] (by simp only [List.getElem?_toArray, List.getElem?_cons_succ, List.getElem?_cons_zero]; rfl) (by kernel_rfl) (by rfl) (fun wx val iv hB hV K hK => ?_) ?_
      · clear hV; simp only [putT, List.foldl_cons, List.foldl_nil, Made.val, Act.put, List.setIfInBounds_toArray, List.set_cons_zero, List.set_cons_succ]; go_simp; exact hK.out _ _ rfl (Below.refl _ _)
      exact StepsT.nil
    case fin =>
      intro wx val iv BX hV hD
      clear hV hD
      refine wpAny_end (by kernel_rfl) ?_
      simp only [putT, List.foldl_cons, List.foldl_nil, Made.val, Act.put, List.setIfInBounds_toArray, List.set_cons_zero, List.set_cons_succ]
      obtain ⟨g0, g1, bw, od⟩ := HGX.out wx (B2.trans (BX.mono B2.size))
      have gr := od.cells
      have HX := Lib.hid (od.final (r := w.heap.size + 1) (lo' := w.heap.size) (by have := Hsz.out; omega) (Nat.le_succ _) g1 bw)
      clear g0 bw od BX B2
      go_upto_region 4 with fail
      refine wp_region_lit ?_
      refine wpList_load_row rfl 31 _ rfl w1.heap.size rfl 31 _ _ _ gr Tryd.underlying31 rfl (by kernel_rfl) ?_
      clear gr
      refine wpList_store_row rfl 31 _ _ rfl (w.heap.size + 1) #[.slice q0 D.hands.length d0, .int .i64 D.leader, .int .i64 D.trump, .slice q3 D.trick.length d3, .slice q4 D.won.length d4, .slice q5 D.points.length d5, .int .i64 D.left] rfl rfl 31 _ g1 (by kernel_rfl) rfl (by simp [Value.oneCell']) ?_
      clear g1
      go_wp2_with fail
      refine bodyPost_ret (results_row_tmp rfl _ _ (w.heap.size + 1) _ _ _ _ rfl HX.out.1 Tryd.underlying31 rfl (by kernel_rfl)) rfl ?_
      rw [HOK.out, HE.out]
      exact ⟨_, rfl, HX.out.2.1, HX.out.2.2⟩
  | true =>
    rw [hd] at HI
    by_cases ht0 : tt < 0
    · have hok : playOK D c = false := by unfold playOK; rw [← Htt.out, decide_eq_false (show ¬ (0 : Int) ≤ tt by omega)]; simp
      have HOK := Lib.hid hok
      have HE := Lib.hid (playD_no hok)
      clear hd hok
      refine wp_region_table [(0, some 12, .is (.agg #[.slice p0 D.hands.length c0, .int .i64 D.leader, .int .i64 D.trump, .slice p3 D.trick.length c3, .slice p4 D.won.length c4, .slice p5 D.points.length c5, .int .i64 D.left])), (1, some 13, .is (.bool true)), (2, some 14, .is (.bool false)), (3, some 15, .is (.bool false)), (4, some 16, .is (.int .i64 tt)), (5, some 17, .is (.bool true)), (6, some 18, .is (.bool true)), (7, some 19, .is (.bool true)), (8, some 20, .is (undef)), (9, some 21, .is (undef)), (10, some 22, .is (undef)), (11, some 23, .is (undef)), (12, some 24, .is (undef)), (13, some 25, .is (undef)), (14, some 26, .is (undef)), (15, some 27, .is (undef)), (16, some 28, .is (undef)), (17, some 29, .is (undef)), (18, some 30, .is (.bool true))] 0 (by kernel_rfl) (by kernel_rfl) (by kernel_rfl) (by kernel_rfl) (by kernel_rfl) (L := #[true, true, true, true, true, true, true, true, true, true, true, true, true, true, true, true, true, true, true]) (by kernel_rfl) ?steps ?fin
      case steps =>
        refine StepsT.cons [] (by simp only [List.getElem?_toArray, List.getElem?_cons_succ, List.getElem?_cons_zero]; rfl) (by kernel_rfl) (by rfl) (fun wx val iv hB hV K hK => ?_) ?_
        · (obtain ⟨G, -⟩ := HC.out wx hB; clear hV; simp only [putT, List.foldl_cons, List.foldl_nil, Made.val, Act.put, List.setIfInBounds_toArray, List.set_cons_zero, List.set_cons_succ]; rw [if_pos (by rfl)]; exact wp_load_row 31 (.tmp 2) (by rfl) w.heap.size (by rfl) 31 #[.slice p0 D.hands.length c0, .int .i64 D.leader, .int .i64 D.trump, .slice p3 D.trick.length c3, .slice p4 D.won.length c4, .slice p5 D.points.length c5, .int .i64 D.left] (0, 0) _ G Tryd.underlying31 (by rfl) (by kernel_rfl) (hK.out _ _ rfl (Below.refl _ _)))
        refine StepsT.cons [(0, some 12, .is (.agg #[.slice p0 D.hands.length c0, .int .i64 D.leader, .int .i64 D.trump, .slice p3 D.trick.length c3, .slice p4 D.won.length c4, .slice p5 D.points.length c5, .int .i64 D.left]))] (by simp only [List.getElem?_toArray, List.getElem?_cons_succ, List.getElem?_cons_zero]; rfl) (by kernel_rfl) (by rfl) (fun wx val iv hB hV K hK => ?_) ?_
        · (have hbw := (HC.out wx hB).2; clear hV; simp only [putT, List.foldl_cons, List.foldl_nil, Made.val, Act.put, List.setIfInBounds_toArray, List.set_cons_zero, List.set_cons_succ]; go_simp; go_at_call 37; refine (HI.out wx hbw).mono ?_; rintro e wa ⟨rfl, Ba⟩; exact hK.out _ _ rfl Ba)
        refine StepsT.cons [(1, some 13, .is (.bool true))] (by simp only [List.getElem?_toArray, List.getElem?_cons_succ, List.getElem?_cons_zero]; rfl) (by kernel_rfl) (by rfl) (fun wx val iv hB hV K hK => ?_) ?_
        · clear hV; simp only [putT, List.foldl_cons, List.foldl_nil, Made.val, Act.put, List.setIfInBounds_toArray, List.set_cons_zero, List.set_cons_succ]; go_simp; exact hK.out _ _ rfl (Below.refl _ _)
        refine StepsT.cons [(1, some 13, .is (.bool true)), (2, some 14, .is (.bool false))] (by simp only [List.getElem?_toArray, List.getElem?_cons_succ, List.getElem?_cons_zero]; rfl) (by kernel_rfl) (by rfl) (fun wx val iv hB hV K hK => ?_) ?_
        · clear hV; simp only [putT, List.foldl_cons, List.foldl_nil, Made.val, Act.put, List.setIfInBounds_toArray, List.set_cons_zero, List.set_cons_succ]; go_simp; exact hK.out _ _ rfl (Below.refl _ _)
        refine StepsT.cons [(3, some 15, .is (.bool false))] (by simp only [List.getElem?_toArray, List.getElem?_cons_succ, List.getElem?_cons_zero]; rfl) (by kernel_rfl) (by rfl) (fun wx val iv hB hV K hK => ?_) ?_
        · clear hV; simp only [putT, List.foldl_cons, List.foldl_nil, Made.val, Act.put, List.setIfInBounds_toArray, List.set_cons_zero, List.set_cons_succ]; go_simp; exact hK.out _ _ rfl (Below.refl _ _)
        refine StepsT.cons [(3, some 15, .is (.bool false)), (4, some 16, .is (.int .i64 tt))] (by simp only [List.getElem?_toArray, List.getElem?_cons_succ, List.getElem?_cons_zero]; rfl) (by kernel_rfl) (by rfl) (fun wx val iv hB hV K hK => ?_) ?_
        · clear hV; simp only [putT, List.foldl_cons, List.foldl_nil, Made.val, Act.put, List.setIfInBounds_toArray, List.set_cons_zero, List.set_cons_succ]; go_simp; exact hK.out _ _ rfl (Below.refl _ _)
        refine StepsT.cons [(3, some 15, .is (.bool false)), (5, some 17, .is (.bool true))] (by simp only [List.getElem?_toArray, List.getElem?_cons_succ, List.getElem?_cons_zero]; rfl) (by kernel_rfl) (by rfl) (fun wx val iv hB hV K hK => ?_) ?_
        · clear hV; simp only [putT, List.foldl_cons, List.foldl_nil, Made.val, Act.put, List.setIfInBounds_toArray, List.set_cons_zero, List.set_cons_succ]; go_simp; exact hK.out _ _ rfl (Below.refl _ _)
        refine StepsT.cons [(3, some 15, .is (.bool false)), (6, some 18, .is (.bool true))] (by simp only [List.getElem?_toArray, List.getElem?_cons_succ, List.getElem?_cons_zero]; rfl) (by kernel_rfl) (by rfl) (fun wx val iv hB hV K hK => ?_) ?_
        · clear hV; simp only [putT, List.foldl_cons, List.foldl_nil, Made.val, Act.put, List.setIfInBounds_toArray, List.set_cons_zero, List.set_cons_succ]; go_simp; exact hK.out _ _ rfl (Below.refl _ _)
        refine StepsT.cons [(7, some 19, .is (.bool true))] (by simp only [List.getElem?_toArray, List.getElem?_cons_succ, List.getElem?_cons_zero]; rfl) (by kernel_rfl) (by rfl) (fun wx val iv hB hV K hK => ?_) ?_
        · clear hV; simp only [putT, List.foldl_cons, List.foldl_nil, Made.val, Act.put, List.setIfInBounds_toArray, List.set_cons_zero, List.set_cons_succ]; go_simp; exact hK.out _ _ rfl (Below.refl _ _)
        refine StepsT.cons [(7, some 19, .is (.bool true)), (8, some 20, .is (undef))] (by simp only [List.getElem?_toArray, List.getElem?_cons_succ, List.getElem?_cons_zero]; rfl) (by kernel_rfl) (by rfl) (fun wx val iv hB hV K hK => ?_) ?_
        · (skip); clear hV; simp only [putT, List.foldl_cons, List.foldl_nil, Made.val, Act.put, List.setIfInBounds_toArray, List.set_cons_zero, List.set_cons_succ]; go_simp; exact hK.out _ _ rfl (Below.refl _ _)
        refine StepsT.cons [(7, some 19, .is (.bool true))] (by simp only [List.getElem?_toArray, List.getElem?_cons_succ, List.getElem?_cons_zero]; rfl) (by kernel_rfl) (by rfl) (fun wx val iv hB hV K hK => ?_) ?_
        · clear hV; simp only [putT, List.foldl_cons, List.foldl_nil, Made.val, Act.put, List.setIfInBounds_toArray, List.set_cons_zero, List.set_cons_succ]; go_simp; exact hK.out _ _ rfl (Below.refl _ _)
        refine StepsT.cons [(7, some 19, .is (.bool true)), (9, some 21, .is (undef)), (10, some 22, .is (undef))] (by simp only [List.getElem?_toArray, List.getElem?_cons_succ, List.getElem?_cons_zero]; rfl) (by kernel_rfl) (by rfl) (fun wx val iv hB hV K hK => ?_) ?_
        · (skip); clear hV; simp only [putT, List.foldl_cons, List.foldl_nil, Made.val, Act.put, List.setIfInBounds_toArray, List.set_cons_zero, List.set_cons_succ]; go_simp; exact hK.out _ _ rfl (Below.refl _ _)
        refine StepsT.cons [(7, some 19, .is (.bool true)), (11, some 23, .is (undef))] (by simp only [List.getElem?_toArray, List.getElem?_cons_succ, List.getElem?_cons_zero]; rfl) (by kernel_rfl) (by rfl) (fun wx val iv hB hV K hK => ?_) ?_
        · (skip); clear hV; simp only [putT, List.foldl_cons, List.foldl_nil, Made.val, Act.put, List.setIfInBounds_toArray, List.set_cons_zero, List.set_cons_succ]; go_simp; exact hK.out _ _ rfl (Below.refl _ _)
        refine StepsT.cons [(7, some 19, .is (.bool true))] (by simp only [List.getElem?_toArray, List.getElem?_cons_succ, List.getElem?_cons_zero]; rfl) (by kernel_rfl) (by rfl) (fun wx val iv hB hV K hK => ?_) ?_
        · clear hV; simp only [putT, List.foldl_cons, List.foldl_nil, Made.val, Act.put, List.setIfInBounds_toArray, List.set_cons_zero, List.set_cons_succ]; go_simp; exact hK.out _ _ rfl (Below.refl _ _)
        refine StepsT.cons [(7, some 19, .is (.bool true)), (13, some 25, .is (undef))] (by simp only [List.getElem?_toArray, List.getElem?_cons_succ, List.getElem?_cons_zero]; rfl) (by kernel_rfl) (by rfl) (fun wx val iv hB hV K hK => ?_) ?_
        · (skip); clear hV; simp only [putT, List.foldl_cons, List.foldl_nil, Made.val, Act.put, List.setIfInBounds_toArray, List.set_cons_zero, List.set_cons_succ]; go_simp; exact hK.out _ _ rfl (Below.refl _ _)
        refine StepsT.cons [(7, some 19, .is (.bool true))] (by simp only [List.getElem?_toArray, List.getElem?_cons_succ, List.getElem?_cons_zero]; rfl) (by kernel_rfl) (by rfl) (fun wx val iv hB hV K hK => ?_) ?_
        · clear hV; simp only [putT, List.foldl_cons, List.foldl_nil, Made.val, Act.put, List.setIfInBounds_toArray, List.set_cons_zero, List.set_cons_succ]; go_simp; exact hK.out _ _ rfl (Below.refl _ _)
        refine StepsT.cons [(7, some 19, .is (.bool true)), (12, some 24, .is (undef)), (14, some 26, .is (undef)), (15, some 27, .is (undef))] (by simp only [List.getElem?_toArray, List.getElem?_cons_succ, List.getElem?_cons_zero]; rfl) (by kernel_rfl) (by rfl) (fun wx val iv hB hV K hK => ?_) ?_
        · clear hV; simp only [putT, List.foldl_cons, List.foldl_nil, Made.val, Act.put, List.setIfInBounds_toArray, List.set_cons_zero, List.set_cons_succ]; go_simp; exact hK.out _ _ rfl (Below.refl _ _)
        refine StepsT.cons [(7, some 19, .is (.bool true)), (16, some 28, .is (undef))] (by simp only [List.getElem?_toArray, List.getElem?_cons_succ, List.getElem?_cons_zero]; rfl) (by kernel_rfl) (by rfl) (fun wx val iv hB hV K hK => ?_) ?_
        · clear hV; simp only [putT, List.foldl_cons, List.foldl_nil, Made.val, Act.put, List.setIfInBounds_toArray, List.set_cons_zero, List.set_cons_succ]; go_simp; exact hK.out _ _ rfl (Below.refl _ _)
        refine StepsT.cons [(7, some 19, .is (.bool true)), (17, some 29, .is (undef))] (by simp only [List.getElem?_toArray, List.getElem?_cons_succ, List.getElem?_cons_zero]; rfl) (by kernel_rfl) (by rfl) (fun wx val iv hB hV K hK => ?_) ?_
        · clear hV; simp only [putT, List.foldl_cons, List.foldl_nil, Made.val, Act.put, List.setIfInBounds_toArray, List.set_cons_zero, List.set_cons_succ]; go_simp; exact hK.out _ _ rfl (Below.refl _ _)
        exact StepsT.nil
      case fin =>
        intro wx val iv BX hV hD
        clear hV hD
        refine wpAny_end (by kernel_rfl) ?_
        simp only [putT, List.foldl_cons, List.foldl_nil, Made.val, Act.put, List.setIfInBounds_toArray, List.set_cons_zero, List.set_cons_succ]
        obtain ⟨g0, g1, bw, od⟩ := HGX.out wx (B2.trans (BX.mono B2.size))
        have gr := od.cells
        have HX := Lib.hid (od.final (r := w.heap.size + 1) (lo' := w.heap.size) (by have := Hsz.out; omega) (Nat.le_succ _) g1 bw)
        clear g0 bw od BX B2
        go_upto_region 4 with fail
        refine wp_region_lit ?_
        refine wpList_load_row rfl 31 _ rfl w1.heap.size rfl 31 _ _ _ gr Tryd.underlying31 rfl (by kernel_rfl) ?_
        clear gr
        refine wpList_store_row rfl 31 _ _ rfl (w.heap.size + 1) #[.slice q0 D.hands.length d0, .int .i64 D.leader, .int .i64 D.trump, .slice q3 D.trick.length d3, .slice q4 D.won.length d4, .slice q5 D.points.length d5, .int .i64 D.left] rfl rfl 31 _ g1 (by kernel_rfl) rfl (by simp [Value.oneCell']) ?_
        clear g1
        go_wp2_with fail
        refine bodyPost_ret (results_row_tmp rfl _ _ (w.heap.size + 1) _ _ _ _ rfl HX.out.1 Tryd.underlying31 rfl (by kernel_rfl)) rfl ?_
        rw [HOK.out, HE.out]
        exact ⟨_, rfl, HX.out.2.1, HX.out.2.2⟩
    · obtain ⟨hjD, hte⟩ := turnOf_range (D := D) (by rw [← Htt.out]; omega)
      obtain ⟨j, hj⟩ : ∃ j, j = whoP D := ⟨_, rfl⟩
      rw [← hj] at hjD hte
      obtain rfl : tt = (j : Int) := Htt.out.trans hte
      have htt := Htt.out
      clear Htt
      clear ht0
      obtain ⟨g0, g1, bw, od⟩ := HGX.out w2 B2
      obtain ⟨hr0, h3⟩ := HRd.out w2 bw
      obtain ⟨blk, off, capA, pr, cr, br, hv, hcr, hrr, -⟩ := hr0.row hjD
      have hp := (Value.slice.inj hv).1
      subst hp
      have hsm := Hsum.out j hjD
      obtain ⟨zr, hzr⟩ : ∃ z, z = D.hands[j] := ⟨_, rfl⟩
      have hzd : D.hands.getD (whoP D) [] = zr := by rw [← hj, hzr]; simp [List.getD, hjD]
      rw [← hzr] at hcr hrr hsm
      obtain ⟨bb, hbb⟩ : ∃ b, b = mayPlay zr D.trick c := ⟨_, rfl⟩
      have hokb : playOK D c = bb := by unfold playOK; rw [hd, hzd, ← hbb, decide_eq_true (show 0 ≤ turnOf D by rw [← htt]; omega)]; rfl
      have HM : Hid (∀ wx, Below w2.heap.size w2 wx → Calls Tryd.prog 55 #[.slice pr zr.length cr, .slice p3 D.trick.length c3, .int .i64 c] wx fun e w' => e = .returned (.bool bb) ∧ Below wx.heap.size wx w') := Lib.hid (fun wx hb => by rw [hbb]; exact mayPlay_any _ zr _ _ D.trick _ c wx (hrr.below hb) (h3.below hb) (by omega) (by have := Hf.out.2.2; omega))
      obtain ⟨n, hn⟩ : ∃ n, n = D.hands.length := ⟨_, rfl⟩
      have HC3 : Hid (∀ wx, Below w2.heap.size w2 wx → wx.cell? ⟨w.heap.size, 0, none⟩ = some (.slice (some ⟨blk, off, none⟩) n c0) ∧ wx.cell? ⟨w.heap.size, 3, none⟩ = some (.slice p3 D.trick.length c3) ∧ wx.cell? ⟨blk, off + j, none⟩ = some (.slice pr zr.length cr)) := Lib.hid (fun wx hb => by
        have G := (hb.block _ (Array.getElem?_eq_some_iff.1 g0).1).trans g0
        rw [hn]
        refine ⟨?_, ?_, (hb.cell (World.block_lt_of_cell? _ _ hcr)).trans hcr⟩
        all_goals (rw [box_cell G]; rfl))
      have hjn : j < n := by rw [hn]; exact hjD
      have HN := Lib.hid (And.intro hn (And.intro hjD (And.intro hj (And.intro hzr (And.intro hzd (And.intro hokb htt))))))
      have Hsm := Lib.hid hsm
      have Hd := Lib.hid hd
      have hj0 : ¬ ((j : Int) < 0) := by omega
      clear g0 g1 bw od hr0 h3 hv hcr hrr hsm hzr hzd hbb hokb hd hj hn htt hte
      refine wp_region_table [(0, some 12, .is (.agg #[.slice (some ⟨blk, off, none⟩) D.hands.length c0, .int .i64 D.leader, .int .i64 D.trump, .slice p3 D.trick.length c3, .slice p4 D.won.length c4, .slice p5 D.points.length c5, .int .i64 D.left])), (1, some 13, .is (.bool true)), (2, some 14, .is (.bool false)), (3, some 15, .is (.bool false)), (4, some 16, .is (.int .i64 (j : Int))), (5, some 17, .is (.bool false)), (6, some 18, .is (.bool false)), (7, some 19, .is (.bool false)), (8, some 20, .is (.pointer (some ⟨w.heap.size, 0, none⟩))), (9, some 21, .is (.slice (some ⟨blk, off, none⟩) n c0)), (10, some 22, .is (.int .i64 (j : Int))), (11, some 23, .is (.pointer (some ⟨blk, off + j, none⟩))), (12, some 24, .is (.slice pr zr.length cr)), (13, some 25, .is (.pointer (some ⟨w.heap.size, 3, none⟩))), (14, some 26, .is (.slice p3 D.trick.length c3)), (15, some 27, .is (.int .i64 c)), (16, some 28, .is (.bool bb)), (17, some 29, .is (.bool (!bb))), (18, some 30, .is (.bool (!bb)))] 0 (by kernel_rfl) (by kernel_rfl) (by kernel_rfl) (by kernel_rfl) (by kernel_rfl) (L := #[true, true, true, true, true, true, true, true, true, true, true, true, true, true, true, true, true, true, true]) (by kernel_rfl) ?steps ?fin
      case steps =>
        refine StepsT.cons [] (by simp only [List.getElem?_toArray, List.getElem?_cons_succ, List.getElem?_cons_zero]; rfl) (by kernel_rfl) (by rfl) (fun wx val iv hB hV K hK => ?_) ?_
        · (obtain ⟨G, -⟩ := HC.out wx hB; clear hV; simp only [putT, List.foldl_cons, List.foldl_nil, Made.val, Act.put, List.setIfInBounds_toArray, List.set_cons_zero, List.set_cons_succ]; rw [if_pos (by rfl)]; exact wp_load_row 31 (.tmp 2) (by rfl) w.heap.size (by rfl) 31 #[.slice (some ⟨blk, off, none⟩) D.hands.length c0, .int .i64 D.leader, .int .i64 D.trump, .slice p3 D.trick.length c3, .slice p4 D.won.length c4, .slice p5 D.points.length c5, .int .i64 D.left] (0, 0) _ G Tryd.underlying31 (by rfl) (by kernel_rfl) (hK.out _ _ rfl (Below.refl _ _)))
        refine StepsT.cons [(0, some 12, .is (.agg #[.slice (some ⟨blk, off, none⟩) D.hands.length c0, .int .i64 D.leader, .int .i64 D.trump, .slice p3 D.trick.length c3, .slice p4 D.won.length c4, .slice p5 D.points.length c5, .int .i64 D.left]))] (by simp only [List.getElem?_toArray, List.getElem?_cons_succ, List.getElem?_cons_zero]; rfl) (by kernel_rfl) (by rfl) (fun wx val iv hB hV K hK => ?_) ?_
        · (have hbw := (HC.out wx hB).2; clear hV; simp only [putT, List.foldl_cons, List.foldl_nil, Made.val, Act.put, List.setIfInBounds_toArray, List.set_cons_zero, List.set_cons_succ]; go_simp; go_at_call 37; refine (HI.out wx hbw).mono ?_; rintro e wa ⟨rfl, Ba⟩; exact hK.out _ _ rfl Ba)
        refine StepsT.cons [(1, some 13, .is (.bool true))] (by simp only [List.getElem?_toArray, List.getElem?_cons_succ, List.getElem?_cons_zero]; rfl) (by kernel_rfl) (by rfl) (fun wx val iv hB hV K hK => ?_) ?_
        · clear hV; simp only [putT, List.foldl_cons, List.foldl_nil, Made.val, Act.put, List.setIfInBounds_toArray, List.set_cons_zero, List.set_cons_succ]; go_simp; exact hK.out _ _ rfl (Below.refl _ _)
        refine StepsT.cons [(1, some 13, .is (.bool true)), (2, some 14, .is (.bool false))] (by simp only [List.getElem?_toArray, List.getElem?_cons_succ, List.getElem?_cons_zero]; rfl) (by kernel_rfl) (by rfl) (fun wx val iv hB hV K hK => ?_) ?_
        · clear hV; simp only [putT, List.foldl_cons, List.foldl_nil, Made.val, Act.put, List.setIfInBounds_toArray, List.set_cons_zero, List.set_cons_succ]; go_simp; exact hK.out _ _ rfl (Below.refl _ _)
        refine StepsT.cons [(3, some 15, .is (.bool false))] (by simp only [List.getElem?_toArray, List.getElem?_cons_succ, List.getElem?_cons_zero]; rfl) (by kernel_rfl) (by rfl) (fun wx val iv hB hV K hK => ?_) ?_
        · clear hV; simp only [putT, List.foldl_cons, List.foldl_nil, Made.val, Act.put, List.setIfInBounds_toArray, List.set_cons_zero, List.set_cons_succ]; go_simp; exact hK.out _ _ rfl (Below.refl _ _)
        refine StepsT.cons [(3, some 15, .is (.bool false)), (4, some 16, .is (.int .i64 (j : Int)))] (by simp only [List.getElem?_toArray, List.getElem?_cons_succ, List.getElem?_cons_zero]; rfl) (by kernel_rfl) (by rfl) (fun wx val iv hB hV K hK => ?_) ?_
        · clear hV; simp only [putT, List.foldl_cons, List.foldl_nil, Made.val, Act.put, List.setIfInBounds_toArray, List.set_cons_zero, List.set_cons_succ]; go_simp; exact hK.out _ _ rfl (Below.refl _ _)
        refine StepsT.cons [(3, some 15, .is (.bool false)), (5, some 17, .is (.bool false))] (by simp only [List.getElem?_toArray, List.getElem?_cons_succ, List.getElem?_cons_zero]; rfl) (by kernel_rfl) (by rfl) (fun wx val iv hB hV K hK => ?_) ?_
        · clear hV; simp only [putT, List.foldl_cons, List.foldl_nil, Made.val, Act.put, List.setIfInBounds_toArray, List.set_cons_zero, List.set_cons_succ]; go_simp; exact hK.out _ _ rfl (Below.refl _ _)
        refine StepsT.cons [(3, some 15, .is (.bool false)), (6, some 18, .is (.bool false))] (by simp only [List.getElem?_toArray, List.getElem?_cons_succ, List.getElem?_cons_zero]; rfl) (by kernel_rfl) (by rfl) (fun wx val iv hB hV K hK => ?_) ?_
        · clear hV; simp only [putT, List.foldl_cons, List.foldl_nil, Made.val, Act.put, List.setIfInBounds_toArray, List.set_cons_zero, List.set_cons_succ]; go_simp; exact hK.out _ _ rfl (Below.refl _ _)
        refine StepsT.cons [(7, some 19, .is (.bool false))] (by simp only [List.getElem?_toArray, List.getElem?_cons_succ, List.getElem?_cons_zero]; rfl) (by kernel_rfl) (by rfl) (fun wx val iv hB hV K hK => ?_) ?_
        · clear hV; simp only [putT, List.foldl_cons, List.foldl_nil, Made.val, Act.put, List.setIfInBounds_toArray, List.set_cons_zero, List.set_cons_succ]; go_simp; exact hK.out _ _ rfl (Below.refl _ _)
        refine StepsT.cons [(7, some 19, .is (.bool false)), (8, some 20, .is (.pointer (some ⟨w.heap.size, 0, none⟩)))] (by simp only [List.getElem?_toArray, List.getElem?_cons_succ, List.getElem?_cons_zero]; rfl) (by kernel_rfl) (by rfl) (fun wx val iv hB hV K hK => ?_) ?_
        · (obtain ⟨k0, k1, k2⟩ := HC3.out wx hB); clear hV; simp only [putT, List.foldl_cons, List.foldl_nil, Made.val, Act.put, List.setIfInBounds_toArray, List.set_cons_zero, List.set_cons_succ]; go_simp; exact hK.out _ _ rfl (Below.refl _ _)
        refine StepsT.cons [(7, some 19, .is (.bool false))] (by simp only [List.getElem?_toArray, List.getElem?_cons_succ, List.getElem?_cons_zero]; rfl) (by kernel_rfl) (by rfl) (fun wx val iv hB hV K hK => ?_) ?_
        · clear hV; simp only [putT, List.foldl_cons, List.foldl_nil, Made.val, Act.put, List.setIfInBounds_toArray, List.set_cons_zero, List.set_cons_succ]; go_simp; exact hK.out _ _ rfl (Below.refl _ _)
        refine StepsT.cons [(7, some 19, .is (.bool false)), (9, some 21, .is (.slice (some ⟨blk, off, none⟩) n c0)), (10, some 22, .is (.int .i64 (j : Int)))] (by simp only [List.getElem?_toArray, List.getElem?_cons_succ, List.getElem?_cons_zero]; rfl) (by kernel_rfl) (by rfl) (fun wx val iv hB hV K hK => ?_) ?_
        · (obtain ⟨k0, k1, k2⟩ := HC3.out wx hB); clear hV; simp only [putT, List.foldl_cons, List.foldl_nil, Made.val, Act.put, List.setIfInBounds_toArray, List.set_cons_zero, List.set_cons_succ]; go_simp; exact hK.out _ _ rfl (Below.refl _ _)
        refine StepsT.cons [(7, some 19, .is (.bool false)), (11, some 23, .is (.pointer (some ⟨blk, off + j, none⟩)))] (by simp only [List.getElem?_toArray, List.getElem?_cons_succ, List.getElem?_cons_zero]; rfl) (by kernel_rfl) (by rfl) (fun wx val iv hB hV K hK => ?_) ?_
        · (obtain ⟨k0, k1, k2⟩ := HC3.out wx hB); clear hV; simp only [putT, List.foldl_cons, List.foldl_nil, Made.val, Act.put, List.setIfInBounds_toArray, List.set_cons_zero, List.set_cons_succ]; go_simp; exact hK.out _ _ rfl (Below.refl _ _)
        refine StepsT.cons [(7, some 19, .is (.bool false))] (by simp only [List.getElem?_toArray, List.getElem?_cons_succ, List.getElem?_cons_zero]; rfl) (by kernel_rfl) (by rfl) (fun wx val iv hB hV K hK => ?_) ?_
        · clear hV; simp only [putT, List.foldl_cons, List.foldl_nil, Made.val, Act.put, List.setIfInBounds_toArray, List.set_cons_zero, List.set_cons_succ]; go_simp; exact hK.out _ _ rfl (Below.refl _ _)
        refine StepsT.cons [(7, some 19, .is (.bool false)), (13, some 25, .is (.pointer (some ⟨w.heap.size, 3, none⟩)))] (by simp only [List.getElem?_toArray, List.getElem?_cons_succ, List.getElem?_cons_zero]; rfl) (by kernel_rfl) (by rfl) (fun wx val iv hB hV K hK => ?_) ?_
        · (obtain ⟨k0, k1, k2⟩ := HC3.out wx hB); clear hV; simp only [putT, List.foldl_cons, List.foldl_nil, Made.val, Act.put, List.setIfInBounds_toArray, List.set_cons_zero, List.set_cons_succ]; go_simp; exact hK.out _ _ rfl (Below.refl _ _)
        refine StepsT.cons [(7, some 19, .is (.bool false))] (by simp only [List.getElem?_toArray, List.getElem?_cons_succ, List.getElem?_cons_zero]; rfl) (by kernel_rfl) (by rfl) (fun wx val iv hB hV K hK => ?_) ?_
        · clear hV; simp only [putT, List.foldl_cons, List.foldl_nil, Made.val, Act.put, List.setIfInBounds_toArray, List.set_cons_zero, List.set_cons_succ]; go_simp; exact hK.out _ _ rfl (Below.refl _ _)
        refine StepsT.cons [(7, some 19, .is (.bool false)), (12, some 24, .is (.slice pr zr.length cr)), (14, some 26, .is (.slice p3 D.trick.length c3)), (15, some 27, .is (.int .i64 c))] (by simp only [List.getElem?_toArray, List.getElem?_cons_succ, List.getElem?_cons_zero]; rfl) (by kernel_rfl) (by rfl) (fun wx val iv hB hV K hK => ?_) ?_
        · (clear hV; simp only [putT, List.foldl_cons, List.foldl_nil, Made.val, Act.put, List.setIfInBounds_toArray, List.set_cons_zero, List.set_cons_succ]; go_simp; go_at_call 55; refine (HM.out wx hB).mono ?_; rintro e wa ⟨rfl, Ba⟩; exact hK.out _ _ rfl Ba)
        refine StepsT.cons [(7, some 19, .is (.bool false)), (16, some 28, .is (.bool bb))] (by simp only [List.getElem?_toArray, List.getElem?_cons_succ, List.getElem?_cons_zero]; rfl) (by kernel_rfl) (by rfl) (fun wx val iv hB hV K hK => ?_) ?_
        · clear hV; simp only [putT, List.foldl_cons, List.foldl_nil, Made.val, Act.put, List.setIfInBounds_toArray, List.set_cons_zero, List.set_cons_succ]; go_simp; exact hK.out _ _ rfl (Below.refl _ _)
        refine StepsT.cons [(7, some 19, .is (.bool false)), (17, some 29, .is (.bool (!bb)))] (by simp only [List.getElem?_toArray, List.getElem?_cons_succ, List.getElem?_cons_zero]; rfl) (by kernel_rfl) (by rfl) (fun wx val iv hB hV K hK => ?_) ?_
        · clear hV; simp only [putT, List.foldl_cons, List.foldl_nil, Made.val, Act.put, List.setIfInBounds_toArray, List.set_cons_zero, List.set_cons_succ]; go_simp; exact hK.out _ _ rfl (Below.refl _ _)
        exact StepsT.nil
      case fin =>
        intro wx val iv BX hV hD
        clear hV hD
        refine wpAny_end (by kernel_rfl) ?_
        simp only [putT, List.foldl_cons, List.foldl_nil, Made.val, Act.put, List.setIfInBounds_toArray, List.set_cons_zero, List.set_cons_succ]
        obtain ⟨w3, hw3⟩ : ∃ W, W = wx := ⟨_, rfl⟩
        rw [← hw3] at BX ⊢
        clear hw3 wx val iv HM HI HC3 HC
        have B3 := B2.trans (BX.mono B2.size)
        cases bb with
        | false =>
          have HOK := Lib.hid HN.out.2.2.2.2.2.1
          have HE := Lib.hid (playD_no HN.out.2.2.2.2.2.1)
          obtain ⟨g0, g1, bw, od⟩ := HGX.out w3 B3
          have gr := od.cells
          have HX := Lib.hid (od.final (r := w.heap.size + 1) (lo' := w.heap.size) (by have := Hsz.out; omega) (Nat.le_succ _) g1 bw)
          clear g0 bw od BX B2 B3 hj0
          go_upto_region 4 with fail
          refine wp_region_lit ?_
          refine wpList_load_row rfl 31 _ rfl w1.heap.size rfl 31 _ _ _ gr Tryd.underlying31 rfl (by kernel_rfl) ?_
          clear gr
          refine wpList_store_row rfl 31 _ _ rfl (w.heap.size + 1) #[.slice q0 D.hands.length d0, .int .i64 D.leader, .int .i64 D.trump, .slice q3 D.trick.length d3, .slice q4 D.won.length d4, .slice q5 D.points.length d5, .int .i64 D.left] rfl rfl 31 _ g1 (by kernel_rfl) rfl (by simp [Value.oneCell']) ?_
          clear g1
          go_wp2_with fail
          refine bodyPost_ret (results_row_tmp rfl _ _ (w.heap.size + 1) _ _ _ _ rfl HX.out.1 Tryd.underlying31 rfl (by kernel_rfl)) rfl ?_
          rw [HOK.out, HE.out]
          exact ⟨_, rfl, HX.out.2.1, HX.out.2.2⟩
        | true =>
          obtain ⟨hn, hjD, hj, hzr, hzd, hok, htt⟩ := HN.out
          have HOK := Lib.hid hok
          obtain ⟨g0, g1, bw, od⟩ := HGX.out w3 B3
          obtain ⟨g, r0, eq0, hxc, hxf, hgl, hgs, hgo, bz, hrz⟩ := od.hand hjD
          subst eq0
          rw [← hzr] at hrz
          have gr := od.cells
          have hzl := Hsum.out j hjD
          rw [← hzr] at hzl
          have HWi := Lib.hid (fun wx (hb : Below w3.heap.size w3 wx) => without_own _ zr bz c wx (hrz.below hb) (by omega))
          have HC5 : Hid (∀ wx, Below w3.heap.size w3 wx → wx.cell? ⟨w1.heap.size, 0, none⟩ = some (.slice (some ⟨g, 0, none⟩) n d0) ∧ wx.cell? ⟨g, j, none⟩ = some r0) := Lib.hid (fun wx hb => by
            refine ⟨?_, (hb.cell (World.block_lt_of_cell? _ _ hxc)).trans hxc⟩
            rw [(hb.cell (p := ⟨w1.heap.size, 0, none⟩) (Array.getElem?_eq_some_iff.1 gr).1), box_cell gr, hn]; rfl)
          have HF5 := Lib.hid (And.intro g0 (And.intro g1 (And.intro bw (And.intro od (And.intro hxc hgl)))))
          have Hhx : Hid (∀ wx, Below w3.heap.size w3 wx → wx.frozen? ⟨g, j, none⟩ = false) := Lib.hid (fun wx hb => by
            obtain ⟨g', r', e', -, hf', -⟩ := (od.below hb).hand hjD
            obtain rfl : g = g' := by simpa using e'
            exact hf')
          clear g0 g1 bw od hxc hxf hgl hgs hgo hrz gr hzl hn hj hzr hzd hok htt BX B2 B3 hj0
          go_upto_region 5 with fail
          refine wp_region_table [(0, some 32, .is (.pointer (some ⟨w1.heap.size, 0, none⟩))), (1, some 33, .is (.slice (some ⟨g, 0, none⟩) n d0)), (2, some 34, .is (.int .i64 (j : Int))), (3, some 35, .is (.pointer (some ⟨w1.heap.size, 0, none⟩))), (4, some 36, .is (.slice (some ⟨g, 0, none⟩) n d0)), (5, some 37, .is (.int .i64 (j : Int))), (6, some 38, .is (.pointer (some ⟨g, j, none⟩))), (7, some 39, .is (r0)), (8, some 40, .is (.int .i64 c)), (9, some 41, .ints (without zr c))] 2 (by kernel_rfl) (by kernel_rfl) (by kernel_rfl) (by kernel_rfl) (by kernel_rfl) (L := #[true, true, true, true, true, true, true, true, true, true, false, false]) (by kernel_rfl) ?steps ?fin
          case steps =>
            refine StepsT.cons [] (by simp only [List.getElem?_toArray, List.getElem?_cons_succ, List.getElem?_cons_zero]; rfl) (by kernel_rfl) (by rfl) (fun wx val iv hB hV K hK => ?_) ?_
            · clear hV; simp only [putT, List.foldl_cons, List.foldl_nil, Made.val, Act.put, List.setIfInBounds_toArray, List.set_cons_zero, List.set_cons_succ]; go_simp; exact hK.out _ _ rfl (Below.refl _ _)
            refine StepsT.cons [(0, some 32, .is (.pointer (some ⟨w1.heap.size, 0, none⟩)))] (by simp only [List.getElem?_toArray, List.getElem?_cons_succ, List.getElem?_cons_zero]; rfl) (by kernel_rfl) (by rfl) (fun wx val iv hB hV K hK => ?_) ?_
            · (obtain ⟨k0, k1⟩ := HC5.out wx hB); clear hV; simp only [putT, List.foldl_cons, List.foldl_nil, Made.val, Act.put, List.setIfInBounds_toArray, List.set_cons_zero, List.set_cons_succ]; go_simp; exact hK.out _ _ rfl (Below.refl _ _)
            refine StepsT.cons [] (by simp only [List.getElem?_toArray, List.getElem?_cons_succ, List.getElem?_cons_zero]; rfl) (by kernel_rfl) (by rfl) (fun wx val iv hB hV K hK => ?_) ?_
            · clear hV; simp only [putT, List.foldl_cons, List.foldl_nil, Made.val, Act.put, List.setIfInBounds_toArray, List.set_cons_zero, List.set_cons_succ]; go_simp; exact hK.out _ _ rfl (Below.refl _ _)
            refine StepsT.cons [] (by simp only [List.getElem?_toArray, List.getElem?_cons_succ, List.getElem?_cons_zero]; rfl) (by kernel_rfl) (by rfl) (fun wx val iv hB hV K hK => ?_) ?_
            · clear hV; simp only [putT, List.foldl_cons, List.foldl_nil, Made.val, Act.put, List.setIfInBounds_toArray, List.set_cons_zero, List.set_cons_succ]; go_simp; exact hK.out _ _ rfl (Below.refl _ _)
            refine StepsT.cons [(3, some 35, .is (.pointer (some ⟨w1.heap.size, 0, none⟩)))] (by simp only [List.getElem?_toArray, List.getElem?_cons_succ, List.getElem?_cons_zero]; rfl) (by kernel_rfl) (by rfl) (fun wx val iv hB hV K hK => ?_) ?_
            · (obtain ⟨k0, k1⟩ := HC5.out wx hB); clear hV; simp only [putT, List.foldl_cons, List.foldl_nil, Made.val, Act.put, List.setIfInBounds_toArray, List.set_cons_zero, List.set_cons_succ]; go_simp; exact hK.out _ _ rfl (Below.refl _ _)
            refine StepsT.cons [] (by simp only [List.getElem?_toArray, List.getElem?_cons_succ, List.getElem?_cons_zero]; rfl) (by kernel_rfl) (by rfl) (fun wx val iv hB hV K hK => ?_) ?_
            · clear hV; simp only [putT, List.foldl_cons, List.foldl_nil, Made.val, Act.put, List.setIfInBounds_toArray, List.set_cons_zero, List.set_cons_succ]; go_simp; exact hK.out _ _ rfl (Below.refl _ _)
            refine StepsT.cons [(4, some 36, .is (.slice (some ⟨g, 0, none⟩) n d0)), (5, some 37, .is (.int .i64 (j : Int)))] (by simp only [List.getElem?_toArray, List.getElem?_cons_succ, List.getElem?_cons_zero]; rfl) (by kernel_rfl) (by rfl) (fun wx val iv hB hV K hK => ?_) ?_
            · (obtain ⟨k0, k1⟩ := HC5.out wx hB); clear hV; simp only [putT, List.foldl_cons, List.foldl_nil, Made.val, Act.put, List.setIfInBounds_toArray, List.set_cons_zero, List.set_cons_succ]; go_simp; exact hK.out _ _ rfl (Below.refl _ _)
            refine StepsT.cons [(6, some 38, .is (.pointer (some ⟨g, j, none⟩)))] (by simp only [List.getElem?_toArray, List.getElem?_cons_succ, List.getElem?_cons_zero]; rfl) (by kernel_rfl) (by rfl) (fun wx val iv hB hV K hK => ?_) ?_
            · (obtain ⟨k0, k1⟩ := HC5.out wx hB); clear hV; simp only [putT, List.foldl_cons, List.foldl_nil, Made.val, Act.put, List.setIfInBounds_toArray, List.set_cons_zero, List.set_cons_succ]; go_simp; exact hK.out _ _ rfl (Below.refl _ _)
            refine StepsT.cons [] (by simp only [List.getElem?_toArray, List.getElem?_cons_succ, List.getElem?_cons_zero]; rfl) (by kernel_rfl) (by rfl) (fun wx val iv hB hV K hK => ?_) ?_
            · clear hV; simp only [putT, List.foldl_cons, List.foldl_nil, Made.val, Act.put, List.setIfInBounds_toArray, List.set_cons_zero, List.set_cons_succ]; go_simp; exact hK.out _ _ rfl (Below.refl _ _)
            refine StepsT.cons [(7, some 39, .is (r0)), (8, some 40, .is (.int .i64 c))] (by simp only [List.getElem?_toArray, List.getElem?_cons_succ, List.getElem?_cons_zero]; rfl) (by kernel_rfl) (by rfl) (fun wx val iv hB hV K hK => ?_) ?_
            · (clear hV; simp only [putT, List.foldl_cons, List.foldl_nil, Made.val, Act.put, List.setIfInBounds_toArray, List.set_cons_zero, List.set_cons_succ]; go_simp; go_at_call 56; refine (HWi.out wx hB).mono ?_; rintro e wa ⟨va, rfl, hwa, Ba⟩; exact hK.out _ _ hwa Ba)
            exact StepsT.nil
          case fin =>
            intro wx val iv BX hV hD
            obtain ⟨hv9, l9, u9⟩ := hV (9, some 41, .ints (without zr c)) (by simp)
            obtain ⟨p9, c9, e9⟩ := OwnI.shape hv9
            dsimp only [Made.means] at hv9
            dsimp only at l9 u9
            (try dsimp only at e9)
            rw [e9] at hv9
            obtain ⟨g0, g1, bw, od, hxc, hgl⟩ := HF5.out
            obtain ⟨hn, hjD, hj, hzr, hzd, hok, htt⟩ := HN.out
            obtain ⟨k0, k1⟩ := HC5.out wx BX
            have hxf := Hhx.out wx BX
            have od5 := od.putHand hjD rfl hxc BX (hv9.mono (fun b hb _ => ⟨by have := hb.1; omega, by have := hb.2; omega⟩))
            obtain ⟨X5, hX5⟩ : ∃ W, W = wx.setCell ⟨g, j, none⟩ (.slice p9 (without zr c).length c9) := ⟨_, rfl⟩
            rw [← hX5, ← hn] at od5
            have hl3 := (Array.getElem?_eq_some_iff.1 g0).1
            have g05 : X5.heap[w.heap.size]? = some (.cells #[.slice (some ⟨blk, off, none⟩) D.hands.length c0, .int .i64 D.leader, .int .i64 D.trump, .slice p3 D.trick.length c3, .slice p4 D.won.length c4, .slice p5 D.points.length c5, .int .i64 D.left] 31 (0, 0)) := by rw [hX5, Below.heap_setCell _ _ _ _ (show w.heap.size ≠ g by have := Hsz.out; omega), BX.block _ hl3]; exact g0
            have g15 : X5.heap[w.heap.size + 1]? = some (.cells #[.slice none 0 0, .int .i64 0, .int .i64 0, .slice none 0 0, .slice none 0 0, .slice none 0 0, .int .i64 0] 31 (0, 0)) := by rw [hX5, Below.heap_setCell _ _ _ _ (show w.heap.size + 1 ≠ g by have := Hsz.out; omega), BX.block _ (Array.getElem?_eq_some_iff.1 g1).1]; exact g1
            have bw5 : Below w.heap.size w X5 := by rw [hX5]; exact (bw.trans (BX.mono bw.size)).setCell (show w.heap.size ≤ g by have := Hsz.out; omega) _
            have HX5 := Lib.hid hX5
            have HF6 := Lib.hid (And.intro od5 (And.intro g05 (And.intro g15 bw5)))
            clear hV hD hv9 l9 u9 g0 g1 bw od hxc hgl hn hjD hj hzr hzd hok htt od5 g05 g15 bw5 hX5 hl3 BX
            simp only [putT, List.foldl_cons, List.foldl_nil, Made.val, Act.put, List.setIfInBounds_toArray, List.set_cons_zero, List.set_cons_succ]
            rw [e9]
            clear e9
            refine wpAny_one (i := 10) (by kernel_rfl) (by simp only [List.getElem?_toArray, List.getElem?_cons_succ, List.getElem?_cons_zero]; rfl) (fun K hK => ?_)
            go_simp
            refine hK.out _ _ ?_
            clear hK K
            refine wpAny_one (i := 11) (by kernel_rfl) (by simp only [List.getElem?_toArray, List.getElem?_cons_succ, List.getElem?_cons_zero]; rfl) (fun K hK => ?_)
            go_simp
            refine hK.out _ _ ?_
            clear hK K
            clear k0 k1 hxf
            refine wpAny_end (by kernel_rfl) ?_
            rw [← HX5.out]
            clear HX5 HWi HC5 HF5 Hhx
            obtain ⟨od5, g0, g1, bw⟩ := HF6.out
            obtain ⟨hn, hjD, hj, hzr, hzd, hok, htt⟩ := HN.out
            -- the trick
            have hA : Below X5.heap.size X5 (X5.alloc (.cells #[.int .i64 c] 3)) := (Below.refl _ _).alloc (Nat.le_refl _) _
            obtain ⟨v6, w6, run6, own6, gr6⟩ := (od5.below hA).trickI.append (ys := [c]) ⟨X5.heap.size, 0, none⟩ 1 (by simp) (fun i hi => by
              have hi0 : i = 0 := (by simpa using hi)
              subst hi0
              have := cell_one_new X5 (.int .i64 c) 3 0 (.int .i64 c) rfl
              simpa using this) (by simpa using Hwc.out) (by have := Hf.out.2.2; simp; omega) 23
            obtain ⟨q3', d3', e6⟩ := own6.shape
            have em6 : ({ D with hands := D.hands.set j (without zr c) } : MDeal).trick = D.trick := rfl
            rw [List.length_append, List.length_singleton, em6] at e6
            subst e6
            have od6 := (od5.below hA).addTrick gr6 own6
            obtain ⟨X6, hX6⟩ : ∃ W, W = w6.setCell ⟨w1.heap.size, 3, none⟩ (.slice q3' (D.trick.length + 1) d3') := ⟨_, rfl⟩
            rw [← hX6] at od6
            have hl5 := od5.lens
            have held6 : ∀ b, (Value.slice q3 D.trick.length d3).held = some b → W0.heap.size ≤ b ∧ b ≠ w1.heap.size := fun b hb => ⟨((od5.below hA).trickI.held hb).1.1, ((od5.below hA).trickI.held hb).1.2.2⟩
            have hsA := hA.size
            have B6 : Below W0.heap.size X5 X6 := by rw [hX6]; exact ((hA.mono (by omega)).grown gr6 (by omega) (fun b hb => (held6 b hb).1)).setCell hl5.1 _
            have O6 : w6.heap[w1.heap.size]? = _ := (gr6.block w1.heap.size (Nat.lt_of_lt_of_le hl5.2.1 hsA) (fun e => (held6 _ e.symm).2 rfl)).trans (od5.below hA).cells
            have j3 := box_cell od5.cells 3
            have z3 := box_cell O6 3
            have y3 := box_free O6 3
            simp at j3 z3
            have szl := Hsz.out
            have g06 : X6.heap[w.heap.size]? = some (.cells #[.slice (some ⟨blk, off, none⟩) D.hands.length c0, .int .i64 D.leader, .int .i64 D.trump, .slice p3 D.trick.length c3, .slice p4 D.won.length c4, .slice p5 D.points.length c5, .int .i64 D.left] 31 (0, 0)) := (B6.block _ (by omega)).trans g0
            have g16 : X6.heap[w.heap.size + 1]? = some (.cells #[.slice none 0 0, .int .i64 0, .int .i64 0, .slice none 0 0, .slice none 0 0, .slice none 0 0, .int .i64 0] 31 (0, 0)) := (B6.block _ (by omega)).trans g1
            have bw6 : Below w.heap.size w X6 := bw.trans (B6.mono (by omega))
            have hlp : { ({ D with hands := D.hands.set j (without zr c) } : MDeal) with trick := D.trick ++ [c] } = laidP D c := by unfold laidP; rw [hzd, ← hj]
            rw [hlp] at od6
            have HX6 := Lib.hid hX6
            have Q := Lib.hid run6
            have HF7 := Lib.hid (And.intro od6 (And.intro g06 (And.intro g16 bw6)))
            clear od5 g0 g1 bw hn hjD hj hzr hzd hok htt hA run6 own6 gr6 od6 hX6 hl5 held6 hsA B6 O6 szl g06 g16 bw6 hlp em6
            go_upto_region 7 with (at_builtin; refine Lib.wpList_append_run _ rfl _ _ _ _ rfl _ _ rfl rfl _ _ Q.out ?_)
            rw [← HX6.out]
            clear j3 z3 y3 HX6 Q HF6
            obtain ⟨od6, g0, g1, bw⟩ := HF7.out
            obtain ⟨hn, hjD, hj, hzr, hzd, hok, htt⟩ := HN.out
            have G6 := od6.cells
            have z0 := box_cell G6 0
            have z3 := box_cell G6 3
            simp at z0 z3
            by_cases hfull : D.trick.length + 1 = n
            · have hfl : (laidP D c).trick.length = D.hands.length := by show (D.trick ++ [c]).length = _; rw [List.length_append, List.length_singleton, hfull, hn]
              have HE := Lib.hid (playD_end hok hfl)
              obtain ⟨k, hk, hkn, hwl, hwn, l0, l1, hn8, e4, e5⟩ := winP_facts hok hfl
              have hq : (((D.trick.length + 1 : Nat) : Int) == (n : Int)) = true := by simp; omega
              have hq2 : (((D.trick.length : Nat) : Int) + 1 == (n : Int)) = true := by simp; omega
              have hT := Lib.hid (endTrick_any a0 a1 (laidP D c) X6 od6 (by have := bw.size; have := od6.lens; omega) (HSn.out X6 bw) k (winP (laidP D c)) hk (by omega) l0 (by show D.leader < (n : Int); omega) (by omega) (by omega) (by omega) (by have := Hf.out.2.2; omega) (by rw [hn]; exact hwn) (by omega) rfl)
              have HG6 := Lib.hid (And.intro g1 bw)
              have hlt6 := (Array.getElem?_eq_some_iff.1 g1).1
              clear od6 g0 g1 bw G6 hn hjD hj hzr hzd hok htt hfl hfull hk hkn hwl hwn l0 l1 hn8 e4 e5
              go_wp2_with fail
              refine hT.out.mono ?_
              rintro e w7 ⟨rfl, ⟨g7, od7⟩, B7⟩
              clear z0 z3 hq hq2
              obtain ⟨g1, bw⟩ := HG6.out
              replace g1 := (B7.block _ (by have := Hsz.out; omega)).trans g1
              replace bw := bw.trans (B7.mono (by have := Hsz.out; omega))
              have gr := od7.cells
              have HX := Lib.hid (od7.final (r := w.heap.size + 1) (lo' := w.heap.size) (by have := Hsz.out; omega) (Nat.le_succ _) g1 bw)
              clear od7 bw B7 hT HG6 hlt6
              go_upto_region 9 with fail
              refine wp_region_lit ?_
              refine wpList_load_row rfl 31 _ rfl w1.heap.size rfl 31 _ _ _ gr Tryd.underlying31 rfl (by kernel_rfl) ?_
              clear gr
              refine wpList_store_row rfl 31 _ _ rfl (w.heap.size + 1) #[.slice (some ⟨g, 0, none⟩) n d0, .int .i64 (endP (laidP D c)).leader, .int .i64 (endP (laidP D c)).trump, .slice (some ⟨g7, 0, none⟩) 0 0, .slice q4 D.won.length d4, .slice q5 D.points.length d5, .int .i64 (endP (laidP D c)).left] rfl rfl 31 _ g1 (by kernel_rfl) rfl (by simp [Value.oneCell']) ?_
              clear g1
              go_wp2_with fail
              refine bodyPost_ret (results_row_tmp rfl _ _ (w.heap.size + 1) _ _ _ _ rfl HX.out.1 Tryd.underlying31 rfl (by kernel_rfl)) rfl ?_
              rw [HOK.out, HE.out]
              exact ⟨_, rfl, HX.out.2.1, HX.out.2.2⟩
            · have hfl : (laidP D c).trick.length ≠ D.hands.length := by show (D.trick ++ [c]).length ≠ _; rw [List.length_append, List.length_singleton, ← hn]; exact hfull
              have HE := Lib.hid (playD_on hok hfl)
              have hq : (((D.trick.length + 1 : Nat) : Int) == (n : Int)) = false := by simp; omega
              have hq2 : (((D.trick.length : Nat) : Int) + 1 == (n : Int)) = false := by simp; omega
              have gr := G6
              have HX := Lib.hid (od6.final (r := w.heap.size + 1) (lo' := w.heap.size) (by have := Hsz.out; omega) (Nat.le_succ _) g1 bw)
              clear od6 g0 bw G6 hn hjD hj hzr hzd hok htt hfl hfull
              go_upto_region 9 with fail
              refine wp_region_lit ?_
              refine wpList_load_row rfl 31 _ rfl w1.heap.size rfl 31 _ _ _ gr Tryd.underlying31 rfl (by kernel_rfl) ?_
              clear gr
              refine wpList_store_row rfl 31 _ _ rfl (w.heap.size + 1) #[.slice (some ⟨g, 0, none⟩) n d0, .int .i64 (laidP D c).leader, .int .i64 (laidP D c).trump, .slice q3' (D.trick.length + 1) d3', .slice q4 D.won.length d4, .slice q5 D.points.length d5, .int .i64 (laidP D c).left] rfl rfl 31 _ g1 (by kernel_rfl) rfl (by simp [Value.oneCell']) ?_
              clear g1
              go_wp2_with fail
              refine bodyPost_ret (results_row_tmp rfl _ _ (w.heap.size + 1) _ _ _ _ rfl HX.out.1 Tryd.underlying31 rfl (by kernel_rfl)) rfl ?_
              rw [HOK.out, HE.out]
              exact ⟨_, rfl, HX.out.2.1, HX.out.2.2⟩
set_option maxRecDepth 100000 in
set_option maxHeartbeats 4000000 in
theorem sPlayCard_any (v : Value) (D : MDeal) (c : Int) (w : World) (h : RdDeal w v D) (hf : D.Few) (wc : (Lit.int .i64 c).wf = true) :
    Calls Tryd.prog 20 #[v, .int .i64 c] w fun e w' => ∃ v', e = .returned (.tuple #[v', .bool (playOK D c)]) ∧ WrDeal (In w.heap.size w'.heap.size) w' v' (playD D c) ∧ Below w.heap.size w w' := by
  obtain ⟨p0, p3, p4, p5, c0, c3, c4, c5, ev⟩ := h.shape
  subst ev
  obtain ⟨W0, hW0⟩ : ∃ W, W = (w.alloc (.cells #[.slice p0 D.hands.length c0, .int .i64 D.leader, .int .i64 D.trump, .slice p3 D.trick.length c3, .slice p4 D.won.length c4, .slice p5 D.points.length c5, .int .i64 D.left] 31)).alloc (.cells #[.slice none 0 0, .int .i64 0, .int .i64 0, .slice none 0 0, .slice none 0 0, .slice none 0 0, .int .i64 0] 31) := ⟨_, rfl⟩
  have G0 : W0.heap[w.heap.size]? = some (.cells #[.slice p0 D.hands.length c0, .int .i64 D.leader, .int .i64 D.trump, .slice p3 D.trick.length c3, .slice p4 D.won.length c4, .slice p5 D.points.length c5, .int .i64 D.left] 31 (0, 0)) := by rw [hW0]; exact heap_alloc2_old _ _ _
  have G1 : W0.heap[w.heap.size + 1]? = some (.cells #[.slice none 0 0, .int .i64 0, .int .i64 0, .slice none 0 0, .slice none 0 0, .slice none 0 0, .int .i64 0] 31 (0, 0)) := by rw [hW0]; exact heap_alloc2_new _ _ _
  have hsz : W0.heap.size = w.heap.size + 2 := by rw [hW0]; simp
  have B0 : Below w.heap.size w W0 := by rw [hW0]; exact ((Below.refl _ _).alloc (Nat.le_refl _) _).alloc (by simp) _
  have hfw := hf
  obtain ⟨f0, fs0, f3, -⟩ := hfw
  obtain ⟨hr0, b3, h3⟩ : RdRows .i64 w (.slice p0 D.hands.length c0) D.hands ∧ ∃ b3, RdAt .i64 w (.slice p3 D.trick.length c3) D.trick b3 := by
    obtain ⟨v0, v3, v4, v5, b3, b4, b5, e, h0, h3, -⟩ := id h
    simp at e
    obtain ⟨rfl, rfl, -⟩ := e
    exact ⟨h0, b3, h3⟩
  have Hsum : Hid (∀ j (hj : j < D.hands.length), D.hands[j].length ≤ 1048576) := Lib.hid (fun j hj => Nat.le_trans (len_le_sum D.hands hj) fs0)
  have HCp := Lib.hid (sl12Copy_any _ D W0 (h.below B0) hf)
  have HI := Lib.hid (fun wx (hb : Below w.heap.size w wx) => sIsDeal_any _ D wx (h.below hb) hf _ rfl)
  have HT := Lib.hid (fun wx (hb : Below w.heap.size w wx) => sTurnOf_any _ D wx (h.below hb) hf)
  have HRd := Lib.hid (fun wx (hb : Below w.heap.size w wx) => And.intro (hr0.below hb) (h3.below hb))
  skip
  have HW := Lib.hid hW0
  have HG := Lib.hid (And.intro G0 (And.intro G1 (And.intro hsz B0)))
  have Hsz := Lib.hid hsz
  have Hf := Lib.hid (And.intro hf (And.intro f0 f3))
  have Hwc := Lib.hid wc
  clear h hf f0 fs0 f3 hr0 h3 hW0 G0 G1 hsz B0 wc
  go_enter Tryd.func20, Tryd.ntmps20
  go_upto_region 1 with fail
  rw [← HW.out]
  obtain ⟨G0, G1, hsz, B0⟩ := HG.out
  refine wp_region_lit ?_
  refine wpList_load_row rfl 31 _ rfl w.heap.size rfl 31 _ _ _ G0 Tryd.underlying31 rfl (by kernel_rfl) ?_
  clear G0 G1 hsz B0
  go_wp2_with fail
  refine HCp.out.mono ?_
  rintro e w1 ⟨v1, rfl, own, B1⟩
  obtain ⟨q0, q3, q4, q5, d0, d3, d4, d5, S0, S3, S4, S5, ev, ho⟩ := id own
  subst ev
  obtain ⟨X, hX⟩ : ∃ X, X = w1.alloc (.cells #[.slice q0 D.hands.length d0, .int .i64 D.leader, .int .i64 D.trump, .slice q3 D.trick.length d3, .slice q4 D.won.length d4, .slice q5 D.points.length d5, .int .i64 D.left] 31) := ⟨_, rfl⟩
  have HX0 := Lib.hid hX
  have bX : Below w1.heap.size w1 X := by rw [hX]; exact (Below.refl _ _).alloc (Nat.le_refl _) _
  have gX : X.heap[w1.heap.size]? = some (.cells #[.slice q0 D.hands.length d0, .int .i64 D.leader, .int .i64 D.trump, .slice q3 D.trick.length d3, .slice q4 D.won.length d4, .slice q5 D.points.length d5, .int .i64 D.left] 31 (0, 0)) := by rw [hX]; exact heap_alloc_new _ _
  have HGX : Hid (∀ wx, Below X.heap.size X wx → wx.heap[w.heap.size]? = some (.cells #[.slice p0 D.hands.length c0, .int .i64 D.leader, .int .i64 D.trump, .slice p3 D.trick.length c3, .slice p4 D.won.length c4, .slice p5 D.points.length c5, .int .i64 D.left] 31 (0, 0)) ∧ wx.heap[w.heap.size + 1]? = some (.cells #[.slice none 0 0, .int .i64 0, .int .i64 0, .slice none 0 0, .slice none 0 0, .slice none 0 0, .int .i64 0] 31 (0, 0)) ∧ Below w.heap.size w wx ∧ OD W0.heap.size w1.heap.size wx D q0 q3 q4 q5 d0 d3 d4 d5 D.hands.length D.trick.length D.won.length D.points.length) := by
    obtain ⟨G0, G1, hsz, B0⟩ := HG.out
    have s1 := B1.size
    have sX := bX.size
    have gl := (Array.getElem?_eq_some_iff.1 gX).1
    refine Lib.hid (fun wx hb => ⟨?_, ?_, ?_, (OD.of (own.below bX) s1 (Nat.le_refl _) gX).below hb⟩)
    · rw [hb.block _ (by omega), bX.block _ (by omega), B1.block _ (by omega)]; exact G0
    · rw [hb.block _ (by omega), bX.block _ (by omega), B1.block _ (by omega)]; exact G1
    · exact ((B0.trans (B1.mono B0.size)).trans (bX.mono (Nat.le_trans B0.size s1))).trans (hb.mono (Nat.le_trans (Nat.le_trans B0.size s1) sX))
  clear ho own bX gX hX B1
  go_upto_region 2 with fail
  rw [← HX0.out]
  obtain ⟨g0, g1, bw, od⟩ := HGX.out X (Below.refl _ _)
  refine wp_region_lit ?_
  refine wpList_load_row rfl 31 _ rfl w.heap.size rfl 31 _ _ _ g0 Tryd.underlying31 rfl (by kernel_rfl) ?_
  clear g0 g1 od
  go_wp2_with fail
  refine (HT.out _ bw).mono ?_
  rintro e w2 ⟨rfl, B2⟩
  clear bw HT HCp
  obtain ⟨tt, htt⟩ : ∃ t, t = turnOf D := ⟨_, rfl⟩
  rw [← htt]
  have Htt := Lib.hid htt
  clear htt
  go_upto_region 3 with fail
  obtain ⟨g0, g1, bw, od⟩ := HGX.out w2 B2
  have HC : Hid (∀ wx, Below w2.heap.size w2 wx → wx.heap[w.heap.size]? = some (.cells #[.slice p0 D.hands.length c0, .int .i64 D.leader, .int .i64 D.trump, .slice p3 D.trick.length c3, .slice p4 D.won.length c4, .slice p5 D.points.length c5, .int .i64 D.left] 31 (0, 0)) ∧ Below w.heap.size w wx) := Lib.hid (fun wx hb => ⟨(hb.block _ (Array.getElem?_eq_some_iff.1 g0).1).trans g0, bw.trans (hb.mono bw.size)⟩)
  clear g0 g1 bw od
  cases hd : isDeal D with
  | false =>
    have hok : playOK D c = false := by unfold playOK; rw [hd]; rfl
    have HOK := Lib.hid hok
    have HE := Lib.hid (playD_no hok)
    rw [hd] at HI
    clear hd hok
    refine wp_region_table [(0, some 13, .is (.agg #[.slice p0 D.hands.length c0, .int .i64 D.leader, .int .i64 D.trump, .slice p3 D.trick.length c3, .slice p4 D.won.length c4, .slice p5 D.points.length c5, .int .i64 D.left])), (1, some 14, .is (.bool false)), (2, some 15, .is (.bool true)), (3, some 16, .is (.bool true)), (4, some 17, .is (undef)), (5, some 18, .is (undef)), (6, some 19, .is (.bool true)), (7, some 20, .is (.bool true)), (8, some 21, .is (undef)), (9, some 22, .is (undef)), (10, some 23, .is (undef)), (11, some 24, .is (undef)), (12, some 25, .is (undef)), (13, some 26, .is (undef)), (14, some 27, .is (undef)), (15, some 28, .is (undef)), (16, some 29, .is (undef)), (17, some 30, .is (undef)), (18, some 31, .is (.bool true))] 0 (by kernel_rfl) (by kernel_rfl) (by kernel_rfl) (by kernel_rfl) (by kernel_rfl) (L := #[true, true, true, true, true, true, true, true, true, true, true, true, true, true, true, true, true, true, true]) (by kernel_rfl) ?steps ?fin
    case steps =>
      refine StepsT.cons [] (by simp only [List.getElem?_toArray, List.getElem?_cons_succ, List.getElem?_cons_zero]; rfl) (by kernel_rfl) (by rfl) (fun wx val iv hB hV K hK => ?_) ?_
      · (obtain ⟨G, -⟩ := HC.out wx hB; clear hV; simp only [putT, List.foldl_cons, List.foldl_nil, Made.val, Act.put, List.setIfInBounds_toArray, List.set_cons_zero, List.set_cons_succ]; rw [if_pos (by rfl)]; exact wp_load_row 31 (.tmp 2) (by rfl) w.heap.size (by rfl) 31 #[.slice p0 D.hands.length c0, .int .i64 D.leader, .int .i64 D.trump, .slice p3 D.trick.length c3, .slice p4 D.won.length c4, .slice p5 D.points.length c5, .int .i64 D.left] (0, 0) _ G Tryd.underlying31 (by rfl) (by kernel_rfl) (hK.out _ _ rfl (Below.refl _ _)))
      refine StepsT.cons [(0, some 13, .is (.agg #[.slice p0 D.hands.length c0, .int .i64 D.leader, .int .i64 D.trump, .slice p3 D.trick.length c3, .slice p4 D.won.length c4, .slice p5 D.points.length c5, .int .i64 D.left]))] (by simp only [List.getElem?_toArray, List.getElem?_cons_succ, List.getElem?_cons_zero]; rfl) (by kernel_rfl) (by rfl) (fun wx val iv hB hV K hK => ?_) ?_
      · (have hbw := (HC.out wx hB).2; clear hV; simp only [putT, List.foldl_cons, List.foldl_nil, Made.val, Act.put, List.setIfInBounds_toArray, List.set_cons_zero, List.set_cons_succ]; go_simp; go_at_call 33; refine (HI.out wx hbw).mono ?_; rintro e wa ⟨rfl, Ba⟩; exact hK.out _ _ rfl Ba)
      refine StepsT.cons [(1, some 14, .is (.bool false))] (by simp only [List.getElem?_toArray, List.getElem?_cons_succ, List.getElem?_cons_zero]; rfl) (by kernel_rfl) (by rfl) (fun wx val iv hB hV K hK => ?_) ?_
      · clear hV; simp only [putT, List.foldl_cons, List.foldl_nil, Made.val, Act.put, List.setIfInBounds_toArray, List.set_cons_zero, List.set_cons_succ]; go_simp; exact hK.out _ _ rfl (Below.refl _ _)
      refine StepsT.cons [(1, some 14, .is (.bool false)), (2, some 15, .is (.bool true))] (by simp only [List.getElem?_toArray, List.getElem?_cons_succ, List.getElem?_cons_zero]; rfl) (by kernel_rfl) (by rfl) (fun wx val iv hB hV K hK => ?_) ?_
      · clear hV; simp only [putT, List.foldl_cons, List.foldl_nil, Made.val, Act.put, List.setIfInBounds_toArray, List.set_cons_zero, List.set_cons_succ]; go_simp; exact hK.out _ _ rfl (Below.refl _ _)
      refine StepsT.cons [(3, some 16, .is (.bool true))] (by simp only [List.getElem?_toArray, List.getElem?_cons_succ, List.getElem?_cons_zero]; rfl) (by kernel_rfl) (by rfl) (fun wx val iv hB hV K hK => ?_) ?_
      · clear hV; simp only [putT, List.foldl_cons, List.foldl_nil, Made.val, Act.put, List.setIfInBounds_toArray, List.set_cons_zero, List.set_cons_succ]; go_simp; exact hK.out _ _ rfl (Below.refl _ _)
      refine StepsT.cons [(3, some 16, .is (.bool true)), (4, some 17, .is (undef))] (by simp only [List.getElem?_toArray, List.getElem?_cons_succ, List.getElem?_cons_zero]; rfl) (by kernel_rfl) (by rfl) (fun wx val iv hB hV K hK => ?_) ?_
      · clear hV; simp only [putT, List.foldl_cons, List.foldl_nil, Made.val, Act.put, List.setIfInBounds_toArray, List.set_cons_zero, List.set_cons_succ]; go_simp; exact hK.out _ _ rfl (Below.refl _ _)
      refine StepsT.cons [(3, some 16, .is (.bool true)), (5, some 18, .is (undef))] (by simp only [List.getElem?_toArray, List.getElem?_cons_succ, List.getElem?_cons_zero]; rfl) (by kernel_rfl) (by rfl) (fun wx val iv hB hV K hK => ?_) ?_
      · clear hV; simp only [putT, List.foldl_cons, List.foldl_nil, Made.val, Act.put, List.setIfInBounds_toArray, List.set_cons_zero, List.set_cons_succ]; go_simp; exact hK.out _ _ rfl (Below.refl _ _)
      refine StepsT.cons [(3, some 16, .is (.bool true)), (6, some 19, .is (.bool true))] (by simp only [List.getElem?_toArray, List.getElem?_cons_succ, List.getElem?_cons_zero]; rfl) (by kernel_rfl) (by rfl) (fun wx val iv hB hV K hK => ?_) ?_
      · clear hV; simp only [putT, List.foldl_cons, List.foldl_nil, Made.val, Act.put, List.setIfInBounds_toArray, List.set_cons_zero, List.set_cons_succ]; go_simp; exact hK.out _ _ rfl (Below.refl _ _)
      refine StepsT.cons [(7, some 20, .is (.bool true))] (by simp only [List.getElem?_toArray, List.getElem?_cons_succ, List.getElem?_cons_zero]; rfl) (by kernel_rfl) (by rfl) (fun wx val iv hB hV K hK => ?_) ?_
      · clear hV; simp only [putT, List.foldl_cons, List.foldl_nil, Made.val, Act.put, List.setIfInBounds_toArray, List.set_cons_zero, List.set_cons_succ]; go_simp; exact hK.out _ _ rfl (Below.refl _ _)
      refine StepsT.cons [(7, some 20, .is (.bool true)), (8, some 21, .is (undef))] (by simp only [List.getElem?_toArray, List.getElem?_cons_succ, List.getElem?_cons_zero]; rfl) (by kernel_rfl) (by rfl) (fun wx val iv hB hV K hK => ?_) ?_
      · (skip); clear hV; simp only [putT, List.foldl_cons, List.foldl_nil, Made.val, Act.put, List.setIfInBounds_toArray, List.set_cons_zero, List.set_cons_succ]; go_simp; exact hK.out _ _ rfl (Below.refl _ _)
      refine StepsT.cons [(7, some 20, .is (.bool true))] (by simp only [List.getElem?_toArray, List.getElem?_cons_succ, List.getElem?_cons_zero]; rfl) (by kernel_rfl) (by rfl) (fun wx val iv hB hV K hK => ?_) ?_
      · clear hV; simp only [putT, List.foldl_cons, List.foldl_nil, Made.val, Act.put, List.setIfInBounds_toArray, List.set_cons_zero, List.set_cons_succ]; go_simp; exact hK.out _ _ rfl (Below.refl _ _)
      refine StepsT.cons [(7, some 20, .is (.bool true)), (9, some 22, .is (undef)), (10, some 23, .is (undef))] (by simp only [List.getElem?_toArray, List.getElem?_cons_succ, List.getElem?_cons_zero]; rfl) (by kernel_rfl) (by rfl) (fun wx val iv hB hV K hK => ?_) ?_
      · (skip); clear hV; simp only [putT, List.foldl_cons, List.foldl_nil, Made.val, Act.put, List.setIfInBounds_toArray, List.set_cons_zero, List.set_cons_succ]; go_simp; exact hK.out _ _ rfl (Below.refl _ _)
      refine StepsT.cons [(7, some 20, .is (.bool true)), (11, some 24, .is (undef))] (by simp only [List.getElem?_toArray, List.getElem?_cons_succ, List.getElem?_cons_zero]; rfl) (by kernel_rfl) (by rfl) (fun wx val iv hB hV K hK => ?_) ?_
      · (skip); clear hV; simp only [putT, List.foldl_cons, List.foldl_nil, Made.val, Act.put, List.setIfInBounds_toArray, List.set_cons_zero, List.set_cons_succ]; go_simp; exact hK.out _ _ rfl (Below.refl _ _)
      refine StepsT.cons [(7, some 20, .is (.bool true))] (by simp only [List.getElem?_toArray, List.getElem?_cons_succ, List.getElem?_cons_zero]; rfl) (by kernel_rfl) (by rfl) (fun wx val iv hB hV K hK => ?_) ?_
      · clear hV; simp only [putT, List.foldl_cons, List.foldl_nil, Made.val, Act.put, List.setIfInBounds_toArray, List.set_cons_zero, List.set_cons_succ]; go_simp; exact hK.out _ _ rfl (Below.refl _ _)
      refine StepsT.cons [(7, some 20, .is (.bool true)), (13, some 26, .is (undef))] (by simp only [List.getElem?_toArray, List.getElem?_cons_succ, List.getElem?_cons_zero]; rfl) (by kernel_rfl) (by rfl) (fun wx val iv hB hV K hK => ?_) ?_
      · (skip); clear hV; simp only [putT, List.foldl_cons, List.foldl_nil, Made.val, Act.put, List.setIfInBounds_toArray, List.set_cons_zero, List.set_cons_succ]; go_simp; exact hK.out _ _ rfl (Below.refl _ _)
      refine StepsT.cons [(7, some 20, .is (.bool true))] (by simp only [List.getElem?_toArray, List.getElem?_cons_succ, List.getElem?_cons_zero]; rfl) (by kernel_rfl) (by rfl) (fun wx val iv hB hV K hK => ?_) ?_
      · clear hV; simp only [putT, List.foldl_cons, List.foldl_nil, Made.val, Act.put, List.setIfInBounds_toArray, List.set_cons_zero, List.set_cons_succ]; go_simp; exact hK.out _ _ rfl (Below.refl _ _)
      refine StepsT.cons [(7, some 20, .is (.bool true)), (12, some 25, .is (undef)), (14, some 27, .is (undef)), (15, some 28, .is (undef))] (by simp only [List.getElem?_toArray, List.getElem?_cons_succ, List.getElem?_cons_zero]; rfl) (by kernel_rfl) (by rfl) (fun wx val iv hB hV K hK => ?_) ?_
      · clear hV; simp only [putT, List.foldl_cons, List.foldl_nil, Made.val, Act.put, List.setIfInBounds_toArray, List.set_cons_zero, List.set_cons_succ]; go_simp; exact hK.out _ _ rfl (Below.refl _ _)
      refine StepsT.cons [(7, some 20, .is (.bool true)), (16, some 29, .is (undef))] (by simp only [List.getElem?_toArray, List.getElem?_cons_succ, List.getElem?_cons_zero]; rfl) (by kernel_rfl) (by rfl) (fun wx val iv hB hV K hK => ?_) ?_
      · clear hV; simp only [putT, List.foldl_cons, List.foldl_nil, Made.val, Act.put, List.setIfInBounds_toArray, List.set_cons_zero, List.set_cons_succ]; go_simp; exact hK.out _ _ rfl (Below.refl _ _)
      refine StepsT.cons [(7, some 20, .is (.bool true)), (17, some 30, .is (undef))] (by simp only [List.getElem?_toArray, List.getElem?_cons_succ, List.getElem?_cons_zero]; rfl) (by kernel_rfl) (by rfl) (fun wx val iv hB hV K hK => ?_) ?_
      · clear hV; simp only [putT, List.foldl_cons, List.foldl_nil, Made.val, Act.put, List.setIfInBounds_toArray, List.set_cons_zero, List.set_cons_succ]; go_simp; exact hK.out _ _ rfl (Below.refl _ _)
      exact StepsT.nil
    case fin =>
      intro wx val iv BX hV hD
      clear hV hD
      refine wpAny_end (by kernel_rfl) ?_
      simp only [putT, List.foldl_cons, List.foldl_nil, Made.val, Act.put, List.setIfInBounds_toArray, List.set_cons_zero, List.set_cons_succ]
      obtain ⟨g0, g1, bw, od⟩ := HGX.out wx (B2.trans (BX.mono B2.size))
      have gr := od.cells
      have HX := Lib.hid (od.final (r := w.heap.size + 1) (lo' := w.heap.size) (by have := Hsz.out; omega) (Nat.le_succ _) g1 bw)
      clear g0 bw od BX B2
      go_upto_region 4 with fail
      refine wp_region_lit ?_
      refine wpList_load_row rfl 31 _ rfl w1.heap.size rfl 31 _ _ _ gr Tryd.underlying31 rfl (by kernel_rfl) ?_
      clear gr
      refine wpList_store_row rfl 31 _ _ rfl (w.heap.size + 1) #[.slice q0 D.hands.length d0, .int .i64 D.leader, .int .i64 D.trump, .slice q3 D.trick.length d3, .slice q4 D.won.length d4, .slice q5 D.points.length d5, .int .i64 D.left] rfl rfl 31 _ g1 (by kernel_rfl) rfl (by simp [Value.oneCell']) ?_
      clear g1
      go_wp2_with fail
      refine bodyPost_ret (results_row_tmp rfl _ _ (w.heap.size + 1) _ _ _ _ rfl HX.out.1 Tryd.underlying31 rfl (by kernel_rfl)) rfl ?_
      rw [HOK.out, HE.out]
      exact ⟨_, rfl, HX.out.2.1, HX.out.2.2⟩
  | true =>
    rw [hd] at HI
    by_cases ht0 : tt < 0
    · have hok : playOK D c = false := by unfold playOK; rw [← Htt.out, decide_eq_false (show ¬ (0 : Int) ≤ tt by omega)]; simp
      have HOK := Lib.hid hok
      have HE := Lib.hid (playD_no hok)
      clear hd hok
      refine wp_region_table [(0, some 13, .is (.agg #[.slice p0 D.hands.length c0, .int .i64 D.leader, .int .i64 D.trump, .slice p3 D.trick.length c3, .slice p4 D.won.length c4, .slice p5 D.points.length c5, .int .i64 D.left])), (1, some 14, .is (.bool true)), (2, some 15, .is (.bool false)), (3, some 16, .is (.bool false)), (4, some 17, .is (.int .i64 tt)), (5, some 18, .is (.bool true)), (6, some 19, .is (.bool true)), (7, some 20, .is (.bool true)), (8, some 21, .is (undef)), (9, some 22, .is (undef)), (10, some 23, .is (undef)), (11, some 24, .is (undef)), (12, some 25, .is (undef)), (13, some 26, .is (undef)), (14, some 27, .is (undef)), (15, some 28, .is (undef)), (16, some 29, .is (undef)), (17, some 30, .is (undef)), (18, some 31, .is (.bool true))] 0 (by kernel_rfl) (by kernel_rfl) (by kernel_rfl) (by kernel_rfl) (by kernel_rfl) (L := #[true, true, true, true, true, true, true, true, true, true, true, true, true, true, true, true, true, true, true]) (by kernel_rfl) ?steps ?fin
      case steps =>
        refine StepsT.cons [] (by simp only [List.getElem?_toArray, List.getElem?_cons_succ, List.getElem?_cons_zero]; rfl) (by kernel_rfl) (by rfl) (fun wx val iv hB hV K hK => ?_) ?_
        · (obtain ⟨G, -⟩ := HC.out wx hB; clear hV; simp only [putT, List.foldl_cons, List.foldl_nil, Made.val, Act.put, List.setIfInBounds_toArray, List.set_cons_zero, List.set_cons_succ]; rw [if_pos (by rfl)]; exact wp_load_row 31 (.tmp 2) (by rfl) w.heap.size (by rfl) 31 #[.slice p0 D.hands.length c0, .int .i64 D.leader, .int .i64 D.trump, .slice p3 D.trick.length c3, .slice p4 D.won.length c4, .slice p5 D.points.length c5, .int .i64 D.left] (0, 0) _ G Tryd.underlying31 (by rfl) (by kernel_rfl) (hK.out _ _ rfl (Below.refl _ _)))
        refine StepsT.cons [(0, some 13, .is (.agg #[.slice p0 D.hands.length c0, .int .i64 D.leader, .int .i64 D.trump, .slice p3 D.trick.length c3, .slice p4 D.won.length c4, .slice p5 D.points.length c5, .int .i64 D.left]))] (by simp only [List.getElem?_toArray, List.getElem?_cons_succ, List.getElem?_cons_zero]; rfl) (by kernel_rfl) (by rfl) (fun wx val iv hB hV K hK => ?_) ?_
        · (have hbw := (HC.out wx hB).2; clear hV; simp only [putT, List.foldl_cons, List.foldl_nil, Made.val, Act.put, List.setIfInBounds_toArray, List.set_cons_zero, List.set_cons_succ]; go_simp; go_at_call 33; refine (HI.out wx hbw).mono ?_; rintro e wa ⟨rfl, Ba⟩; exact hK.out _ _ rfl Ba)
        refine StepsT.cons [(1, some 14, .is (.bool true))] (by simp only [List.getElem?_toArray, List.getElem?_cons_succ, List.getElem?_cons_zero]; rfl) (by kernel_rfl) (by rfl) (fun wx val iv hB hV K hK => ?_) ?_
        · clear hV; simp only [putT, List.foldl_cons, List.foldl_nil, Made.val, Act.put, List.setIfInBounds_toArray, List.set_cons_zero, List.set_cons_succ]; go_simp; exact hK.out _ _ rfl (Below.refl _ _)
        refine StepsT.cons [(1, some 14, .is (.bool true)), (2, some 15, .is (.bool false))] (by simp only [List.getElem?_toArray, List.getElem?_cons_succ, List.getElem?_cons_zero]; rfl) (by kernel_rfl) (by rfl) (fun wx val iv hB hV K hK => ?_) ?_
        · clear hV; simp only [putT, List.foldl_cons, List.foldl_nil, Made.val, Act.put, List.setIfInBounds_toArray, List.set_cons_zero, List.set_cons_succ]; go_simp; exact hK.out _ _ rfl (Below.refl _ _)
        refine StepsT.cons [(3, some 16, .is (.bool false))] (by simp only [List.getElem?_toArray, List.getElem?_cons_succ, List.getElem?_cons_zero]; rfl) (by kernel_rfl) (by rfl) (fun wx val iv hB hV K hK => ?_) ?_
        · clear hV; simp only [putT, List.foldl_cons, List.foldl_nil, Made.val, Act.put, List.setIfInBounds_toArray, List.set_cons_zero, List.set_cons_succ]; go_simp; exact hK.out _ _ rfl (Below.refl _ _)
        refine StepsT.cons [(3, some 16, .is (.bool false)), (4, some 17, .is (.int .i64 tt))] (by simp only [List.getElem?_toArray, List.getElem?_cons_succ, List.getElem?_cons_zero]; rfl) (by kernel_rfl) (by rfl) (fun wx val iv hB hV K hK => ?_) ?_
        · clear hV; simp only [putT, List.foldl_cons, List.foldl_nil, Made.val, Act.put, List.setIfInBounds_toArray, List.set_cons_zero, List.set_cons_succ]; go_simp; exact hK.out _ _ rfl (Below.refl _ _)
        refine StepsT.cons [(3, some 16, .is (.bool false)), (5, some 18, .is (.bool true))] (by simp only [List.getElem?_toArray, List.getElem?_cons_succ, List.getElem?_cons_zero]; rfl) (by kernel_rfl) (by rfl) (fun wx val iv hB hV K hK => ?_) ?_
        · clear hV; simp only [putT, List.foldl_cons, List.foldl_nil, Made.val, Act.put, List.setIfInBounds_toArray, List.set_cons_zero, List.set_cons_succ]; go_simp; exact hK.out _ _ rfl (Below.refl _ _)
        refine StepsT.cons [(3, some 16, .is (.bool false)), (6, some 19, .is (.bool true))] (by simp only [List.getElem?_toArray, List.getElem?_cons_succ, List.getElem?_cons_zero]; rfl) (by kernel_rfl) (by rfl) (fun wx val iv hB hV K hK => ?_) ?_
        · clear hV; simp only [putT, List.foldl_cons, List.foldl_nil, Made.val, Act.put, List.setIfInBounds_toArray, List.set_cons_zero, List.set_cons_succ]; go_simp; exact hK.out _ _ rfl (Below.refl _ _)
        refine StepsT.cons [(7, some 20, .is (.bool true))] (by simp only [List.getElem?_toArray, List.getElem?_cons_succ, List.getElem?_cons_zero]; rfl) (by kernel_rfl) (by rfl) (fun wx val iv hB hV K hK => ?_) ?_
        · clear hV; simp only [putT, List.foldl_cons, List.foldl_nil, Made.val, Act.put, List.setIfInBounds_toArray, List.set_cons_zero, List.set_cons_succ]; go_simp; exact hK.out _ _ rfl (Below.refl _ _)
        refine StepsT.cons [(7, some 20, .is (.bool true)), (8, some 21, .is (undef))] (by simp only [List.getElem?_toArray, List.getElem?_cons_succ, List.getElem?_cons_zero]; rfl) (by kernel_rfl) (by rfl) (fun wx val iv hB hV K hK => ?_) ?_
        · (skip); clear hV; simp only [putT, List.foldl_cons, List.foldl_nil, Made.val, Act.put, List.setIfInBounds_toArray, List.set_cons_zero, List.set_cons_succ]; go_simp; exact hK.out _ _ rfl (Below.refl _ _)
        refine StepsT.cons [(7, some 20, .is (.bool true))] (by simp only [List.getElem?_toArray, List.getElem?_cons_succ, List.getElem?_cons_zero]; rfl) (by kernel_rfl) (by rfl) (fun wx val iv hB hV K hK => ?_) ?_
        · clear hV; simp only [putT, List.foldl_cons, List.foldl_nil, Made.val, Act.put, List.setIfInBounds_toArray, List.set_cons_zero, List.set_cons_succ]; go_simp; exact hK.out _ _ rfl (Below.refl _ _)
        refine StepsT.cons [(7, some 20, .is (.bool true)), (9, some 22, .is (undef)), (10, some 23, .is (undef))] (by simp only [List.getElem?_toArray, List.getElem?_cons_succ, List.getElem?_cons_zero]; rfl) (by kernel_rfl) (by rfl) (fun wx val iv hB hV K hK => ?_) ?_
        · (skip); clear hV; simp only [putT, List.foldl_cons, List.foldl_nil, Made.val, Act.put, List.setIfInBounds_toArray, List.set_cons_zero, List.set_cons_succ]; go_simp; exact hK.out _ _ rfl (Below.refl _ _)
        refine StepsT.cons [(7, some 20, .is (.bool true)), (11, some 24, .is (undef))] (by simp only [List.getElem?_toArray, List.getElem?_cons_succ, List.getElem?_cons_zero]; rfl) (by kernel_rfl) (by rfl) (fun wx val iv hB hV K hK => ?_) ?_
        · (skip); clear hV; simp only [putT, List.foldl_cons, List.foldl_nil, Made.val, Act.put, List.setIfInBounds_toArray, List.set_cons_zero, List.set_cons_succ]; go_simp; exact hK.out _ _ rfl (Below.refl _ _)
        refine StepsT.cons [(7, some 20, .is (.bool true))] (by simp only [List.getElem?_toArray, List.getElem?_cons_succ, List.getElem?_cons_zero]; rfl) (by kernel_rfl) (by rfl) (fun wx val iv hB hV K hK => ?_) ?_
        · clear hV; simp only [putT, List.foldl_cons, List.foldl_nil, Made.val, Act.put, List.setIfInBounds_toArray, List.set_cons_zero, List.set_cons_succ]; go_simp; exact hK.out _ _ rfl (Below.refl _ _)
        refine StepsT.cons [(7, some 20, .is (.bool true)), (13, some 26, .is (undef))] (by simp only [List.getElem?_toArray, List.getElem?_cons_succ, List.getElem?_cons_zero]; rfl) (by kernel_rfl) (by rfl) (fun wx val iv hB hV K hK => ?_) ?_
        · (skip); clear hV; simp only [putT, List.foldl_cons, List.foldl_nil, Made.val, Act.put, List.setIfInBounds_toArray, List.set_cons_zero, List.set_cons_succ]; go_simp; exact hK.out _ _ rfl (Below.refl _ _)
        refine StepsT.cons [(7, some 20, .is (.bool true))] (by simp only [List.getElem?_toArray, List.getElem?_cons_succ, List.getElem?_cons_zero]; rfl) (by kernel_rfl) (by rfl) (fun wx val iv hB hV K hK => ?_) ?_
        · clear hV; simp only [putT, List.foldl_cons, List.foldl_nil, Made.val, Act.put, List.setIfInBounds_toArray, List.set_cons_zero, List.set_cons_succ]; go_simp; exact hK.out _ _ rfl (Below.refl _ _)
        refine StepsT.cons [(7, some 20, .is (.bool true)), (12, some 25, .is (undef)), (14, some 27, .is (undef)), (15, some 28, .is (undef))] (by simp only [List.getElem?_toArray, List.getElem?_cons_succ, List.getElem?_cons_zero]; rfl) (by kernel_rfl) (by rfl) (fun wx val iv hB hV K hK => ?_) ?_
        · clear hV; simp only [putT, List.foldl_cons, List.foldl_nil, Made.val, Act.put, List.setIfInBounds_toArray, List.set_cons_zero, List.set_cons_succ]; go_simp; exact hK.out _ _ rfl (Below.refl _ _)
        refine StepsT.cons [(7, some 20, .is (.bool true)), (16, some 29, .is (undef))] (by simp only [List.getElem?_toArray, List.getElem?_cons_succ, List.getElem?_cons_zero]; rfl) (by kernel_rfl) (by rfl) (fun wx val iv hB hV K hK => ?_) ?_
        · clear hV; simp only [putT, List.foldl_cons, List.foldl_nil, Made.val, Act.put, List.setIfInBounds_toArray, List.set_cons_zero, List.set_cons_succ]; go_simp; exact hK.out _ _ rfl (Below.refl _ _)
        refine StepsT.cons [(7, some 20, .is (.bool true)), (17, some 30, .is (undef))] (by simp only [List.getElem?_toArray, List.getElem?_cons_succ, List.getElem?_cons_zero]; rfl) (by kernel_rfl) (by rfl) (fun wx val iv hB hV K hK => ?_) ?_
        · clear hV; simp only [putT, List.foldl_cons, List.foldl_nil, Made.val, Act.put, List.setIfInBounds_toArray, List.set_cons_zero, List.set_cons_succ]; go_simp; exact hK.out _ _ rfl (Below.refl _ _)
        exact StepsT.nil
      case fin =>
        intro wx val iv BX hV hD
        clear hV hD
        refine wpAny_end (by kernel_rfl) ?_
        simp only [putT, List.foldl_cons, List.foldl_nil, Made.val, Act.put, List.setIfInBounds_toArray, List.set_cons_zero, List.set_cons_succ]
        obtain ⟨g0, g1, bw, od⟩ := HGX.out wx (B2.trans (BX.mono B2.size))
        have gr := od.cells
        have HX := Lib.hid (od.final (r := w.heap.size + 1) (lo' := w.heap.size) (by have := Hsz.out; omega) (Nat.le_succ _) g1 bw)
        clear g0 bw od BX B2
        go_upto_region 4 with fail
        refine wp_region_lit ?_
        refine wpList_load_row rfl 31 _ rfl w1.heap.size rfl 31 _ _ _ gr Tryd.underlying31 rfl (by kernel_rfl) ?_
        clear gr
        refine wpList_store_row rfl 31 _ _ rfl (w.heap.size + 1) #[.slice q0 D.hands.length d0, .int .i64 D.leader, .int .i64 D.trump, .slice q3 D.trick.length d3, .slice q4 D.won.length d4, .slice q5 D.points.length d5, .int .i64 D.left] rfl rfl 31 _ g1 (by kernel_rfl) rfl (by simp [Value.oneCell']) ?_
        clear g1
        go_wp2_with fail
        refine bodyPost_ret (results_row_tmp rfl _ _ (w.heap.size + 1) _ _ _ _ rfl HX.out.1 Tryd.underlying31 rfl (by kernel_rfl)) rfl ?_
        rw [HOK.out, HE.out]
        exact ⟨_, rfl, HX.out.2.1, HX.out.2.2⟩
    · obtain ⟨hjD, hte⟩ := turnOf_range (D := D) (by rw [← Htt.out]; omega)
      obtain ⟨j, hj⟩ : ∃ j, j = whoP D := ⟨_, rfl⟩
      rw [← hj] at hjD hte
      obtain rfl : tt = (j : Int) := Htt.out.trans hte
      have htt := Htt.out
      clear Htt
      clear ht0
      obtain ⟨g0, g1, bw, od⟩ := HGX.out w2 B2
      obtain ⟨hr0, h3⟩ := HRd.out w2 bw
      obtain ⟨blk, off, capA, pr, cr, br, hv, hcr, hrr, -⟩ := hr0.row hjD
      have hp := (Value.slice.inj hv).1
      subst hp
      have hsm := Hsum.out j hjD
      obtain ⟨zr, hzr⟩ : ∃ z, z = D.hands[j] := ⟨_, rfl⟩
      have hzd : D.hands.getD (whoP D) [] = zr := by rw [← hj, hzr]; simp [List.getD, hjD]
      rw [← hzr] at hcr hrr hsm
      obtain ⟨bb, hbb⟩ : ∃ b, b = mayPlay zr D.trick c := ⟨_, rfl⟩
      have hokb : playOK D c = bb := by unfold playOK; rw [hd, hzd, ← hbb, decide_eq_true (show 0 ≤ turnOf D by rw [← htt]; omega)]; rfl
      have HM : Hid (∀ wx, Below w2.heap.size w2 wx → Calls Tryd.prog 50 #[.slice pr zr.length cr, .slice p3 D.trick.length c3, .int .i64 c] wx fun e w' => e = .returned (.bool bb) ∧ Below wx.heap.size wx w') := Lib.hid (fun wx hb => by rw [hbb]; exact sMayPlay_any _ zr _ _ D.trick _ c wx (hrr.below hb) (h3.below hb) (by omega) (by have := Hf.out.2.2; omega))
      obtain ⟨n, hn⟩ : ∃ n, n = D.hands.length := ⟨_, rfl⟩
      have HC3 : Hid (∀ wx, Below w2.heap.size w2 wx → wx.cell? ⟨w.heap.size, 0, none⟩ = some (.slice (some ⟨blk, off, none⟩) n c0) ∧ wx.cell? ⟨w.heap.size, 3, none⟩ = some (.slice p3 D.trick.length c3) ∧ wx.cell? ⟨blk, off + j, none⟩ = some (.slice pr zr.length cr)) := Lib.hid (fun wx hb => by
        have G := (hb.block _ (Array.getElem?_eq_some_iff.1 g0).1).trans g0
        rw [hn]
        refine ⟨?_, ?_, (hb.cell (World.block_lt_of_cell? _ _ hcr)).trans hcr⟩
        all_goals (rw [box_cell G]; rfl))
      have hjn : j < n := by rw [hn]; exact hjD
      have HN := Lib.hid (And.intro hn (And.intro hjD (And.intro hj (And.intro hzr (And.intro hzd (And.intro hokb htt))))))
      have Hsm := Lib.hid hsm
      have Hd := Lib.hid hd
      have hj0 : ¬ ((j : Int) < 0) := by omega
      clear g0 g1 bw od hr0 h3 hv hcr hrr hsm hzr hzd hbb hokb hd hj hn htt hte
      refine wp_region_table [(0, some 13, .is (.agg #[.slice (some ⟨blk, off, none⟩) D.hands.length c0, .int .i64 D.leader, .int .i64 D.trump, .slice p3 D.trick.length c3, .slice p4 D.won.length c4, .slice p5 D.points.length c5, .int .i64 D.left])), (1, some 14, .is (.bool true)), (2, some 15, .is (.bool false)), (3, some 16, .is (.bool false)), (4, some 17, .is (.int .i64 (j : Int))), (5, some 18, .is (.bool false)), (6, some 19, .is (.bool false)), (7, some 20, .is (.bool false)), (8, some 21, .is (.pointer (some ⟨w.heap.size, 0, none⟩))), (9, some 22, .is (.slice (some ⟨blk, off, none⟩) n c0)), (10, some 23, .is (.int .i64 (j : Int))), (11, some 24, .is (.pointer (some ⟨blk, off + j, none⟩))), (12, some 25, .is (.slice pr zr.length cr)), (13, some 26, .is (.pointer (some ⟨w.heap.size, 3, none⟩))), (14, some 27, .is (.slice p3 D.trick.length c3)), (15, some 28, .is (.int .i64 c)), (16, some 29, .is (.bool bb)), (17, some 30, .is (.bool (!bb))), (18, some 31, .is (.bool (!bb)))] 0 (by kernel_rfl) (by kernel_rfl) (by kernel_rfl) (by kernel_rfl) (by kernel_rfl) (L := #[true, true, true, true, true, true, true, true, true, true, true, true, true, true, true, true, true, true, true]) (by kernel_rfl) ?steps ?fin
      case steps =>
        refine StepsT.cons [] (by simp only [List.getElem?_toArray, List.getElem?_cons_succ, List.getElem?_cons_zero]; rfl) (by kernel_rfl) (by rfl) (fun wx val iv hB hV K hK => ?_) ?_
        · (obtain ⟨G, -⟩ := HC.out wx hB; clear hV; simp only [putT, List.foldl_cons, List.foldl_nil, Made.val, Act.put, List.setIfInBounds_toArray, List.set_cons_zero, List.set_cons_succ]; rw [if_pos (by rfl)]; exact wp_load_row 31 (.tmp 2) (by rfl) w.heap.size (by rfl) 31 #[.slice (some ⟨blk, off, none⟩) D.hands.length c0, .int .i64 D.leader, .int .i64 D.trump, .slice p3 D.trick.length c3, .slice p4 D.won.length c4, .slice p5 D.points.length c5, .int .i64 D.left] (0, 0) _ G Tryd.underlying31 (by rfl) (by kernel_rfl) (hK.out _ _ rfl (Below.refl _ _)))
        refine StepsT.cons [(0, some 13, .is (.agg #[.slice (some ⟨blk, off, none⟩) D.hands.length c0, .int .i64 D.leader, .int .i64 D.trump, .slice p3 D.trick.length c3, .slice p4 D.won.length c4, .slice p5 D.points.length c5, .int .i64 D.left]))] (by simp only [List.getElem?_toArray, List.getElem?_cons_succ, List.getElem?_cons_zero]; rfl) (by kernel_rfl) (by rfl) (fun wx val iv hB hV K hK => ?_) ?_
        · (have hbw := (HC.out wx hB).2; clear hV; simp only [putT, List.foldl_cons, List.foldl_nil, Made.val, Act.put, List.setIfInBounds_toArray, List.set_cons_zero, List.set_cons_succ]; go_simp; go_at_call 33; refine (HI.out wx hbw).mono ?_; rintro e wa ⟨rfl, Ba⟩; exact hK.out _ _ rfl Ba)
        refine StepsT.cons [(1, some 14, .is (.bool true))] (by simp only [List.getElem?_toArray, List.getElem?_cons_succ, List.getElem?_cons_zero]; rfl) (by kernel_rfl) (by rfl) (fun wx val iv hB hV K hK => ?_) ?_
        · clear hV; simp only [putT, List.foldl_cons, List.foldl_nil, Made.val, Act.put, List.setIfInBounds_toArray, List.set_cons_zero, List.set_cons_succ]; go_simp; exact hK.out _ _ rfl (Below.refl _ _)
        refine StepsT.cons [(1, some 14, .is (.bool true)), (2, some 15, .is (.bool false))] (by simp only [List.getElem?_toArray, List.getElem?_cons_succ, List.getElem?_cons_zero]; rfl) (by kernel_rfl) (by rfl) (fun wx val iv hB hV K hK => ?_) ?_
        · clear hV; simp only [putT, List.foldl_cons, List.foldl_nil, Made.val, Act.put, List.setIfInBounds_toArray, List.set_cons_zero, List.set_cons_succ]; go_simp; exact hK.out _ _ rfl (Below.refl _ _)
        refine StepsT.cons [(3, some 16, .is (.bool false))] (by simp only [List.getElem?_toArray, List.getElem?_cons_succ, List.getElem?_cons_zero]; rfl) (by kernel_rfl) (by rfl) (fun wx val iv hB hV K hK => ?_) ?_
        · clear hV; simp only [putT, List.foldl_cons, List.foldl_nil, Made.val, Act.put, List.setIfInBounds_toArray, List.set_cons_zero, List.set_cons_succ]; go_simp; exact hK.out _ _ rfl (Below.refl _ _)
        refine StepsT.cons [(3, some 16, .is (.bool false)), (4, some 17, .is (.int .i64 (j : Int)))] (by simp only [List.getElem?_toArray, List.getElem?_cons_succ, List.getElem?_cons_zero]; rfl) (by kernel_rfl) (by rfl) (fun wx val iv hB hV K hK => ?_) ?_
        · clear hV; simp only [putT, List.foldl_cons, List.foldl_nil, Made.val, Act.put, List.setIfInBounds_toArray, List.set_cons_zero, List.set_cons_succ]; go_simp; exact hK.out _ _ rfl (Below.refl _ _)
        refine StepsT.cons [(3, some 16, .is (.bool false)), (5, some 18, .is (.bool false))] (by simp only [List.getElem?_toArray, List.getElem?_cons_succ, List.getElem?_cons_zero]; rfl) (by kernel_rfl) (by rfl) (fun wx val iv hB hV K hK => ?_) ?_
        · clear hV; simp only [putT, List.foldl_cons, List.foldl_nil, Made.val, Act.put, List.setIfInBounds_toArray, List.set_cons_zero, List.set_cons_succ]; go_simp; exact hK.out _ _ rfl (Below.refl _ _)
        refine StepsT.cons [(3, some 16, .is (.bool false)), (6, some 19, .is (.bool false))] (by simp only [List.getElem?_toArray, List.getElem?_cons_succ, List.getElem?_cons_zero]; rfl) (by kernel_rfl) (by rfl) (fun wx val iv hB hV K hK => ?_) ?_
        · clear hV; simp only [putT, List.foldl_cons, List.foldl_nil, Made.val, Act.put, List.setIfInBounds_toArray, List.set_cons_zero, List.set_cons_succ]; go_simp; exact hK.out _ _ rfl (Below.refl _ _)
        refine StepsT.cons [(7, some 20, .is (.bool false))] (by simp only [List.getElem?_toArray, List.getElem?_cons_succ, List.getElem?_cons_zero]; rfl) (by kernel_rfl) (by rfl) (fun wx val iv hB hV K hK => ?_) ?_
        · clear hV; simp only [putT, List.foldl_cons, List.foldl_nil, Made.val, Act.put, List.setIfInBounds_toArray, List.set_cons_zero, List.set_cons_succ]; go_simp; exact hK.out _ _ rfl (Below.refl _ _)
        refine StepsT.cons [(7, some 20, .is (.bool false)), (8, some 21, .is (.pointer (some ⟨w.heap.size, 0, none⟩)))] (by simp only [List.getElem?_toArray, List.getElem?_cons_succ, List.getElem?_cons_zero]; rfl) (by kernel_rfl) (by rfl) (fun wx val iv hB hV K hK => ?_) ?_
        · (obtain ⟨k0, k1, k2⟩ := HC3.out wx hB); clear hV; simp only [putT, List.foldl_cons, List.foldl_nil, Made.val, Act.put, List.setIfInBounds_toArray, List.set_cons_zero, List.set_cons_succ]; go_simp; exact hK.out _ _ rfl (Below.refl _ _)
        refine StepsT.cons [(7, some 20, .is (.bool false))] (by simp only [List.getElem?_toArray, List.getElem?_cons_succ, List.getElem?_cons_zero]; rfl) (by kernel_rfl) (by rfl) (fun wx val iv hB hV K hK => ?_) ?_
        · clear hV; simp only [putT, List.foldl_cons, List.foldl_nil, Made.val, Act.put, List.setIfInBounds_toArray, List.set_cons_zero, List.set_cons_succ]; go_simp; exact hK.out _ _ rfl (Below.refl _ _)
        refine StepsT.cons [(7, some 20, .is (.bool false)), (9, some 22, .is (.slice (some ⟨blk, off, none⟩) n c0)), (10, some 23, .is (.int .i64 (j : Int)))] (by simp only [List.getElem?_toArray, List.getElem?_cons_succ, List.getElem?_cons_zero]; rfl) (by kernel_rfl) (by rfl) (fun wx val iv hB hV K hK => ?_) ?_
        · (obtain ⟨k0, k1, k2⟩ := HC3.out wx hB); clear hV; simp only [putT, List.foldl_cons, List.foldl_nil, Made.val, Act.put, List.setIfInBounds_toArray, List.set_cons_zero, List.set_cons_succ]; go_simp; exact hK.out _ _ rfl (Below.refl _ _)
        refine StepsT.cons [(7, some 20, .is (.bool false)), (11, some 24, .is (.pointer (some ⟨blk, off + j, none⟩)))] (by simp only [List.getElem?_toArray, List.getElem?_cons_succ, List.getElem?_cons_zero]; rfl) (by kernel_rfl) (by rfl) (fun wx val iv hB hV K hK => ?_) ?_
        · (obtain ⟨k0, k1, k2⟩ := HC3.out wx hB); clear hV; simp only [putT, List.foldl_cons, List.foldl_nil, Made.val, Act.put, List.setIfInBounds_toArray, List.set_cons_zero, List.set_cons_succ]; go_simp; exact hK.out _ _ rfl (Below.refl _ _)
        refine StepsT.cons [(7, some 20, .is (.bool false))] (by simp only [List.getElem?_toArray, List.getElem?_cons_succ, List.getElem?_cons_zero]; rfl) (by kernel_rfl) (by rfl) (fun wx val iv hB hV K hK => ?_) ?_
        · clear hV; simp only [putT, List.foldl_cons, List.foldl_nil, Made.val, Act.put, List.setIfInBounds_toArray, List.set_cons_zero, List.set_cons_succ]; go_simp; exact hK.out _ _ rfl (Below.refl _ _)
        refine StepsT.cons [(7, some 20, .is (.bool false)), (13, some 26, .is (.pointer (some ⟨w.heap.size, 3, none⟩)))] (by simp only [List.getElem?_toArray, List.getElem?_cons_succ, List.getElem?_cons_zero]; rfl) (by kernel_rfl) (by rfl) (fun wx val iv hB hV K hK => ?_) ?_
        · (obtain ⟨k0, k1, k2⟩ := HC3.out wx hB); clear hV; simp only [putT, List.foldl_cons, List.foldl_nil, Made.val, Act.put, List.setIfInBounds_toArray, List.set_cons_zero, List.set_cons_succ]; go_simp; exact hK.out _ _ rfl (Below.refl _ _)
        refine StepsT.cons [(7, some 20, .is (.bool false))] (by simp only [List.getElem?_toArray, List.getElem?_cons_succ, List.getElem?_cons_zero]; rfl) (by kernel_rfl) (by rfl) (fun wx val iv hB hV K hK => ?_) ?_
        · clear hV; simp only [putT, List.foldl_cons, List.foldl_nil, Made.val, Act.put, List.setIfInBounds_toArray, List.set_cons_zero, List.set_cons_succ]; go_simp; exact hK.out _ _ rfl (Below.refl _ _)
        refine StepsT.cons [(7, some 20, .is (.bool false)), (12, some 25, .is (.slice pr zr.length cr)), (14, some 27, .is (.slice p3 D.trick.length c3)), (15, some 28, .is (.int .i64 c))] (by simp only [List.getElem?_toArray, List.getElem?_cons_succ, List.getElem?_cons_zero]; rfl) (by kernel_rfl) (by rfl) (fun wx val iv hB hV K hK => ?_) ?_
        · (clear hV; simp only [putT, List.foldl_cons, List.foldl_nil, Made.val, Act.put, List.setIfInBounds_toArray, List.set_cons_zero, List.set_cons_succ]; go_simp; go_at_call 50; refine (HM.out wx hB).mono ?_; rintro e wa ⟨rfl, Ba⟩; exact hK.out _ _ rfl Ba)
        refine StepsT.cons [(7, some 20, .is (.bool false)), (16, some 29, .is (.bool bb))] (by simp only [List.getElem?_toArray, List.getElem?_cons_succ, List.getElem?_cons_zero]; rfl) (by kernel_rfl) (by rfl) (fun wx val iv hB hV K hK => ?_) ?_
        · clear hV; simp only [putT, List.foldl_cons, List.foldl_nil, Made.val, Act.put, List.setIfInBounds_toArray, List.set_cons_zero, List.set_cons_succ]; go_simp; exact hK.out _ _ rfl (Below.refl _ _)
        refine StepsT.cons [(7, some 20, .is (.bool false)), (17, some 30, .is (.bool (!bb)))] (by simp only [List.getElem?_toArray, List.getElem?_cons_succ, List.getElem?_cons_zero]; rfl) (by kernel_rfl) (by rfl) (fun wx val iv hB hV K hK => ?_) ?_
        · clear hV; simp only [putT, List.foldl_cons, List.foldl_nil, Made.val, Act.put, List.setIfInBounds_toArray, List.set_cons_zero, List.set_cons_succ]; go_simp; exact hK.out _ _ rfl (Below.refl _ _)
        exact StepsT.nil
      case fin =>
        intro wx val iv BX hV hD
        clear hV hD
        refine wpAny_end (by kernel_rfl) ?_
        simp only [putT, List.foldl_cons, List.foldl_nil, Made.val, Act.put, List.setIfInBounds_toArray, List.set_cons_zero, List.set_cons_succ]
        obtain ⟨w3, hw3⟩ : ∃ W, W = wx := ⟨_, rfl⟩
        rw [← hw3] at BX ⊢
        clear hw3 wx val iv HM HI HC3 HC
        have B3 := B2.trans (BX.mono B2.size)
        cases bb with
        | false =>
          have HOK := Lib.hid HN.out.2.2.2.2.2.1
          have HE := Lib.hid (playD_no HN.out.2.2.2.2.2.1)
          obtain ⟨g0, g1, bw, od⟩ := HGX.out w3 B3
          have gr := od.cells
          have HX := Lib.hid (od.final (r := w.heap.size + 1) (lo' := w.heap.size) (by have := Hsz.out; omega) (Nat.le_succ _) g1 bw)
          clear g0 bw od BX B2 B3 hj0
          go_upto_region 4 with fail
          refine wp_region_lit ?_
          refine wpList_load_row rfl 31 _ rfl w1.heap.size rfl 31 _ _ _ gr Tryd.underlying31 rfl (by kernel_rfl) ?_
          clear gr
          refine wpList_store_row rfl 31 _ _ rfl (w.heap.size + 1) #[.slice q0 D.hands.length d0, .int .i64 D.leader, .int .i64 D.trump, .slice q3 D.trick.length d3, .slice q4 D.won.length d4, .slice q5 D.points.length d5, .int .i64 D.left] rfl rfl 31 _ g1 (by kernel_rfl) rfl (by simp [Value.oneCell']) ?_
          clear g1
          go_wp2_with fail
          refine bodyPost_ret (results_row_tmp rfl _ _ (w.heap.size + 1) _ _ _ _ rfl HX.out.1 Tryd.underlying31 rfl (by kernel_rfl)) rfl ?_
          rw [HOK.out, HE.out]
          exact ⟨_, rfl, HX.out.2.1, HX.out.2.2⟩
        | true =>
          obtain ⟨hn, hjD, hj, hzr, hzd, hok, htt⟩ := HN.out
          have HOK := Lib.hid hok
          obtain ⟨g0, g1, bw, od⟩ := HGX.out w3 B3
          obtain ⟨g, r0, eq0, hxc, hxf, hgl, hgs, hgo, bz, hrz⟩ := od.hand hjD
          subst eq0
          rw [← hzr] at hrz
          have gr := od.cells
          have hzl := Hsum.out j hjD
          rw [← hzr] at hzl
          have HWi := Lib.hid (fun wx (hb : Below w3.heap.size w3 wx) => sWithout_own _ zr bz c wx (hrz.below hb) (by omega))
          have HC5 : Hid (∀ wx, Below w3.heap.size w3 wx → wx.cell? ⟨w1.heap.size, 0, none⟩ = some (.slice (some ⟨g, 0, none⟩) n d0) ∧ wx.cell? ⟨g, j, none⟩ = some r0) := Lib.hid (fun wx hb => by
            refine ⟨?_, (hb.cell (World.block_lt_of_cell? _ _ hxc)).trans hxc⟩
            rw [(hb.cell (p := ⟨w1.heap.size, 0, none⟩) (Array.getElem?_eq_some_iff.1 gr).1), box_cell gr, hn]; rfl)
          have HF5 := Lib.hid (And.intro g0 (And.intro g1 (And.intro bw (And.intro od (And.intro hxc hgl)))))
          have Hhx : Hid (∀ wx, Below w3.heap.size w3 wx → wx.frozen? ⟨g, j, none⟩ = false) := Lib.hid (fun wx hb => by
            obtain ⟨g', r', e', -, hf', -⟩ := (od.below hb).hand hjD
            obtain rfl : g = g' := by simpa using e'
            exact hf')
          clear g0 g1 bw od hxc hxf hgl hgs hgo hrz gr hzl hn hj hzr hzd hok htt BX B2 B3 hj0
          go_upto_region 5 with fail
          refine wp_region_table [(0, some 33, .is (.pointer (some ⟨w1.heap.size, 0, none⟩))), (1, some 34, .is (.slice (some ⟨g, 0, none⟩) n d0)), (2, some 35, .is (.int .i64 (j : Int))), (3, some 36, .is (.pointer (some ⟨w1.heap.size, 0, none⟩))), (4, some 37, .is (.slice (some ⟨g, 0, none⟩) n d0)), (5, some 38, .is (.int .i64 (j : Int))), (6, some 39, .is (.pointer (some ⟨g, j, none⟩))), (7, some 40, .is (r0)), (8, some 41, .is (.int .i64 c)), (9, some 42, .ints (without zr c))] 2 (by kernel_rfl) (by kernel_rfl) (by kernel_rfl) (by kernel_rfl) (by kernel_rfl) (L := #[true, true, true, true, true, true, true, true, true, true, false, false]) (by kernel_rfl) ?steps ?fin
          case steps =>
            refine StepsT.cons [] (by simp only [List.getElem?_toArray, List.getElem?_cons_succ, List.getElem?_cons_zero]; rfl) (by kernel_rfl) (by rfl) (fun wx val iv hB hV K hK => ?_) ?_
            · clear hV; simp only [putT, List.foldl_cons, List.foldl_nil, Made.val, Act.put, List.setIfInBounds_toArray, List.set_cons_zero, List.set_cons_succ]; go_simp; exact hK.out _ _ rfl (Below.refl _ _)
            refine StepsT.cons [(0, some 33, .is (.pointer (some ⟨w1.heap.size, 0, none⟩)))] (by simp only [List.getElem?_toArray, List.getElem?_cons_succ, List.getElem?_cons_zero]; rfl) (by kernel_rfl) (by rfl) (fun wx val iv hB hV K hK => ?_) ?_
            · (obtain ⟨k0, k1⟩ := HC5.out wx hB); clear hV; simp only [putT, List.foldl_cons, List.foldl_nil, Made.val, Act.put, List.setIfInBounds_toArray, List.set_cons_zero, List.set_cons_succ]; go_simp; exact hK.out _ _ rfl (Below.refl _ _)
            refine StepsT.cons [] (by simp only [List.getElem?_toArray, List.getElem?_cons_succ, List.getElem?_cons_zero]; rfl) (by kernel_rfl) (by rfl) (fun wx val iv hB hV K hK => ?_) ?_
            · clear hV; simp only [putT, List.foldl_cons, List.foldl_nil, Made.val, Act.put, List.setIfInBounds_toArray, List.set_cons_zero, List.set_cons_succ]; go_simp; exact hK.out _ _ rfl (Below.refl _ _)
            refine StepsT.cons [] (by simp only [List.getElem?_toArray, List.getElem?_cons_succ, List.getElem?_cons_zero]; rfl) (by kernel_rfl) (by rfl) (fun wx val iv hB hV K hK => ?_) ?_
            · clear hV; simp only [putT, List.foldl_cons, List.foldl_nil, Made.val, Act.put, List.setIfInBounds_toArray, List.set_cons_zero, List.set_cons_succ]; go_simp; exact hK.out _ _ rfl (Below.refl _ _)
            refine StepsT.cons [(3, some 36, .is (.pointer (some ⟨w1.heap.size, 0, none⟩)))] (by simp only [List.getElem?_toArray, List.getElem?_cons_succ, List.getElem?_cons_zero]; rfl) (by kernel_rfl) (by rfl) (fun wx val iv hB hV K hK => ?_) ?_
            · (obtain ⟨k0, k1⟩ := HC5.out wx hB); clear hV; simp only [putT, List.foldl_cons, List.foldl_nil, Made.val, Act.put, List.setIfInBounds_toArray, List.set_cons_zero, List.set_cons_succ]; go_simp; exact hK.out _ _ rfl (Below.refl _ _)
            refine StepsT.cons [] (by simp only [List.getElem?_toArray, List.getElem?_cons_succ, List.getElem?_cons_zero]; rfl) (by kernel_rfl) (by rfl) (fun wx val iv hB hV K hK => ?_) ?_
            · clear hV; simp only [putT, List.foldl_cons, List.foldl_nil, Made.val, Act.put, List.setIfInBounds_toArray, List.set_cons_zero, List.set_cons_succ]; go_simp; exact hK.out _ _ rfl (Below.refl _ _)
            refine StepsT.cons [(4, some 37, .is (.slice (some ⟨g, 0, none⟩) n d0)), (5, some 38, .is (.int .i64 (j : Int)))] (by simp only [List.getElem?_toArray, List.getElem?_cons_succ, List.getElem?_cons_zero]; rfl) (by kernel_rfl) (by rfl) (fun wx val iv hB hV K hK => ?_) ?_
            · (obtain ⟨k0, k1⟩ := HC5.out wx hB); clear hV; simp only [putT, List.foldl_cons, List.foldl_nil, Made.val, Act.put, List.setIfInBounds_toArray, List.set_cons_zero, List.set_cons_succ]; go_simp; exact hK.out _ _ rfl (Below.refl _ _)
            refine StepsT.cons [(6, some 39, .is (.pointer (some ⟨g, j, none⟩)))] (by simp only [List.getElem?_toArray, List.getElem?_cons_succ, List.getElem?_cons_zero]; rfl) (by kernel_rfl) (by rfl) (fun wx val iv hB hV K hK => ?_) ?_
            · (obtain ⟨k0, k1⟩ := HC5.out wx hB); clear hV; simp only [putT, List.foldl_cons, List.foldl_nil, Made.val, Act.put, List.setIfInBounds_toArray, List.set_cons_zero, List.set_cons_succ]; go_simp; exact hK.out _ _ rfl (Below.refl _ _)
            refine StepsT.cons [] (by simp only [List.getElem?_toArray, List.getElem?_cons_succ, List.getElem?_cons_zero]; rfl) (by kernel_rfl) (by rfl) (fun wx val iv hB hV K hK => ?_) ?_
            · clear hV; simp only [putT, List.foldl_cons, List.foldl_nil, Made.val, Act.put, List.setIfInBounds_toArray, List.set_cons_zero, List.set_cons_succ]; go_simp; exact hK.out _ _ rfl (Below.refl _ _)
            refine StepsT.cons [(7, some 40, .is (r0)), (8, some 41, .is (.int .i64 c))] (by simp only [List.getElem?_toArray, List.getElem?_cons_succ, List.getElem?_cons_zero]; rfl) (by kernel_rfl) (by rfl) (fun wx val iv hB hV K hK => ?_) ?_
            · (clear hV; simp only [putT, List.foldl_cons, List.foldl_nil, Made.val, Act.put, List.setIfInBounds_toArray, List.set_cons_zero, List.set_cons_succ]; go_simp; go_at_call 51; refine (HWi.out wx hB).mono ?_; rintro e wa ⟨va, rfl, hwa, Ba⟩; exact hK.out _ _ hwa Ba)
            exact StepsT.nil
          case fin =>
            intro wx val iv BX hV hD
            obtain ⟨hv9, l9, u9⟩ := hV (9, some 42, .ints (without zr c)) (by simp)
            obtain ⟨p9, c9, e9⟩ := OwnI.shape hv9
            dsimp only [Made.means] at hv9
            dsimp only at l9 u9
            (try dsimp only at e9)
            rw [e9] at hv9
            obtain ⟨g0, g1, bw, od, hxc, hgl⟩ := HF5.out
            obtain ⟨hn, hjD, hj, hzr, hzd, hok, htt⟩ := HN.out
            obtain ⟨k0, k1⟩ := HC5.out wx BX
            have hxf := Hhx.out wx BX
            have od5 := od.putHand hjD rfl hxc BX (hv9.mono (fun b hb _ => ⟨by have := hb.1; omega, by have := hb.2; omega⟩))
            obtain ⟨X5, hX5⟩ : ∃ W, W = wx.setCell ⟨g, j, none⟩ (.slice p9 (without zr c).length c9) := ⟨_, rfl⟩
            rw [← hX5, ← hn] at od5
            have hl3 := (Array.getElem?_eq_some_iff.1 g0).1
            have g05 : X5.heap[w.heap.size]? = some (.cells #[.slice (some ⟨blk, off, none⟩) D.hands.length c0, .int .i64 D.leader, .int .i64 D.trump, .slice p3 D.trick.length c3, .slice p4 D.won.length c4, .slice p5 D.points.length c5, .int .i64 D.left] 31 (0, 0)) := by rw [hX5, Below.heap_setCell _ _ _ _ (show w.heap.size ≠ g by have := Hsz.out; omega), BX.block _ hl3]; exact g0
            have g15 : X5.heap[w.heap.size + 1]? = some (.cells #[.slice none 0 0, .int .i64 0, .int .i64 0, .slice none 0 0, .slice none 0 0, .slice none 0 0, .int .i64 0] 31 (0, 0)) := by rw [hX5, Below.heap_setCell _ _ _ _ (show w.heap.size + 1 ≠ g by have := Hsz.out; omega), BX.block _ (Array.getElem?_eq_some_iff.1 g1).1]; exact g1
            have bw5 : Below w.heap.size w X5 := by rw [hX5]; exact (bw.trans (BX.mono bw.size)).setCell (show w.heap.size ≤ g by have := Hsz.out; omega) _
            have HX5 := Lib.hid hX5
            have HF6 := Lib.hid (And.intro od5 (And.intro g05 (And.intro g15 bw5)))
            clear hV hD hv9 l9 u9 g0 g1 bw od hxc hgl hn hjD hj hzr hzd hok htt od5 g05 g15 bw5 hX5 hl3 BX
            simp only [putT, List.foldl_cons, List.foldl_nil, Made.val, Act.put, List.setIfInBounds_toArray, List.set_cons_zero, List.set_cons_succ]
            rw [e9]
            clear e9
            refine wpAny_one (i := 10) (by kernel_rfl) (by simp only [List.getElem?_toArray, List.getElem?_cons_succ, List.getElem?_cons_zero]; rfl) (fun K hK => ?_)
            go_simp
            refine hK.out _ _ ?_
            clear hK K
            refine wpAny_one (i := 11) (by kernel_rfl) (by simp only [List.getElem?_toArray, List.getElem?_cons_succ, List.getElem?_cons_zero]; rfl) (fun K hK => ?_)
            go_simp
            refine hK.out _ _ ?_
            clear hK K
            clear k0 k1 hxf
            refine wpAny_end (by kernel_rfl) ?_
            rw [← HX5.out]
            clear HX5 HWi HC5 HF5 Hhx
            obtain ⟨od5, g0, g1, bw⟩ := HF6.out
            obtain ⟨hn, hjD, hj, hzr, hzd, hok, htt⟩ := HN.out
            -- the trick
            have hA : Below X5.heap.size X5 (X5.alloc (.cells #[.int .i64 c] 3)) := (Below.refl _ _).alloc (Nat.le_refl _) _
            obtain ⟨v6, w6, run6, own6, gr6⟩ := (od5.below hA).trickI.append (ys := [c]) ⟨X5.heap.size, 0, none⟩ 1 (by simp) (fun i hi => by
              have hi0 : i = 0 := (by simpa using hi)
              subst hi0
              have := cell_one_new X5 (.int .i64 c) 3 0 (.int .i64 c) rfl
              simpa using this) (by simpa using Hwc.out) (by have := Hf.out.2.2; simp; omega) 23
            obtain ⟨q3', d3', e6⟩ := own6.shape
            have em6 : ({ D with hands := D.hands.set j (without zr c) } : MDeal).trick = D.trick := rfl
            rw [List.length_append, List.length_singleton, em6] at e6
            subst e6
            have od6 := (od5.below hA).addTrick gr6 own6
            obtain ⟨X6, hX6⟩ : ∃ W, W = w6.setCell ⟨w1.heap.size, 3, none⟩ (.slice q3' (D.trick.length + 1) d3') := ⟨_, rfl⟩
            rw [← hX6] at od6
            have hl5 := od5.lens
            have held6 : ∀ b, (Value.slice q3 D.trick.length d3).held = some b → W0.heap.size ≤ b ∧ b ≠ w1.heap.size := fun b hb => ⟨((od5.below hA).trickI.held hb).1.1, ((od5.below hA).trickI.held hb).1.2.2⟩
            have hsA := hA.size
            have B6 : Below W0.heap.size X5 X6 := by rw [hX6]; exact ((hA.mono (by omega)).grown gr6 (by omega) (fun b hb => (held6 b hb).1)).setCell hl5.1 _
            have O6 : w6.heap[w1.heap.size]? = _ := (gr6.block w1.heap.size (Nat.lt_of_lt_of_le hl5.2.1 hsA) (fun e => (held6 _ e.symm).2 rfl)).trans (od5.below hA).cells
            have j3 := box_cell od5.cells 3
            have z3 := box_cell O6 3
            have y3 := box_free O6 3
            simp at j3 z3
            have szl := Hsz.out
            have g06 : X6.heap[w.heap.size]? = some (.cells #[.slice (some ⟨blk, off, none⟩) D.hands.length c0, .int .i64 D.leader, .int .i64 D.trump, .slice p3 D.trick.length c3, .slice p4 D.won.length c4, .slice p5 D.points.length c5, .int .i64 D.left] 31 (0, 0)) := (B6.block _ (by omega)).trans g0
            have g16 : X6.heap[w.heap.size + 1]? = some (.cells #[.slice none 0 0, .int .i64 0, .int .i64 0, .slice none 0 0, .slice none 0 0, .slice none 0 0, .int .i64 0] 31 (0, 0)) := (B6.block _ (by omega)).trans g1
            have bw6 : Below w.heap.size w X6 := bw.trans (B6.mono (by omega))
            have hlp : { ({ D with hands := D.hands.set j (without zr c) } : MDeal) with trick := D.trick ++ [c] } = laidP D c := by unfold laidP; rw [hzd, ← hj]
            rw [hlp] at od6
            have HX6 := Lib.hid hX6
            have Q := Lib.hid run6
            have HF7 := Lib.hid (And.intro od6 (And.intro g06 (And.intro g16 bw6)))
            clear od5 g0 g1 bw hn hjD hj hzr hzd hok htt hA run6 own6 gr6 od6 hX6 hl5 held6 hsA B6 O6 szl g06 g16 bw6 hlp em6
            go_upto_region 7 with (at_builtin; refine Lib.wpList_append_run _ rfl _ _ _ _ rfl _ _ rfl rfl _ _ Q.out ?_)
            rw [← HX6.out]
            clear j3 z3 y3 HX6 Q HF6
            obtain ⟨od6, g0, g1, bw⟩ := HF7.out
            obtain ⟨hn, hjD, hj, hzr, hzd, hok, htt⟩ := HN.out
            have G6 := od6.cells
            have z0 := box_cell G6 0
            have z3 := box_cell G6 3
            simp at z0 z3
            by_cases hfull : D.trick.length + 1 = n
            · have hfl : (laidP D c).trick.length = D.hands.length := by show (D.trick ++ [c]).length = _; rw [List.length_append, List.length_singleton, hfull, hn]
              have HE := Lib.hid (playD_end hok hfl)
              obtain ⟨k, hk, hkn, hwl, hwn, l0, l1, hn8, e4, e5⟩ := winP_facts hok hfl
              have hq : (((D.trick.length + 1 : Nat) : Int) == (n : Int)) = true := by simp; omega
              have hq2 : (((D.trick.length : Nat) : Int) + 1 == (n : Int)) = true := by simp; omega
              obtain ⟨wn, hwe⟩ : ∃ x, x = winP (laidP D c) := ⟨_, rfl⟩
              rw [← hwe] at hwl hwn
              obtain ⟨-, ⟨b3, h3⟩, -, -⟩ := od6.rd
              have l6 := od6.lens
              have HC8 : Hid (∀ wx, Below X6.heap.size X6 wx → (wx.cell? ⟨w.heap.size, 1, none⟩ = some (.int .i64 D.leader) ∧ wx.cell? ⟨w.heap.size, 2, none⟩ = some (.int .i64 D.trump)) ∧ wx.cell? ⟨w1.heap.size, 0, none⟩ = some (.slice (some ⟨g, 0, none⟩) n d0) ∧ wx.cell? ⟨w1.heap.size, 3, none⟩ = some (.slice q3' (D.trick.length + 1) d3')) := Lib.hid (fun wx hb => by
                have Ga := (hb.block _ (Array.getElem?_eq_some_iff.1 g0).1).trans g0
                have Gb := (hb.block _ l6.2.1).trans G6
                refine ⟨⟨?_, ?_⟩, ?_, ?_⟩
                · rw [box_cell Ga]; rfl
                · rw [box_cell Ga]; rfl
                · rw [box_cell Gb]; rfl
                · rw [box_cell Gb]; rfl)
              have HWn : Hid (∀ wx, Below X6.heap.size X6 wx → Calls Tryd.prog 52 #[.slice q3' (D.trick.length + 1) d3', .int .i64 D.trump] wx fun e w' => e = .returned (.int .i64 k) ∧ Below wx.heap.size wx w') := Lib.hid (fun wx hb => by have := sWinnerOf_any _ (D.trick ++ [c]) b3 D.trump wx (h3.below hb) (by have := Hf.out.2.2; simp; omega); rw [hk] at this; exact this)
              have HP : Hid (∀ wx, Below W0.heap.size X6 wx → ∀ q d (bt : Nat), RdAt .i64 wx (.slice q (D.trick.length + 1) d) (D.trick ++ [c]) bt → Calls Tryd.prog 53 #[.slice q (D.trick.length + 1) d] wx fun e w' => e = .returned (.int .i64 (pts (D.trick ++ [c]))) ∧ Below wx.heap.size wx w') := Lib.hid (fun wx hb q d bt hr => (sPoints_any _ (D.trick ++ [c]) bt wx hr (by have := Hf.out.2.2; simp; omega)).mono (fun e w' ⟨h1, h2⟩ => ⟨h1, h2 ▸ Below.refl _ _⟩))
              have hwr : IntKind.i64.wrap (D.leader + (k : Int)) = D.leader + (k : Int) := by rw [IntKind.wrap_i64]; omega
              rw [← hn] at hwn
              have htm : Int.tmod (D.leader + (k : Int)) (n : Int) = (wn : Int) := by rw [Int.tmod_eq_emod_of_nonneg (by omega)]; exact hwn
              have hn0 : ((n : Nat) : Int) ≠ 0 := by omega
              have hn0n : n ≠ 0 := by omega
              have hn0b : (((n : Nat) : Int) == 0) = false := by simp; omega
              have hlo6 : W0.heap.size ≤ X6.heap.size := by omega
              have HL := Lib.hid (And.intro hlo6 (And.intro l6 (And.intro (show D.won.length = n by omega) (And.intro (show D.points.length = n by omega) (And.intro hwe.symm (And.intro (show wn < n by omega) (show n ≤ 4 by omega)))))))
              have HO6 := Lib.hid (And.intro od6 (And.intro g1 bw))
              have hwn0 : (0 : Int) ≤ (wn : Int) := by omega
              clear od6 g0 g1 bw G6 hn hj hzr hzd hok htt hfl hfull hk hkn hwl hwn l0 l1 hn8 e4 e5 hwe h3 l6 hlo6
              go_upto_region 8 with fail
              clear z0 z3 hq hq2
              refine wp_region_table [(0, some 57, .is (.pointer (some ⟨w.heap.size, 1, none⟩))), (1, some 58, .is (.int .i64 D.leader)), (2, some 59, .is (.pointer (some ⟨w1.heap.size, 3, none⟩))), (3, some 60, .is (.slice q3' (D.trick.length + 1) d3')), (4, some 61, .is (.pointer (some ⟨w.heap.size, 2, none⟩))), (5, some 62, .is (.int .i64 D.trump)), (6, some 63, .is (.int .i64 (k : Int))), (7, some 64, .is (.int .i64 (D.leader + (k : Int)))), (8, some 65, .is (.pointer (some ⟨w1.heap.size, 0, none⟩))), (9, some 66, .is (.slice (some ⟨g, 0, none⟩) n d0)), (10, some 67, .is (.int .i64 n)), (11, some 68, .is (.int .i64 (wn : Int)))] 1 (by kernel_rfl) (by kernel_rfl) (by kernel_rfl) (by kernel_rfl) (by kernel_rfl) (L := #[true, true, true, true, true, true, true, true, true, true, true, true, false]) (by kernel_rfl) ?steps ?fin
              case steps =>
                refine StepsT.cons [] (by simp only [List.getElem?_toArray, List.getElem?_cons_succ, List.getElem?_cons_zero]; rfl) (by kernel_rfl) (by rfl) (fun wx val iv hB hV K hK => ?_) ?_
                · clear hV; simp only [putT, List.foldl_cons, List.foldl_nil, Made.val, Act.put, List.setIfInBounds_toArray, List.set_cons_zero, List.set_cons_succ]; go_simp; exact hK.out _ _ rfl (Below.refl _ _)
                refine StepsT.cons [(0, some 57, .is (.pointer (some ⟨w.heap.size, 1, none⟩)))] (by simp only [List.getElem?_toArray, List.getElem?_cons_succ, List.getElem?_cons_zero]; rfl) (by kernel_rfl) (by rfl) (fun wx val iv hB hV K hK => ?_) ?_
                · (obtain ⟨⟨k0, k1⟩, k2, k3⟩ := HC8.out wx hB); clear hV; simp only [putT, List.foldl_cons, List.foldl_nil, Made.val, Act.put, List.setIfInBounds_toArray, List.set_cons_zero, List.set_cons_succ]; go_simp; exact hK.out _ _ rfl (Below.refl _ _)
                refine StepsT.cons [] (by simp only [List.getElem?_toArray, List.getElem?_cons_succ, List.getElem?_cons_zero]; rfl) (by kernel_rfl) (by rfl) (fun wx val iv hB hV K hK => ?_) ?_
                · clear hV; simp only [putT, List.foldl_cons, List.foldl_nil, Made.val, Act.put, List.setIfInBounds_toArray, List.set_cons_zero, List.set_cons_succ]; go_simp; exact hK.out _ _ rfl (Below.refl _ _)
                refine StepsT.cons [(2, some 59, .is (.pointer (some ⟨w1.heap.size, 3, none⟩)))] (by simp only [List.getElem?_toArray, List.getElem?_cons_succ, List.getElem?_cons_zero]; rfl) (by kernel_rfl) (by rfl) (fun wx val iv hB hV K hK => ?_) ?_
                · (obtain ⟨⟨k0, k1⟩, k2, k3⟩ := HC8.out wx hB); clear hV; simp only [putT, List.foldl_cons, List.foldl_nil, Made.val, Act.put, List.setIfInBounds_toArray, List.set_cons_zero, List.set_cons_succ]; go_simp; exact hK.out _ _ rfl (Below.refl _ _)
                refine StepsT.cons [] (by simp only [List.getElem?_toArray, List.getElem?_cons_succ, List.getElem?_cons_zero]; rfl) (by kernel_rfl) (by rfl) (fun wx val iv hB hV K hK => ?_) ?_
                · clear hV; simp only [putT, List.foldl_cons, List.foldl_nil, Made.val, Act.put, List.setIfInBounds_toArray, List.set_cons_zero, List.set_cons_succ]; go_simp; exact hK.out _ _ rfl (Below.refl _ _)
                refine StepsT.cons [(4, some 61, .is (.pointer (some ⟨w.heap.size, 2, none⟩)))] (by simp only [List.getElem?_toArray, List.getElem?_cons_succ, List.getElem?_cons_zero]; rfl) (by kernel_rfl) (by rfl) (fun wx val iv hB hV K hK => ?_) ?_
                · (obtain ⟨⟨k0, k1⟩, k2, k3⟩ := HC8.out wx hB); clear hV; simp only [putT, List.foldl_cons, List.foldl_nil, Made.val, Act.put, List.setIfInBounds_toArray, List.set_cons_zero, List.set_cons_succ]; go_simp; exact hK.out _ _ rfl (Below.refl _ _)
                refine StepsT.cons [(3, some 60, .is (.slice q3' (D.trick.length + 1) d3')), (5, some 62, .is (.int .i64 D.trump))] (by simp only [List.getElem?_toArray, List.getElem?_cons_succ, List.getElem?_cons_zero]; rfl) (by kernel_rfl) (by rfl) (fun wx val iv hB hV K hK => ?_) ?_
                · (clear hV; simp only [putT, List.foldl_cons, List.foldl_nil, Made.val, Act.put, List.setIfInBounds_toArray, List.set_cons_zero, List.set_cons_succ]; go_simp; go_at_call 52; refine (HWn.out wx hB).mono ?_; rintro e wa ⟨rfl, Ba⟩; exact hK.out _ _ rfl Ba)
                refine StepsT.cons [(1, some 58, .is (.int .i64 D.leader)), (6, some 63, .is (.int .i64 (k : Int)))] (by simp only [List.getElem?_toArray, List.getElem?_cons_succ, List.getElem?_cons_zero]; rfl) (by kernel_rfl) (by rfl) (fun wx val iv hB hV K hK => ?_) ?_
                · clear hV; simp only [putT, List.foldl_cons, List.foldl_nil, Made.val, Act.put, List.setIfInBounds_toArray, List.set_cons_zero, List.set_cons_succ]; go_simp; exact hK.out _ _ rfl (Below.refl _ _)
                refine StepsT.cons [] (by simp only [List.getElem?_toArray, List.getElem?_cons_succ, List.getElem?_cons_zero]; rfl) (by kernel_rfl) (by rfl) (fun wx val iv hB hV K hK => ?_) ?_
                · clear hV; simp only [putT, List.foldl_cons, List.foldl_nil, Made.val, Act.put, List.setIfInBounds_toArray, List.set_cons_zero, List.set_cons_succ]; go_simp; exact hK.out _ _ rfl (Below.refl _ _)
                refine StepsT.cons [(8, some 65, .is (.pointer (some ⟨w1.heap.size, 0, none⟩)))] (by simp only [List.getElem?_toArray, List.getElem?_cons_succ, List.getElem?_cons_zero]; rfl) (by kernel_rfl) (by rfl) (fun wx val iv hB hV K hK => ?_) ?_
                · (obtain ⟨⟨k0, k1⟩, k2, k3⟩ := HC8.out wx hB); clear hV; simp only [putT, List.foldl_cons, List.foldl_nil, Made.val, Act.put, List.setIfInBounds_toArray, List.set_cons_zero, List.set_cons_succ]; go_simp; exact hK.out _ _ rfl (Below.refl _ _)
                refine StepsT.cons [(9, some 66, .is (.slice (some ⟨g, 0, none⟩) n d0))] (by simp only [List.getElem?_toArray, List.getElem?_cons_succ, List.getElem?_cons_zero]; rfl) (by kernel_rfl) (by rfl) (fun wx val iv hB hV K hK => ?_) ?_
                · clear hV; simp only [putT, List.foldl_cons, List.foldl_nil, Made.val, Act.put, List.setIfInBounds_toArray, List.set_cons_zero, List.set_cons_succ]; go_simp; exact hK.out _ _ rfl (Below.refl _ _)
                refine StepsT.cons [(7, some 64, .is (.int .i64 (D.leader + (k : Int)))), (10, some 67, .is (.int .i64 n))] (by simp only [List.getElem?_toArray, List.getElem?_cons_succ, List.getElem?_cons_zero]; rfl) (by kernel_rfl) (by rfl) (fun wx val iv hB hV K hK => ?_) ?_
                · clear hV; simp only [putT, List.foldl_cons, List.foldl_nil, Made.val, Act.put, List.setIfInBounds_toArray, List.set_cons_zero, List.set_cons_succ]; go_simp; exact hK.out _ _ rfl (Below.refl _ _)
                exact StepsT.nil
              case fin =>
                intro wx val iv BX hV hD
                clear hV hD htm hn0 hn0n hn0b hwr HC8 HWn
                simp only [putT, List.foldl_cons, List.foldl_nil, Made.val, Act.put, List.setIfInBounds_toArray, List.set_cons_zero, List.set_cons_succ]
                refine wpAny_one (i := 12) (by kernel_rfl) (by simp only [List.getElem?_toArray, List.getElem?_cons_succ, List.getElem?_cons_zero]; rfl) (fun K hK => ?_)
                go_simp
                refine hK.out _ _ ?_
                clear hK K
                refine wpAny_end (by kernel_rfl) ?_
                have od := HO6.out.1.below BX
                obtain ⟨hlo, l, e4, e5, hwe, hwl, hn8⟩ := HL.out
                have Bl : Below W0.heap.size X6 wx := BX.mono hlo
                have hiw : wn < (laidP D c).won.length := by show wn < D.won.length; omega
                obtain ⟨b, off, eq4, hc, hf, hbl, hbs, od1⟩ := od.setWon hiw (x := IntKind.i64.wrap ((laidP D c).won[wn] + 1)) (wf_wrap _ _)
                subst eq4
                have G := od.cells
                obtain ⟨x, hx⟩ : ∃ x, x = (laidP D c).won[wn] := ⟨_, rfl⟩
                rw [← hx] at hc
                have HC9 : Hid (∀ wy, Below wx.heap.size wx wy → wy.cell? ⟨w1.heap.size, 4, none⟩ = some (.slice (some ⟨b, off, none⟩) D.won.length d4) ∧ wy.cell? ⟨b, off + wn, none⟩ = some (.int .i64 x)) := Lib.hid (fun wy hb => by
                  have Gb := (hb.block _ (Array.getElem?_eq_some_iff.1 G).1).trans G
                  refine ⟨?_, (hb.cell (World.block_lt_of_cell? _ _ hc)).trans hc⟩
                  rw [box_cell Gb]; rfl)
                have Hod9 := Lib.hid (And.intro od Bl)
                have Hx := Lib.hid hx
                have hw4 : wn < D.won.length := by omega
                have hw5 : wn < D.points.length := by omega
                clear od od1 G hx hc hf hbl hbs Bl hlo l e4 e5 hwe hwl hn8 BX
                clear val iv
                go_upto_region 9 with fail
                refine wp_region_table [(0, some 69, .is (.pointer (some ⟨w1.heap.size, 4, none⟩))), (1, some 70, .is (.slice (some ⟨b, off, none⟩) D.won.length d4)), (2, some 71, .is (.int .i64 (wn : Int))), (3, some 72, .is (.pointer (some ⟨w1.heap.size, 4, none⟩))), (4, some 73, .is (.slice (some ⟨b, off, none⟩) D.won.length d4)), (5, some 74, .is (.int .i64 (wn : Int))), (6, some 75, .is (.pointer (some ⟨b, off + wn, none⟩))), (7, some 76, .is (.int .i64 x)), (8, some 77, .is (.int .i64 (IntKind.i64.wrap (x + 1))))] 2 (by kernel_rfl) (by kernel_rfl) (by kernel_rfl) (by kernel_rfl) (by kernel_rfl) (L := #[true, true, true, true, true, true, true, true, true, false, false]) (by kernel_rfl) ?steps ?fin
                case steps =>
                  refine StepsT.cons [] (by simp only [List.getElem?_toArray, List.getElem?_cons_succ, List.getElem?_cons_zero]; rfl) (by kernel_rfl) (by rfl) (fun wx val iv hB hV K hK => ?_) ?_
                  · clear hV; simp only [putT, List.foldl_cons, List.foldl_nil, Made.val, Act.put, List.setIfInBounds_toArray, List.set_cons_zero, List.set_cons_succ]; go_simp; exact hK.out _ _ rfl (Below.refl _ _)
                  refine StepsT.cons [(0, some 69, .is (.pointer (some ⟨w1.heap.size, 4, none⟩)))] (by simp only [List.getElem?_toArray, List.getElem?_cons_succ, List.getElem?_cons_zero]; rfl) (by kernel_rfl) (by rfl) (fun wx val iv hB hV K hK => ?_) ?_
                  · (obtain ⟨k0, k1⟩ := HC9.out wx hB); clear hV; simp only [putT, List.foldl_cons, List.foldl_nil, Made.val, Act.put, List.setIfInBounds_toArray, List.set_cons_zero, List.set_cons_succ]; go_simp; exact hK.out _ _ rfl (Below.refl _ _)
                  refine StepsT.cons [] (by simp only [List.getElem?_toArray, List.getElem?_cons_succ, List.getElem?_cons_zero]; rfl) (by kernel_rfl) (by rfl) (fun wx val iv hB hV K hK => ?_) ?_
                  · clear hV; simp only [putT, List.foldl_cons, List.foldl_nil, Made.val, Act.put, List.setIfInBounds_toArray, List.set_cons_zero, List.set_cons_succ]; go_simp; exact hK.out _ _ rfl (Below.refl _ _)
                  refine StepsT.cons [] (by simp only [List.getElem?_toArray, List.getElem?_cons_succ, List.getElem?_cons_zero]; rfl) (by kernel_rfl) (by rfl) (fun wx val iv hB hV K hK => ?_) ?_
                  · clear hV; simp only [putT, List.foldl_cons, List.foldl_nil, Made.val, Act.put, List.setIfInBounds_toArray, List.set_cons_zero, List.set_cons_succ]; go_simp; exact hK.out _ _ rfl (Below.refl _ _)
                  refine StepsT.cons [(3, some 72, .is (.pointer (some ⟨w1.heap.size, 4, none⟩)))] (by simp only [List.getElem?_toArray, List.getElem?_cons_succ, List.getElem?_cons_zero]; rfl) (by kernel_rfl) (by rfl) (fun wx val iv hB hV K hK => ?_) ?_
                  · (obtain ⟨k0, k1⟩ := HC9.out wx hB); clear hV; simp only [putT, List.foldl_cons, List.foldl_nil, Made.val, Act.put, List.setIfInBounds_toArray, List.set_cons_zero, List.set_cons_succ]; go_simp; exact hK.out _ _ rfl (Below.refl _ _)
                  refine StepsT.cons [] (by simp only [List.getElem?_toArray, List.getElem?_cons_succ, List.getElem?_cons_zero]; rfl) (by kernel_rfl) (by rfl) (fun wx val iv hB hV K hK => ?_) ?_
                  · clear hV; simp only [putT, List.foldl_cons, List.foldl_nil, Made.val, Act.put, List.setIfInBounds_toArray, List.set_cons_zero, List.set_cons_succ]; go_simp; exact hK.out _ _ rfl (Below.refl _ _)
                  refine StepsT.cons [(4, some 73, .is (.slice (some ⟨b, off, none⟩) D.won.length d4)), (5, some 74, .is (.int .i64 (wn : Int)))] (by simp only [List.getElem?_toArray, List.getElem?_cons_succ, List.getElem?_cons_zero]; rfl) (by kernel_rfl) (by rfl) (fun wx val iv hB hV K hK => ?_) ?_
                  · (obtain ⟨k0, k1⟩ := HC9.out wx hB); clear hV; simp only [putT, List.foldl_cons, List.foldl_nil, Made.val, Act.put, List.setIfInBounds_toArray, List.set_cons_zero, List.set_cons_succ]; go_simp; exact hK.out _ _ rfl (Below.refl _ _)
                  refine StepsT.cons [(6, some 75, .is (.pointer (some ⟨b, off + wn, none⟩)))] (by simp only [List.getElem?_toArray, List.getElem?_cons_succ, List.getElem?_cons_zero]; rfl) (by kernel_rfl) (by rfl) (fun wx val iv hB hV K hK => ?_) ?_
                  · (obtain ⟨k0, k1⟩ := HC9.out wx hB); clear hV; simp only [putT, List.foldl_cons, List.foldl_nil, Made.val, Act.put, List.setIfInBounds_toArray, List.set_cons_zero, List.set_cons_succ]; go_simp; exact hK.out _ _ rfl (Below.refl _ _)
                  refine StepsT.cons [(7, some 76, .is (.int .i64 x))] (by simp only [List.getElem?_toArray, List.getElem?_cons_succ, List.getElem?_cons_zero]; rfl) (by kernel_rfl) (by rfl) (fun wx val iv hB hV K hK => ?_) ?_
                  · clear hV; simp only [putT, List.foldl_cons, List.foldl_nil, Made.val, Act.put, List.setIfInBounds_toArray, List.set_cons_zero, List.set_cons_succ]; go_simp; exact hK.out _ _ rfl (Below.refl _ _)
                  exact StepsT.nil
                case fin =>
                  intro wy val iv BX hV hD
                  clear hV hD
                  obtain ⟨od, Bl⟩ := Hod9.out
                  have od := od.below BX
                  obtain ⟨hlo, l, e4, e5, hwe, hwl, hn8⟩ := HL.out
                  have hiw : wn < (laidP D c).won.length := by show wn < D.won.length; omega
                  obtain ⟨b', off', eq4, hc, hf, hbl, hbs, od1⟩ := od.setWon hiw (x := IntKind.i64.wrap ((laidP D c).won[wn] + 1)) (wf_wrap _ _)
                  obtain ⟨rfl, rfl⟩ : b = b' ∧ off = off' := by simpa using eq4
                  clear eq4
                  rw [← Hx.out] at od1
                  have hc' : wy.cell? ⟨b, off + wn, none⟩ = some (.int .i64 x) := by rw [hc, Hx.out]
                  obtain ⟨Y1, hY1⟩ : ∃ Y, Y = wy.setCell ⟨b, off + wn, none⟩ (.int .i64 (IntKind.i64.wrap (x + 1))) := ⟨_, rfl⟩
                  rw [← hY1] at od1
                  have B1 : Below W0.heap.size X6 Y1 := by rw [hY1]; exact (Bl.trans (BX.mono (Nat.le_trans hlo Bl.size))).setCell hbl _
                  have Hod1 := Lib.hid (And.intro od1 B1)
                  have HY := Lib.hid hY1
                  clear od Bl od1 B1 hc hbl hbs hY1 hlo l e4 e5 hwe hwl hn8 BX
                  simp only [putT, List.foldl_cons, List.foldl_nil, Made.val, Act.put, List.setIfInBounds_toArray, List.set_cons_zero, List.set_cons_succ]
                  refine wpAny_one (i := 9) (by kernel_rfl) (by simp only [List.getElem?_toArray, List.getElem?_cons_succ, List.getElem?_cons_zero]; rfl) (fun K hK => ?_)
                  go_simp
                  refine hK.out _ _ ?_
                  clear hK K
                  refine wpAny_one (i := 10) (by kernel_rfl) (by simp only [List.getElem?_toArray, List.getElem?_cons_succ, List.getElem?_cons_zero]; rfl) (fun K hK => ?_)
                  go_simp
                  refine hK.out _ _ ?_
                  clear hK K
                  clear hc' hf
                  refine wpAny_end (by kernel_rfl) ?_
                  rw [← HY.out]
                  clear HY HC9 Hod9
                  obtain ⟨od1, B1⟩ := Hod1.out
                  obtain ⟨hlo, l, e4, e5, hwe, hwl, hn8⟩ := HL.out
                  obtain ⟨-, ⟨bt, rt⟩, -, -⟩ := od1.rd
                  have hip : wn < (laidP D c).points.length := by show wn < D.points.length; omega
                  obtain ⟨bp, offp, eq5, hcp, hfp, hbpl, hbps, od2'⟩ := od1.setPoints hip (x := IntKind.i64.wrap ((laidP D c).points[wn] + pts (D.trick ++ [c]))) (wf_wrap _ _)
                  have eqp : q5 = some ⟨bp, offp, none⟩ := eq5
                  subst eqp
                  clear eq5
                  have G := od1.cells
                  obtain ⟨y, hy⟩ : ∃ y, y = (laidP D c).points[wn] := ⟨_, rfl⟩
                  have hcp' : Y1.cell? ⟨bp, offp + wn, none⟩ = some (.int .i64 y) := by rw [hcp, hy]
                  have HC2 : Hid (∀ wx, Below Y1.heap.size Y1 wx → wx.cell? ⟨w1.heap.size, 5, none⟩ = some (.slice (some ⟨bp, offp, none⟩) D.points.length d5) ∧ wx.cell? ⟨w1.heap.size, 3, none⟩ = some (.slice q3' (D.trick.length + 1) d3') ∧ wx.cell? ⟨bp, offp + wn, none⟩ = some (.int .i64 y)) := Lib.hid (fun wx hb => by
                    have G' := (hb.block _ od1.lens.2.1).trans G
                    refine ⟨?_, ?_, (hb.cell (World.block_lt_of_cell? _ _ hcp')).trans hcp'⟩ <;> (rw [box_cell G']; rfl))
                  have HPt := Lib.hid (fun wx (hb : Below Y1.heap.size Y1 wx) => HP.out wx (B1.trans (hb.mono (Nat.le_trans hlo B1.size))) _ _ bt (rt.below hb))
                  obtain ⟨pt, hpt⟩ : ∃ z, z = pts (D.trick ++ [c]) := ⟨_, rfl⟩
                  rw [← hpt] at HPt
                  have Hy := Lib.hid (And.intro hy hpt)
                  clear hn8 od1 B1 rt hcp hfp hbpl hbps od2' G hcp' hy hpt hlo l e4 e5 hwe hwl
                  clear val iv
                  go_upto_region 10 with fail
                  refine wp_region_table [(0, some 79, .is (.pointer (some ⟨w1.heap.size, 5, none⟩))), (1, some 80, .is (.slice (some ⟨bp, offp, none⟩) D.points.length d5)), (2, some 81, .is (.int .i64 (wn : Int))), (3, some 82, .is (.pointer (some ⟨w1.heap.size, 5, none⟩))), (4, some 83, .is (.slice (some ⟨bp, offp, none⟩) D.points.length d5)), (5, some 84, .is (.int .i64 (wn : Int))), (6, some 85, .is (.pointer (some ⟨bp, offp + wn, none⟩))), (7, some 86, .is (.int .i64 y)), (8, some 87, .is (.pointer (some ⟨w1.heap.size, 3, none⟩))), (9, some 88, .is (.slice q3' (D.trick.length + 1) d3')), (10, some 89, .is (.int .i64 pt)), (11, some 90, .is (.int .i64 (IntKind.i64.wrap (y + pt))))] 2 (by kernel_rfl) (by kernel_rfl) (by kernel_rfl) (by kernel_rfl) (by kernel_rfl) (L := #[true, true, true, true, true, true, true, true, true, true, true, true, false, false]) (by kernel_rfl) ?steps ?fin
                  case steps =>
                    refine StepsT.cons [] (by simp only [List.getElem?_toArray, List.getElem?_cons_succ, List.getElem?_cons_zero]; rfl) (by kernel_rfl) (by rfl) (fun wx val iv hB hV K hK => ?_) ?_
                    · clear hV; simp only [putT, List.foldl_cons, List.foldl_nil, Made.val, Act.put, List.setIfInBounds_toArray, List.set_cons_zero, List.set_cons_succ]; go_simp; exact hK.out _ _ rfl (Below.refl _ _)
                    refine StepsT.cons [(0, some 79, .is (.pointer (some ⟨w1.heap.size, 5, none⟩)))] (by simp only [List.getElem?_toArray, List.getElem?_cons_succ, List.getElem?_cons_zero]; rfl) (by kernel_rfl) (by rfl) (fun wx val iv hB hV K hK => ?_) ?_
                    · (obtain ⟨k0, k1, k2⟩ := HC2.out wx hB); clear hV; simp only [putT, List.foldl_cons, List.foldl_nil, Made.val, Act.put, List.setIfInBounds_toArray, List.set_cons_zero, List.set_cons_succ]; go_simp; exact hK.out _ _ rfl (Below.refl _ _)
                    refine StepsT.cons [] (by simp only [List.getElem?_toArray, List.getElem?_cons_succ, List.getElem?_cons_zero]; rfl) (by kernel_rfl) (by rfl) (fun wx val iv hB hV K hK => ?_) ?_
                    · clear hV; simp only [putT, List.foldl_cons, List.foldl_nil, Made.val, Act.put, List.setIfInBounds_toArray, List.set_cons_zero, List.set_cons_succ]; go_simp; exact hK.out _ _ rfl (Below.refl _ _)
                    refine StepsT.cons [] (by simp only [List.getElem?_toArray, List.getElem?_cons_succ, List.getElem?_cons_zero]; rfl) (by kernel_rfl) (by rfl) (fun wx val iv hB hV K hK => ?_) ?_
                    · clear hV; simp only [putT, List.foldl_cons, List.foldl_nil, Made.val, Act.put, List.setIfInBounds_toArray, List.set_cons_zero, List.set_cons_succ]; go_simp; exact hK.out _ _ rfl (Below.refl _ _)
                    refine StepsT.cons [(3, some 82, .is (.pointer (some ⟨w1.heap.size, 5, none⟩)))] (by simp only [List.getElem?_toArray, List.getElem?_cons_succ, List.getElem?_cons_zero]; rfl) (by kernel_rfl) (by rfl) (fun wx val iv hB hV K hK => ?_) ?_
                    · (obtain ⟨k0, k1, k2⟩ := HC2.out wx hB); clear hV; simp only [putT, List.foldl_cons, List.foldl_nil, Made.val, Act.put, List.setIfInBounds_toArray, List.set_cons_zero, List.set_cons_succ]; go_simp; exact hK.out _ _ rfl (Below.refl _ _)
                    refine StepsT.cons [] (by simp only [List.getElem?_toArray, List.getElem?_cons_succ, List.getElem?_cons_zero]; rfl) (by kernel_rfl) (by rfl) (fun wx val iv hB hV K hK => ?_) ?_
                    · clear hV; simp only [putT, List.foldl_cons, List.foldl_nil, Made.val, Act.put, List.setIfInBounds_toArray, List.set_cons_zero, List.set_cons_succ]; go_simp; exact hK.out _ _ rfl (Below.refl _ _)
                    refine StepsT.cons [(4, some 83, .is (.slice (some ⟨bp, offp, none⟩) D.points.length d5)), (5, some 84, .is (.int .i64 (wn : Int)))] (by simp only [List.getElem?_toArray, List.getElem?_cons_succ, List.getElem?_cons_zero]; rfl) (by kernel_rfl) (by rfl) (fun wx val iv hB hV K hK => ?_) ?_
                    · (obtain ⟨k0, k1, k2⟩ := HC2.out wx hB); clear hV; simp only [putT, List.foldl_cons, List.foldl_nil, Made.val, Act.put, List.setIfInBounds_toArray, List.set_cons_zero, List.set_cons_succ]; go_simp; exact hK.out _ _ rfl (Below.refl _ _)
                    refine StepsT.cons [(6, some 85, .is (.pointer (some ⟨bp, offp + wn, none⟩)))] (by simp only [List.getElem?_toArray, List.getElem?_cons_succ, List.getElem?_cons_zero]; rfl) (by kernel_rfl) (by rfl) (fun wx val iv hB hV K hK => ?_) ?_
                    · (obtain ⟨k0, k1, k2⟩ := HC2.out wx hB); clear hV; simp only [putT, List.foldl_cons, List.foldl_nil, Made.val, Act.put, List.setIfInBounds_toArray, List.set_cons_zero, List.set_cons_succ]; go_simp; exact hK.out _ _ rfl (Below.refl _ _)
                    refine StepsT.cons [] (by simp only [List.getElem?_toArray, List.getElem?_cons_succ, List.getElem?_cons_zero]; rfl) (by kernel_rfl) (by rfl) (fun wx val iv hB hV K hK => ?_) ?_
                    · clear hV; simp only [putT, List.foldl_cons, List.foldl_nil, Made.val, Act.put, List.setIfInBounds_toArray, List.set_cons_zero, List.set_cons_succ]; go_simp; exact hK.out _ _ rfl (Below.refl _ _)
                    refine StepsT.cons [(8, some 87, .is (.pointer (some ⟨w1.heap.size, 3, none⟩)))] (by simp only [List.getElem?_toArray, List.getElem?_cons_succ, List.getElem?_cons_zero]; rfl) (by kernel_rfl) (by rfl) (fun wx val iv hB hV K hK => ?_) ?_
                    · (obtain ⟨k0, k1, k2⟩ := HC2.out wx hB); clear hV; simp only [putT, List.foldl_cons, List.foldl_nil, Made.val, Act.put, List.setIfInBounds_toArray, List.set_cons_zero, List.set_cons_succ]; go_simp; exact hK.out _ _ rfl (Below.refl _ _)
                    refine StepsT.cons [(9, some 88, .is (.slice q3' (D.trick.length + 1) d3'))] (by simp only [List.getElem?_toArray, List.getElem?_cons_succ, List.getElem?_cons_zero]; rfl) (by kernel_rfl) (by rfl) (fun wx val iv hB hV K hK => ?_) ?_
                    · (clear hV; simp only [putT, List.foldl_cons, List.foldl_nil, Made.val, Act.put, List.setIfInBounds_toArray, List.set_cons_zero, List.set_cons_succ]; go_simp; go_at_call 53; refine (HPt.out wx hB).mono ?_; rintro e wa ⟨rfl, Ba⟩; exact hK.out _ _ rfl Ba)
                    refine StepsT.cons [(7, some 86, .is (.int .i64 y)), (10, some 89, .is (.int .i64 pt))] (by simp only [List.getElem?_toArray, List.getElem?_cons_succ, List.getElem?_cons_zero]; rfl) (by kernel_rfl) (by rfl) (fun wx val iv hB hV K hK => ?_) ?_
                    · clear hV; simp only [putT, List.foldl_cons, List.foldl_nil, Made.val, Act.put, List.setIfInBounds_toArray, List.set_cons_zero, List.set_cons_succ]; go_simp; exact hK.out _ _ rfl (Below.refl _ _)
                    exact StepsT.nil
                  case fin =>
                    intro wz val iv BX hV hD
                    clear hV hD
                    obtain ⟨od1, B1⟩ := Hod1.out
                    have od1 := od1.below BX
                    obtain ⟨hlo, l, e4, e5, hwe, hwl, hn8⟩ := HL.out
                    obtain ⟨hy, hpt⟩ := Hy.out
                    have hip : wn < (laidP D c).points.length := by show wn < D.points.length; omega
                    obtain ⟨bp', offp', eq5, hcp, hfp, hbpl, hbps, od2⟩ := od1.setPoints hip (x := IntKind.i64.wrap ((laidP D c).points[wn] + pts (D.trick ++ [c]))) (wf_wrap _ _)
                    obtain ⟨rfl, rfl⟩ : bp = bp' ∧ offp = offp' := by simpa using eq5
                    clear eq5
                    rw [← hy, ← hpt] at od2
                    have hcp' : wz.cell? ⟨bp, offp + wn, none⟩ = some (.int .i64 y) := by rw [hcp, hy]
                    obtain ⟨Y2, hY2⟩ : ∃ Y, Y = wz.setCell ⟨bp, offp + wn, none⟩ (.int .i64 (IntKind.i64.wrap (y + pt))) := ⟨_, rfl⟩
                    rw [← hY2] at od2
                    have B2' : Below W0.heap.size X6 Y2 := by rw [hY2]; exact (B1.trans (BX.mono (Nat.le_trans hlo B1.size))).setCell hbpl _
                    have Hod2 := Lib.hid (And.intro od2 B2')
                    have HY2 := Lib.hid hY2
                    clear hn8 od1 B1 od2 B2' hcp hbpl hbps hy hpt hlo l e4 e5 hwe hwl hY2 BX
                    simp only [putT, List.foldl_cons, List.foldl_nil, Made.val, Act.put, List.setIfInBounds_toArray, List.set_cons_zero, List.set_cons_succ]
                    refine wpAny_one (i := 12) (by kernel_rfl) (by simp only [List.getElem?_toArray, List.getElem?_cons_succ, List.getElem?_cons_zero]; rfl) (fun K hK => ?_)
                    go_simp
                    refine hK.out _ _ ?_
                    clear hK K
                    refine wpAny_one (i := 13) (by kernel_rfl) (by simp only [List.getElem?_toArray, List.getElem?_cons_succ, List.getElem?_cons_zero]; rfl) (fun K hK => ?_)
                    go_simp
                    refine hK.out _ _ ?_
                    clear hK K
                    clear hcp' hfp
                    refine wpAny_end (by kernel_rfl) ?_
                    rw [← HY2.out]
                    clear HY2 HC2 HPt HP Hod1
                    obtain ⟨od2, B2'⟩ := Hod2.out
                    obtain ⟨hlo, l, e4, e5, hwe, hwl, hn8⟩ := HL.out
                    have od3 := od2.setLeader (x := (wn : Int)) (WalkArith.wf_i64 (by omega))
                    have G2 := od2.cells
                    have z1 := box_cell G2 1
                    have y1 := box_free G2 1
                    simp at z1
                    obtain ⟨Y3, hY3⟩ : ∃ Y, Y = Y2.setCell ⟨w1.heap.size, 1, none⟩ (.int .i64 (wn : Int)) := ⟨_, rfl⟩
                    rw [← hY3] at od3
                    have B3' : Below W0.heap.size X6 Y3 := by rw [hY3]; exact B2'.setCell l.1 _
                    have hA : Below Y3.heap.size Y3 (Y3.alloc (.cells #[] 3)) := (Below.refl _ _).alloc (Nat.le_refl _) _
                    have od4 := (od3.below hA).noTrick Y3.heap.size
                    have G3 := (od3.below hA).cells
                    have z3 := box_cell G3 3
                    have y3 := box_free G3 3
                    simp at z3
                    obtain ⟨Y4, hY4⟩ : ∃ Y, Y = (Y3.alloc (.cells #[] 3)).setCell ⟨w1.heap.size, 3, none⟩ (.slice (some ⟨Y3.heap.size, 0, none⟩) 0 0) := ⟨_, rfl⟩
                    have B4 : Below W0.heap.size X6 Y4 := by rw [hY4]; exact (B3'.trans (hA.mono (Nat.le_trans hlo B3'.size))).setCell l.1 _
                    rw [← hY4] at od4
                    obtain ⟨hy, hpt⟩ := Hy.out
                    have hE4 : endP (laidP D c) = { { { { (laidP D c) with won := (laidP D c).won.set wn (IntKind.i64.wrap (x + 1)) } with points := (laidP D c).points.set wn (IntKind.i64.wrap (y + pt)) } with leader := (wn : Int) } with trick := [] } := by
                      have w1' : wn < (laidP D c).won.length := by show wn < D.won.length; omega
                      have w2' : wn < (laidP D c).points.length := by show wn < D.points.length; omega
                      have htr : (laidP D c).trick = D.trick ++ [c] := rfl
                      unfold endP
                      rw [hwe, Hx.out, hy, hpt, htr]
                      simp [List.getD, w1', w2']
                    have od5 : OD W0.heap.size w1.heap.size Y4 (endP (laidP D c)) (some ⟨g, 0, none⟩) (some ⟨Y3.heap.size, 0, none⟩) (some ⟨b, off, none⟩) (some ⟨bp, offp, none⟩) d0 0 d4 d5 n 0 D.won.length D.points.length := by rw [hE4]; exact od4
                    have HF4 := Lib.hid (And.intro od5 B4)
                    have HY3 := Lib.hid hY3
                    have HY4 := Lib.hid hY4
                    clear hn8 od2 B2' od3 G2 B3' hA od4 G3 B4 hy hpt hE4 hY3 hlo l e4 e5 hwe hwl od5 hY4
                    go_upto_region 12 with fail
                    rw [← HY3.out]
                    clear z1 y1 HY3
                    go_upto_region 13 with fail
                    rw [← HY4.out]
                    clear z3 y3 HY4
                    obtain ⟨od7, B7⟩ := HF4.out
                    obtain ⟨-, g1, bw⟩ := HO6.out
                    have hl1 := (Array.getElem?_eq_some_iff.1 g1).1
                    replace g1 := (B7.block _ (by have := Hsz.out; omega)).trans g1
                    replace bw := bw.trans (B7.mono (by have := Hsz.out; omega))
                    have gr := od7.cells
                    have HX := Lib.hid (od7.final (r := w.heap.size + 1) (lo' := w.heap.size) (by have := Hsz.out; omega) (Nat.le_succ _) g1 bw)
                    clear od7 bw B7 hl1
                    go_upto_region 13 with fail
                    refine wp_region_lit ?_
                    refine wpList_load_row rfl 31 _ rfl w1.heap.size rfl 31 _ _ _ gr Tryd.underlying31 rfl (by kernel_rfl) ?_
                    clear gr
                    refine wpList_store_row rfl 31 _ _ rfl (w.heap.size + 1) #[.slice (some ⟨g, 0, none⟩) n d0, .int .i64 (endP (laidP D c)).leader, .int .i64 (endP (laidP D c)).trump, .slice (some ⟨Y3.heap.size, 0, none⟩) 0 0, .slice (some ⟨b, off, none⟩) D.won.length d4, .slice (some ⟨bp, offp, none⟩) D.points.length d5, .int .i64 (endP (laidP D c)).left] rfl rfl 31 _ g1 (by kernel_rfl) rfl (by simp [Value.oneCell']) ?_
                    clear g1
                    go_wp2_with fail
                    refine bodyPost_ret (results_row_tmp rfl _ _ (w.heap.size + 1) _ _ _ _ rfl HX.out.1 Tryd.underlying31 rfl (by kernel_rfl)) rfl ?_
                    rw [HOK.out, HE.out]
                    exact ⟨_, rfl, HX.out.2.1, HX.out.2.2⟩
            · have hfl : (laidP D c).trick.length ≠ D.hands.length := by show (D.trick ++ [c]).length ≠ _; rw [List.length_append, List.length_singleton, ← hn]; exact hfull
              have HE := Lib.hid (playD_on hok hfl)
              have hq : (((D.trick.length + 1 : Nat) : Int) == (n : Int)) = false := by simp; omega
              have hq2 : (((D.trick.length : Nat) : Int) + 1 == (n : Int)) = false := by simp; omega
              have gr := G6
              have HX := Lib.hid (od6.final (r := w.heap.size + 1) (lo' := w.heap.size) (by have := Hsz.out; omega) (Nat.le_succ _) g1 bw)
              clear od6 g0 bw G6 hn hjD hj hzr hzd hok htt hfl hfull
              go_upto_region 13 with fail
              refine wp_region_lit ?_
              refine wpList_load_row rfl 31 _ rfl w1.heap.size rfl 31 _ _ _ gr Tryd.underlying31 rfl (by kernel_rfl) ?_
              clear gr
              refine wpList_store_row rfl 31 _ _ rfl (w.heap.size + 1) #[.slice (some ⟨g, 0, none⟩) n d0, .int .i64 (laidP D c).leader, .int .i64 (laidP D c).trump, .slice q3' (D.trick.length + 1) d3', .slice q4 D.won.length d4, .slice q5 D.points.length d5, .int .i64 (laidP D c).left] rfl rfl 31 _ g1 (by kernel_rfl) rfl (by simp [Value.oneCell']) ?_
              clear g1
              go_wp2_with fail
              refine bodyPost_ret (results_row_tmp rfl _ _ (w.heap.size + 1) _ _ _ _ rfl HX.out.1 Tryd.underlying31 rfl (by kernel_rfl)) rfl ?_
              rw [HOK.out, HE.out]
              exact ⟨_, rfl, HX.out.2.1, HX.out.2.2⟩
end Go.Proofs.YtbojhbhniollaaaDoor
