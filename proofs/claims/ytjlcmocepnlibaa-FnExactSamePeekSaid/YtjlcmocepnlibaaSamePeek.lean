/-
  SamePeek, both sides.
-/
import Derived.Test.YtjlcmocepnlibaaSPeek
import Derived.Test.YtjlcmocepnlibaaHas
namespace Go.Proofs.Ytjlcmocepnlibaa
open Go.RowKit
set_option linter.unusedVariables false
set_option linter.unusedSimpArgs false

def eqPeekB (A B : MPeek) : Bool := decide (A.me = B.me) && (decide (A.hand = B.hand) && (decide (A.top = B.top) && (decide (A.heapSize = B.heapSize) && (decide (A.stockSize = B.stockSize) && (decide (A.sizes = B.sizes) && (decide (A.turn = B.turn) && (decide (A.moves = B.moves))))))))
theorem two_boxesPeek {w w1 : World} {o1 o2 : Obj} (bb : Below ((w.alloc o1).alloc o2).heap.size ((w.alloc o1).alloc o2) w1) : Below w.heap.size w w1 ∧ w1.heap[w.heap.size]? = some o1 ∧ w1.heap[w.heap.size + 1]? = some o2 := by
  refine ⟨(((Below.refl w.heap.size w).alloc (Nat.le_refl _) o1).alloc (by simp) o2).trans (bb.mono (by simp; omega)), (bb.block _ (by simp; omega)).trans ?_, (bb.block _ (by simp)).trans ?_⟩
  · show ((w.heap.push o1).push o2)[w.heap.size]? = _
    rw [Array.getElem?_push, if_neg (by simp)]; simp
  · show ((w.heap.push o1).push o2)[w.heap.size + 1]? = _
    rw [Array.getElem?_push, if_pos (by simp)]

set_option maxRecDepth 100000 in
set_option maxHeartbeats 4000000 in
theorem sSamePeek_any (va vb : Value) (A B : MPeek) (w : World) (h : RdPeek w va A) (h' : RdPeek w vb B) (hf : A.Few) (hf' : B.Few) (r : Bool) (hr : eqPeekB A B = r) :
    Calls Try.prog 27 #[va, vb] w fun e w' => e = .returned (.bool r) ∧ Below w.heap.size w w' := by
  obtain ⟨xa0, xa1, xa2, xa3, xa4, xa5, xa6, xa7⟩ := A
  obtain ⟨xb0, xb1, xb2, xb3, xb4, xb5, xb6, xb7⟩ := B
  obtain ⟨v1, v5, b1, b5, rfl, h1, h5, -, -, -, -, -, -⟩ := h
  obtain ⟨u1, u5, d1, d5, rfl, g1, g5, -, -, -, -, -, -⟩ := h'
  obtain ⟨f1, f5⟩ := hf
  obtain ⟨f1', f5'⟩ := hf'
  dsimp only at *
  obtain ⟨p1, c1, e1, -⟩ := id h1
  obtain ⟨q1, k1, o1, -⟩ := id g1
  subst e1 o1
  obtain ⟨p5, c5, e5, -⟩ := id h5
  obtain ⟨q5, k5, o5, -⟩ := id g5
  subst e5 o5
  have HW := Lib.hid (fun wx (hb : Below w.heap.size w wx) => sEqualInts_any _ _ xa1 xb1 _ _ wx (h1.below hb) (g1.below hb) (by omega) (by omega))
  have HK := Lib.hid (fun wx (hb : Below w.heap.size w wx) => sEqualInts_any _ _ xa5 xb5 _ _ wx (h5.below hb) (g5.below hb) (by omega) (by omega))
  have B0 : ∀ o1 o2, Below w.heap.size w ((w.alloc o1).alloc o2) := fun o1 o2 => ((Below.refl w.heap.size w).alloc (Nat.le_refl _) o1).alloc (by simp) o2
  have H2 := Lib.hid (fun w1 o1 o2 bb => two_boxesPeek (w := w) (w1 := w1) (o1 := o1) (o2 := o2) bb)
  have HR := Lib.hid hr
  clear h1 h5 g1 g5 f1 f5 f1' f5' hr
  cases x0 : decide (xa0 = xb0) with
  | false =>
    have t0 : (xa0 == xb0) = false := by simpa using x0
    obtain rfl : r = false := by rw [← HR.out]; unfold eqPeekB; dsimp only; rw [x0]; rfl
    clear x0
    go_enter Try.func27, Try.ntmps27
    go_wp2_with fail
    try go_wp2_with fail
    go_ret
    exact ⟨rfl, B0 _ _⟩
  | true =>
    have t0 : (xa0 == xb0) = true := by simpa using x0
    cases x1 : decide (xa1 = xb1) with
    | false =>
      rw [x1] at HW
      obtain rfl : r = false := by rw [← HR.out]; unfold eqPeekB; dsimp only; rw [x0, x1]; rfl
      clear x0 x1
      go_enter Try.func27, Try.ntmps27
      go_wp2_with fail
      refine (HW.out _ (B0 _ _)).mono ?_
      rintro e w1 ⟨rfl, bb⟩
      obtain ⟨B1, G1, G2⟩ := H2.out _ _ _ bb
      go_wp2_with fail
      go_ret
      exact ⟨rfl, B1⟩
    | true =>
      rw [x1] at HW
      cases x2 : decide (xa2 = xb2) with
      | false =>
        have t2 : (xa2 == xb2) = false := by simpa using x2
        obtain rfl : r = false := by rw [← HR.out]; unfold eqPeekB; dsimp only; rw [x0, x1, x2]; rfl
        clear x0 x1 x2
        go_enter Try.func27, Try.ntmps27
        go_wp2_with fail
        refine (HW.out _ (B0 _ _)).mono ?_
        rintro e w1 ⟨rfl, bb⟩
        obtain ⟨B1, G1, G2⟩ := H2.out _ _ _ bb
        have G1s := (Array.getElem?_eq_some_iff.1 G1).1
        have G2s := (Array.getElem?_eq_some_iff.1 G2).1
        obtain ⟨a0, a1, a2, a3, a4, a5, a6, a7⟩ := SPeek_cells G1
        obtain ⟨y0, y1, y2, y3, y4, y5, y6, y7⟩ := SPeek_cells G2
        have HG1 := Lib.hid G1
        have HG2 := Lib.hid G2
        clear bb G1 G2
        go_wp2_with fail
        go_ret
        exact ⟨rfl, B1⟩
      | true =>
        have t2 : (xa2 == xb2) = true := by simpa using x2
        cases x3 : decide (xa3 = xb3) with
        | false =>
          have t3 : (xa3 == xb3) = false := by simpa using x3
          obtain rfl : r = false := by rw [← HR.out]; unfold eqPeekB; dsimp only; rw [x0, x1, x2, x3]; rfl
          clear x0 x1 x2 x3
          go_enter Try.func27, Try.ntmps27
          go_wp2_with fail
          refine (HW.out _ (B0 _ _)).mono ?_
          rintro e w1 ⟨rfl, bb⟩
          obtain ⟨B1, G1, G2⟩ := H2.out _ _ _ bb
          have G1s := (Array.getElem?_eq_some_iff.1 G1).1
          have G2s := (Array.getElem?_eq_some_iff.1 G2).1
          obtain ⟨a0, a1, a2, a3, a4, a5, a6, a7⟩ := SPeek_cells G1
          obtain ⟨y0, y1, y2, y3, y4, y5, y6, y7⟩ := SPeek_cells G2
          have HG1 := Lib.hid G1
          have HG2 := Lib.hid G2
          clear bb G1 G2
          go_wp2_with fail
          go_ret
          exact ⟨rfl, B1⟩
        | true =>
          have t3 : (xa3 == xb3) = true := by simpa using x3
          cases x4 : decide (xa4 = xb4) with
          | false =>
            have t4 : (xa4 == xb4) = false := by simpa using x4
            obtain rfl : r = false := by rw [← HR.out]; unfold eqPeekB; dsimp only; rw [x0, x1, x2, x3, x4]; rfl
            clear x0 x1 x2 x3 x4
            go_enter Try.func27, Try.ntmps27
            go_wp2_with fail
            refine (HW.out _ (B0 _ _)).mono ?_
            rintro e w1 ⟨rfl, bb⟩
            obtain ⟨B1, G1, G2⟩ := H2.out _ _ _ bb
            have G1s := (Array.getElem?_eq_some_iff.1 G1).1
            have G2s := (Array.getElem?_eq_some_iff.1 G2).1
            obtain ⟨a0, a1, a2, a3, a4, a5, a6, a7⟩ := SPeek_cells G1
            obtain ⟨y0, y1, y2, y3, y4, y5, y6, y7⟩ := SPeek_cells G2
            have HG1 := Lib.hid G1
            have HG2 := Lib.hid G2
            clear bb G1 G2
            go_wp2_with fail
            go_ret
            exact ⟨rfl, B1⟩
          | true =>
            have t4 : (xa4 == xb4) = true := by simpa using x4
            cases x5 : decide (xa5 = xb5) with
            | false =>
              rw [x5] at HK
              obtain rfl : r = false := by rw [← HR.out]; unfold eqPeekB; dsimp only; rw [x0, x1, x2, x3, x4, x5]; rfl
              clear x0 x1 x2 x3 x4 x5
              go_enter Try.func27, Try.ntmps27
              go_wp2_with fail
              refine (HW.out _ (B0 _ _)).mono ?_
              rintro e w1 ⟨rfl, bb⟩
              obtain ⟨B1, G1, G2⟩ := H2.out _ _ _ bb
              have G1s := (Array.getElem?_eq_some_iff.1 G1).1
              have G2s := (Array.getElem?_eq_some_iff.1 G2).1
              obtain ⟨a0, a1, a2, a3, a4, a5, a6, a7⟩ := SPeek_cells G1
              obtain ⟨y0, y1, y2, y3, y4, y5, y6, y7⟩ := SPeek_cells G2
              have HG1 := Lib.hid G1
              have HG2 := Lib.hid G2
              clear bb G1 G2
              go_wp2_with fail
              refine (HK.out _ B1).mono ?_
              rintro e w2 ⟨rfl, bb⟩
              have B2 := B1.trans (bb.mono B1.size)
              go_wp2_with fail
              go_ret
              exact ⟨rfl, B2⟩
            | true =>
              rw [x5] at HK
              cases x6 : decide (xa6 = xb6) with
              | false =>
                have t6 : (xa6 == xb6) = false := by simpa using x6
                obtain rfl : r = false := by rw [← HR.out]; unfold eqPeekB; dsimp only; rw [x0, x1, x2, x3, x4, x5, x6]; rfl
                clear x0 x1 x2 x3 x4 x5 x6
                go_enter Try.func27, Try.ntmps27
                go_wp2_with fail
                refine (HW.out _ (B0 _ _)).mono ?_
                rintro e w1 ⟨rfl, bb⟩
                obtain ⟨B1, G1, G2⟩ := H2.out _ _ _ bb
                have G1s := (Array.getElem?_eq_some_iff.1 G1).1
                have G2s := (Array.getElem?_eq_some_iff.1 G2).1
                obtain ⟨a0, a1, a2, a3, a4, a5, a6, a7⟩ := SPeek_cells G1
                obtain ⟨y0, y1, y2, y3, y4, y5, y6, y7⟩ := SPeek_cells G2
                have HG1 := Lib.hid G1
                have HG2 := Lib.hid G2
                clear bb G1 G2
                go_wp2_with fail
                refine (HK.out _ B1).mono ?_
                rintro e w2 ⟨rfl, bb⟩
                have B2 := B1.trans (bb.mono B1.size)
                clear a0 y0 a1 y1 a2 y2 a3 y3 a4 y4 a5 y5 a6 y6 a7 y7
                obtain ⟨a0, a1, a2, a3, a4, a5, a6, a7⟩ := SPeek_cells ((bb.block _ G1s).trans HG1.out)
                obtain ⟨y0, y1, y2, y3, y4, y5, y6, y7⟩ := SPeek_cells ((bb.block _ G2s).trans HG2.out)
                go_wp2_with fail
                go_ret
                exact ⟨rfl, B2⟩
              | true =>
                have t6 : (xa6 == xb6) = true := by simpa using x6
                cases x7 : decide (xa7 = xb7) with
                | false =>
                  have t7 : (xa7 == xb7) = false := by simpa using x7
                  obtain rfl : r = false := by rw [← HR.out]; unfold eqPeekB; dsimp only; rw [x0, x1, x2, x3, x4, x5, x6, x7]; rfl
                  clear x0 x1 x2 x3 x4 x5 x6 x7
                  go_enter Try.func27, Try.ntmps27
                  go_wp2_with fail
                  refine (HW.out _ (B0 _ _)).mono ?_
                  rintro e w1 ⟨rfl, bb⟩
                  obtain ⟨B1, G1, G2⟩ := H2.out _ _ _ bb
                  have G1s := (Array.getElem?_eq_some_iff.1 G1).1
                  have G2s := (Array.getElem?_eq_some_iff.1 G2).1
                  obtain ⟨a0, a1, a2, a3, a4, a5, a6, a7⟩ := SPeek_cells G1
                  obtain ⟨y0, y1, y2, y3, y4, y5, y6, y7⟩ := SPeek_cells G2
                  have HG1 := Lib.hid G1
                  have HG2 := Lib.hid G2
                  clear bb G1 G2
                  go_wp2_with fail
                  refine (HK.out _ B1).mono ?_
                  rintro e w2 ⟨rfl, bb⟩
                  have B2 := B1.trans (bb.mono B1.size)
                  clear a0 y0 a1 y1 a2 y2 a3 y3 a4 y4 a5 y5 a6 y6 a7 y7
                  obtain ⟨a0, a1, a2, a3, a4, a5, a6, a7⟩ := SPeek_cells ((bb.block _ G1s).trans HG1.out)
                  obtain ⟨y0, y1, y2, y3, y4, y5, y6, y7⟩ := SPeek_cells ((bb.block _ G2s).trans HG2.out)
                  go_wp2_with fail
                  go_ret
                  exact ⟨rfl, B2⟩
                | true =>
                  have t7 : (xa7 == xb7) = true := by simpa using x7
                  obtain rfl : r = true := by rw [← HR.out]; unfold eqPeekB; dsimp only; rw [x0, x1, x2, x3, x4, x5, x6, x7]; rfl
                  clear x0 x1 x2 x3 x4 x5 x6 x7
                  go_enter Try.func27, Try.ntmps27
                  go_wp2_with fail
                  refine (HW.out _ (B0 _ _)).mono ?_
                  rintro e w1 ⟨rfl, bb⟩
                  obtain ⟨B1, G1, G2⟩ := H2.out _ _ _ bb
                  have G1s := (Array.getElem?_eq_some_iff.1 G1).1
                  have G2s := (Array.getElem?_eq_some_iff.1 G2).1
                  obtain ⟨a0, a1, a2, a3, a4, a5, a6, a7⟩ := SPeek_cells G1
                  obtain ⟨y0, y1, y2, y3, y4, y5, y6, y7⟩ := SPeek_cells G2
                  have HG1 := Lib.hid G1
                  have HG2 := Lib.hid G2
                  clear bb G1 G2
                  go_wp2_with fail
                  refine (HK.out _ B1).mono ?_
                  rintro e w2 ⟨rfl, bb⟩
                  have B2 := B1.trans (bb.mono B1.size)
                  clear a0 y0 a1 y1 a2 y2 a3 y3 a4 y4 a5 y5 a6 y6 a7 y7
                  obtain ⟨a0, a1, a2, a3, a4, a5, a6, a7⟩ := SPeek_cells ((bb.block _ G1s).trans HG1.out)
                  obtain ⟨y0, y1, y2, y3, y4, y5, y6, y7⟩ := SPeek_cells ((bb.block _ G2s).trans HG2.out)
                  go_wp2_with fail
                  go_ret
                  exact ⟨rfl, B2⟩
set_option maxRecDepth 100000 in
set_option maxHeartbeats 4000000 in
theorem samePeek_any (va vb : Value) (A B : MPeek) (w : World) (h : RdPeek w va A) (h' : RdPeek w vb B) (hf : A.Few) (hf' : B.Few) (r : Bool) (hr : eqPeekB A B = r) :
    Calls Try.prog 28 #[va, vb] w fun e w' => e = .returned (.bool r) ∧ Below w.heap.size w w' := by
  obtain ⟨xa0, xa1, xa2, xa3, xa4, xa5, xa6, xa7⟩ := A
  obtain ⟨xb0, xb1, xb2, xb3, xb4, xb5, xb6, xb7⟩ := B
  obtain ⟨v1, v5, b1, b5, rfl, h1, h5, -, -, -, -, -, -⟩ := h
  obtain ⟨u1, u5, d1, d5, rfl, g1, g5, -, -, -, -, -, -⟩ := h'
  obtain ⟨f1, f5⟩ := hf
  obtain ⟨f1', f5'⟩ := hf'
  dsimp only at *
  obtain ⟨p1, c1, e1, -⟩ := id h1
  obtain ⟨q1, k1, o1, -⟩ := id g1
  subst e1 o1
  obtain ⟨p5, c5, e5, -⟩ := id h5
  obtain ⟨q5, k5, o5, -⟩ := id g5
  subst e5 o5
  have HW := Lib.hid (fun wx (hb : Below w.heap.size w wx) => equalInts_any _ _ xa1 xb1 _ _ wx (h1.below hb) (g1.below hb) (by omega) (by omega))
  have HK := Lib.hid (fun wx (hb : Below w.heap.size w wx) => equalInts_any _ _ xa5 xb5 _ _ wx (h5.below hb) (g5.below hb) (by omega) (by omega))
  have B0 : ∀ o1 o2, Below w.heap.size w ((w.alloc o1).alloc o2) := fun o1 o2 => ((Below.refl w.heap.size w).alloc (Nat.le_refl _) o1).alloc (by simp) o2
  have H2 := Lib.hid (fun w1 o1 o2 bb => two_boxesPeek (w := w) (w1 := w1) (o1 := o1) (o2 := o2) bb)
  have HR := Lib.hid hr
  clear h1 h5 g1 g5 f1 f5 f1' f5' hr
  cases x0 : decide (xa0 = xb0) with
  | false =>
    have t0 : (xa0 == xb0) = false := by simpa using x0
    obtain rfl : r = false := by rw [← HR.out]; unfold eqPeekB; dsimp only; rw [x0]; rfl
    clear x0
    go_enter Try.func28, Try.ntmps28
    go_wp2_with fail
    try go_wp2_with fail
    go_ret
    exact ⟨rfl, B0 _ _⟩
  | true =>
    have t0 : (xa0 == xb0) = true := by simpa using x0
    cases x1 : decide (xa1 = xb1) with
    | false =>
      rw [x1] at HW
      obtain rfl : r = false := by rw [← HR.out]; unfold eqPeekB; dsimp only; rw [x0, x1]; rfl
      clear x0 x1
      go_enter Try.func28, Try.ntmps28
      go_wp2_with fail
      refine (HW.out _ (B0 _ _)).mono ?_
      rintro e w1 ⟨rfl, bb⟩
      obtain ⟨B1, G1, G2⟩ := H2.out _ _ _ bb
      go_wp2_with fail
      go_ret
      exact ⟨rfl, B1⟩
    | true =>
      rw [x1] at HW
      cases x2 : decide (xa2 = xb2) with
      | false =>
        have t2 : (xa2 == xb2) = false := by simpa using x2
        obtain rfl : r = false := by rw [← HR.out]; unfold eqPeekB; dsimp only; rw [x0, x1, x2]; rfl
        clear x0 x1 x2
        go_enter Try.func28, Try.ntmps28
        go_wp2_with fail
        refine (HW.out _ (B0 _ _)).mono ?_
        rintro e w1 ⟨rfl, bb⟩
        obtain ⟨B1, G1, G2⟩ := H2.out _ _ _ bb
        have G1s := (Array.getElem?_eq_some_iff.1 G1).1
        have G2s := (Array.getElem?_eq_some_iff.1 G2).1
        obtain ⟨a0, a1, a2, a3, a4, a5, a6, a7⟩ := SPeek_cells G1
        obtain ⟨y0, y1, y2, y3, y4, y5, y6, y7⟩ := SPeek_cells G2
        have HG1 := Lib.hid G1
        have HG2 := Lib.hid G2
        clear bb G1 G2
        go_wp2_with fail
        go_ret
        exact ⟨rfl, B1⟩
      | true =>
        have t2 : (xa2 == xb2) = true := by simpa using x2
        cases x3 : decide (xa3 = xb3) with
        | false =>
          have t3 : (xa3 == xb3) = false := by simpa using x3
          obtain rfl : r = false := by rw [← HR.out]; unfold eqPeekB; dsimp only; rw [x0, x1, x2, x3]; rfl
          clear x0 x1 x2 x3
          go_enter Try.func28, Try.ntmps28
          go_wp2_with fail
          refine (HW.out _ (B0 _ _)).mono ?_
          rintro e w1 ⟨rfl, bb⟩
          obtain ⟨B1, G1, G2⟩ := H2.out _ _ _ bb
          have G1s := (Array.getElem?_eq_some_iff.1 G1).1
          have G2s := (Array.getElem?_eq_some_iff.1 G2).1
          obtain ⟨a0, a1, a2, a3, a4, a5, a6, a7⟩ := SPeek_cells G1
          obtain ⟨y0, y1, y2, y3, y4, y5, y6, y7⟩ := SPeek_cells G2
          have HG1 := Lib.hid G1
          have HG2 := Lib.hid G2
          clear bb G1 G2
          go_wp2_with fail
          go_ret
          exact ⟨rfl, B1⟩
        | true =>
          have t3 : (xa3 == xb3) = true := by simpa using x3
          cases x4 : decide (xa4 = xb4) with
          | false =>
            have t4 : (xa4 == xb4) = false := by simpa using x4
            obtain rfl : r = false := by rw [← HR.out]; unfold eqPeekB; dsimp only; rw [x0, x1, x2, x3, x4]; rfl
            clear x0 x1 x2 x3 x4
            go_enter Try.func28, Try.ntmps28
            go_wp2_with fail
            refine (HW.out _ (B0 _ _)).mono ?_
            rintro e w1 ⟨rfl, bb⟩
            obtain ⟨B1, G1, G2⟩ := H2.out _ _ _ bb
            have G1s := (Array.getElem?_eq_some_iff.1 G1).1
            have G2s := (Array.getElem?_eq_some_iff.1 G2).1
            obtain ⟨a0, a1, a2, a3, a4, a5, a6, a7⟩ := SPeek_cells G1
            obtain ⟨y0, y1, y2, y3, y4, y5, y6, y7⟩ := SPeek_cells G2
            have HG1 := Lib.hid G1
            have HG2 := Lib.hid G2
            clear bb G1 G2
            go_wp2_with fail
            go_ret
            exact ⟨rfl, B1⟩
          | true =>
            have t4 : (xa4 == xb4) = true := by simpa using x4
            cases x5 : decide (xa5 = xb5) with
            | false =>
              rw [x5] at HK
              obtain rfl : r = false := by rw [← HR.out]; unfold eqPeekB; dsimp only; rw [x0, x1, x2, x3, x4, x5]; rfl
              clear x0 x1 x2 x3 x4 x5
              go_enter Try.func28, Try.ntmps28
              go_wp2_with fail
              refine (HW.out _ (B0 _ _)).mono ?_
              rintro e w1 ⟨rfl, bb⟩
              obtain ⟨B1, G1, G2⟩ := H2.out _ _ _ bb
              have G1s := (Array.getElem?_eq_some_iff.1 G1).1
              have G2s := (Array.getElem?_eq_some_iff.1 G2).1
              obtain ⟨a0, a1, a2, a3, a4, a5, a6, a7⟩ := SPeek_cells G1
              obtain ⟨y0, y1, y2, y3, y4, y5, y6, y7⟩ := SPeek_cells G2
              have HG1 := Lib.hid G1
              have HG2 := Lib.hid G2
              clear bb G1 G2
              go_wp2_with fail
              refine (HK.out _ B1).mono ?_
              rintro e w2 ⟨rfl, bb⟩
              have B2 := B1.trans (bb.mono B1.size)
              go_wp2_with fail
              go_ret
              exact ⟨rfl, B2⟩
            | true =>
              rw [x5] at HK
              cases x6 : decide (xa6 = xb6) with
              | false =>
                have t6 : (xa6 == xb6) = false := by simpa using x6
                obtain rfl : r = false := by rw [← HR.out]; unfold eqPeekB; dsimp only; rw [x0, x1, x2, x3, x4, x5, x6]; rfl
                clear x0 x1 x2 x3 x4 x5 x6
                go_enter Try.func28, Try.ntmps28
                go_wp2_with fail
                refine (HW.out _ (B0 _ _)).mono ?_
                rintro e w1 ⟨rfl, bb⟩
                obtain ⟨B1, G1, G2⟩ := H2.out _ _ _ bb
                have G1s := (Array.getElem?_eq_some_iff.1 G1).1
                have G2s := (Array.getElem?_eq_some_iff.1 G2).1
                obtain ⟨a0, a1, a2, a3, a4, a5, a6, a7⟩ := SPeek_cells G1
                obtain ⟨y0, y1, y2, y3, y4, y5, y6, y7⟩ := SPeek_cells G2
                have HG1 := Lib.hid G1
                have HG2 := Lib.hid G2
                clear bb G1 G2
                go_wp2_with fail
                refine (HK.out _ B1).mono ?_
                rintro e w2 ⟨rfl, bb⟩
                have B2 := B1.trans (bb.mono B1.size)
                clear a0 y0 a1 y1 a2 y2 a3 y3 a4 y4 a5 y5 a6 y6 a7 y7
                obtain ⟨a0, a1, a2, a3, a4, a5, a6, a7⟩ := SPeek_cells ((bb.block _ G1s).trans HG1.out)
                obtain ⟨y0, y1, y2, y3, y4, y5, y6, y7⟩ := SPeek_cells ((bb.block _ G2s).trans HG2.out)
                go_wp2_with fail
                go_ret
                exact ⟨rfl, B2⟩
              | true =>
                have t6 : (xa6 == xb6) = true := by simpa using x6
                cases x7 : decide (xa7 = xb7) with
                | false =>
                  have t7 : (xa7 == xb7) = false := by simpa using x7
                  obtain rfl : r = false := by rw [← HR.out]; unfold eqPeekB; dsimp only; rw [x0, x1, x2, x3, x4, x5, x6, x7]; rfl
                  clear x0 x1 x2 x3 x4 x5 x6 x7
                  go_enter Try.func28, Try.ntmps28
                  go_wp2_with fail
                  refine (HW.out _ (B0 _ _)).mono ?_
                  rintro e w1 ⟨rfl, bb⟩
                  obtain ⟨B1, G1, G2⟩ := H2.out _ _ _ bb
                  have G1s := (Array.getElem?_eq_some_iff.1 G1).1
                  have G2s := (Array.getElem?_eq_some_iff.1 G2).1
                  obtain ⟨a0, a1, a2, a3, a4, a5, a6, a7⟩ := SPeek_cells G1
                  obtain ⟨y0, y1, y2, y3, y4, y5, y6, y7⟩ := SPeek_cells G2
                  have HG1 := Lib.hid G1
                  have HG2 := Lib.hid G2
                  clear bb G1 G2
                  go_wp2_with fail
                  refine (HK.out _ B1).mono ?_
                  rintro e w2 ⟨rfl, bb⟩
                  have B2 := B1.trans (bb.mono B1.size)
                  clear a0 y0 a1 y1 a2 y2 a3 y3 a4 y4 a5 y5 a6 y6 a7 y7
                  obtain ⟨a0, a1, a2, a3, a4, a5, a6, a7⟩ := SPeek_cells ((bb.block _ G1s).trans HG1.out)
                  obtain ⟨y0, y1, y2, y3, y4, y5, y6, y7⟩ := SPeek_cells ((bb.block _ G2s).trans HG2.out)
                  go_wp2_with fail
                  go_ret
                  exact ⟨rfl, B2⟩
                | true =>
                  have t7 : (xa7 == xb7) = true := by simpa using x7
                  obtain rfl : r = true := by rw [← HR.out]; unfold eqPeekB; dsimp only; rw [x0, x1, x2, x3, x4, x5, x6, x7]; rfl
                  clear x0 x1 x2 x3 x4 x5 x6 x7
                  go_enter Try.func28, Try.ntmps28
                  go_wp2_with fail
                  refine (HW.out _ (B0 _ _)).mono ?_
                  rintro e w1 ⟨rfl, bb⟩
                  obtain ⟨B1, G1, G2⟩ := H2.out _ _ _ bb
                  have G1s := (Array.getElem?_eq_some_iff.1 G1).1
                  have G2s := (Array.getElem?_eq_some_iff.1 G2).1
                  obtain ⟨a0, a1, a2, a3, a4, a5, a6, a7⟩ := SPeek_cells G1
                  obtain ⟨y0, y1, y2, y3, y4, y5, y6, y7⟩ := SPeek_cells G2
                  have HG1 := Lib.hid G1
                  have HG2 := Lib.hid G2
                  clear bb G1 G2
                  go_wp2_with fail
                  refine (HK.out _ B1).mono ?_
                  rintro e w2 ⟨rfl, bb⟩
                  have B2 := B1.trans (bb.mono B1.size)
                  clear a0 y0 a1 y1 a2 y2 a3 y3 a4 y4 a5 y5 a6 y6 a7 y7
                  obtain ⟨a0, a1, a2, a3, a4, a5, a6, a7⟩ := SPeek_cells ((bb.block _ G1s).trans HG1.out)
                  obtain ⟨y0, y1, y2, y3, y4, y5, y6, y7⟩ := SPeek_cells ((bb.block _ G2s).trans HG2.out)
                  go_wp2_with fail
                  go_ret
                  exact ⟨rfl, B2⟩
end Go.Proofs.Ytjlcmocepnlibaa
