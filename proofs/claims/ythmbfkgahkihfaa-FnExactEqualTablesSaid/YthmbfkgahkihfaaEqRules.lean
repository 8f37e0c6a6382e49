/-
  EqualRules, both sides.
-/
import Derived.Test.YthmbfkgahkihfaaSRules
import Derived.Test.YthmbfkgahkihfaaHas
namespace Go.Proofs.Ythmbfkgahkihfaa
open Go.RowKit
set_option linter.unusedVariables false

def eqRules (A B : MRules) : Bool :=
  decide (A.players = B.players) && (decide (A.each = B.each) && ((A.sameSuit == B.sameSuit) && ((A.sameRank == B.sameRank) && (decide (A.wild = B.wild) && (decide (A.skip = B.skip) && (decide (A.take = B.take) && decide (A.limit = B.limit)))))))
theorem two_boxes {w w1 : World} {o1 o2 : Obj} (bb : Below ((w.alloc o1).alloc o2).heap.size ((w.alloc o1).alloc o2) w1) : Below w.heap.size w w1 ∧ w1.heap[w.heap.size]? = some o1 ∧ w1.heap[w.heap.size + 1]? = some o2 := by
  refine ⟨(((Below.refl w.heap.size w).alloc (Nat.le_refl _) o1).alloc (by simp) o2).trans (bb.mono (by simp; omega)), (bb.block _ (by simp; omega)).trans ?_, (bb.block _ (by simp)).trans ?_⟩
  · show ((w.heap.push o1).push o2)[w.heap.size]? = _
    rw [Array.getElem?_push, if_neg (by simp)]; simp
  · show ((w.heap.push o1).push o2)[w.heap.size + 1]? = _
    rw [Array.getElem?_push, if_pos (by simp)]

set_option maxRecDepth 100000 in
set_option maxHeartbeats 2000000 in
theorem sEqualRules_any (va vb : Value) (A B : MRules) (w : World) (h : RdRules w va A) (h' : RdRules w vb B) (hf : A.Few) (hf' : B.Few) (r : Bool) (hr : eqRules A B = r) :
    Calls Try.prog 48 #[va, vb] w fun e w' => e = .returned (.bool r) ∧ Below w.heap.size w w' := by
  obtain ⟨pa, ea, sa, ra, wa, ka, ta, la⟩ := A
  obtain ⟨pb, eb, sb, rb, wb, kb, tb, lb⟩ := B
  obtain ⟨v4, v5, b4, b5, rfl, h4, h5, -, -, -, -⟩ := h
  obtain ⟨u4, u5, d4, d5, rfl, g4, g5, -, -, -, -⟩ := h'
  obtain ⟨f4, f5⟩ := hf
  obtain ⟨f4', f5'⟩ := hf'
  dsimp only at *
  obtain ⟨p4, c4, e4, -⟩ := id h4
  obtain ⟨p5, c5, e5, -⟩ := id h5
  obtain ⟨q4, k4, e4', -⟩ := id g4
  obtain ⟨q5, k5, e5', -⟩ := id g5
  subst e4 e5 e4' e5'
  have HW := Lib.hid (fun wx (hb : Below w.heap.size w wx) => sEqualInts_any _ _ wa wb _ _ wx (h4.below hb) (g4.below hb) (by omega) (by omega))
  have HK := Lib.hid (fun wx (hb : Below w.heap.size w wx) => sEqualInts_any _ _ ka kb _ _ wx (h5.below hb) (g5.below hb) (by omega) (by omega))
  have B0 : ∀ o1 o2, Below w.heap.size w ((w.alloc o1).alloc o2) := fun o1 o2 => ((Below.refl w.heap.size w).alloc (Nat.le_refl _) o1).alloc (by simp) o2
  have H2 := Lib.hid (fun w1 o1 o2 bb => two_boxes (w := w) (w1 := w1) (o1 := o1) (o2 := o2) bb)
  have HR := Lib.hid hr
  clear h4 h5 g4 g5 f4 f5 f4' f5' hr
  cases x0 : decide (pa = pb) with
  | false =>
    have t0 : (pa == pb) = false := by simpa using x0
    obtain rfl : r = false := by rw [← HR.out]; unfold eqRules; dsimp only; rw [x0]; rfl
    clear x0
    go_enter Try.func48, Try.ntmps48
    go_wp2_with fail
    go_wp2_with fail
    go_ret
    exact ⟨rfl, B0 _ _⟩
  | true =>
    have t0 : (pa == pb) = true := by simpa using x0
    cases x1 : decide (ea = eb) with
    | false =>
      have t1 : (ea == eb) = false := by simpa using x1
      obtain rfl : r = false := by rw [← HR.out]; unfold eqRules; dsimp only; rw [x0, x1]; rfl
      clear x0 x1
      go_enter Try.func48, Try.ntmps48
      go_wp2_with fail
      go_wp2_with fail
      go_ret
      exact ⟨rfl, B0 _ _⟩
    | true =>
      have t1 : (ea == eb) = true := by simpa using x1
      cases x2 : (sa == sb) with
      | false =>
        have t2 := x2
        obtain rfl : r = false := by rw [← HR.out]; unfold eqRules; dsimp only; rw [x0, x1, x2]; rfl
        clear x0 x1 x2
        go_enter Try.func48, Try.ntmps48
        go_wp2_with fail
        go_wp2_with fail
        go_ret
        exact ⟨rfl, B0 _ _⟩
      | true =>
        have t2 := x2
        cases x3 : (ra == rb) with
        | false =>
          have t3 := x3
          obtain rfl : r = false := by rw [← HR.out]; unfold eqRules; dsimp only; rw [x0, x1, x2, x3]; rfl
          clear x0 x1 x2 x3
          go_enter Try.func48, Try.ntmps48
          go_wp2_with fail
          go_wp2_with fail
          go_ret
          exact ⟨rfl, B0 _ _⟩
        | true =>
          have t3 := x3
          cases x4 : decide (wa = wb) with
          | false =>
            rw [x4] at HW
            obtain rfl : r = false := by rw [← HR.out]; unfold eqRules; dsimp only; rw [x0, x1, x2, x3, x4]; rfl
            clear x0 x1 x2 x3 x4
            go_enter Try.func48, Try.ntmps48
            go_wp2_with fail
            refine (HW.out _ (B0 _ _)).mono ?_
            rintro e w1 ⟨rfl, bb⟩
            obtain ⟨B1, G1, G2⟩ := H2.out _ _ _ bb
            go_wp2_with fail
            go_ret
            exact ⟨rfl, B1⟩
          | true =>
            rw [x4] at HW
            cases x5 : decide (ka = kb) with
            | false =>
              rw [x5] at HK
              obtain rfl : r = false := by rw [← HR.out]; unfold eqRules; dsimp only; rw [x0, x1, x2, x3, x4, x5]; rfl
              clear x0 x1 x2 x3 x4 x5
              go_enter Try.func48, Try.ntmps48
              go_wp2_with fail
              refine (HW.out _ (B0 _ _)).mono ?_
              rintro e w1 ⟨rfl, bb⟩
              obtain ⟨B1, G1, G2⟩ := H2.out _ _ _ bb
              have G1s := (Array.getElem?_eq_some_iff.1 G1).1
              have G2s := (Array.getElem?_eq_some_iff.1 G2).1
              obtain ⟨a0, a1, a2, a3, a4, a5, a6, a7⟩ := SRules_cells G1
              obtain ⟨y0, y1, y2, y3, y4, y5, y6, y7⟩ := SRules_cells G2
              have HG1 := Lib.hid G1
              have HG2 := Lib.hid G2
              clear bb G1 G2
              go_wp2_with fail
              refine (HK.out _ B1).mono ?_
              rintro e w2 ⟨rfl, bb⟩
              have B2 := B1.trans (bb.mono B1.size)
              go_wp2_with fail
              go_ret
              exact ⟨rfl, B2⟩
            | true =>
              rw [x5] at HK
              cases x6 : decide (ta = tb) with
              | false =>
                have t6 : (ta == tb) = false := by simpa using x6
                obtain rfl : r = false := by rw [← HR.out]; unfold eqRules; dsimp only; rw [x0, x1, x2, x3, x4, x5, x6]; rfl
                clear x0 x1 x2 x3 x4 x5 x6
                go_enter Try.func48, Try.ntmps48
                go_wp2_with fail
                refine (HW.out _ (B0 _ _)).mono ?_
                rintro e w1 ⟨rfl, bb⟩
                obtain ⟨B1, G1, G2⟩ := H2.out _ _ _ bb
                have G1s := (Array.getElem?_eq_some_iff.1 G1).1
                have G2s := (Array.getElem?_eq_some_iff.1 G2).1
                obtain ⟨a0, a1, a2, a3, a4, a5, a6, a7⟩ := SRules_cells G1
                obtain ⟨y0, y1, y2, y3, y4, y5, y6, y7⟩ := SRules_cells G2
                have HG1 := Lib.hid G1
                have HG2 := Lib.hid G2
                clear bb G1 G2
                go_wp2_with fail
                refine (HK.out _ B1).mono ?_
                rintro e w2 ⟨rfl, bb⟩
                have B2 := B1.trans (bb.mono B1.size)
                clear a0 y0 a1 y1 a2 y2 a3 y3 a4 y4 a5 y5 a6 y6 a7 y7
                obtain ⟨a0, a1, a2, a3, a4, a5, a6, a7⟩ := SRules_cells ((bb.block _ G1s).trans HG1.out)
                obtain ⟨y0, y1, y2, y3, y4, y5, y6, y7⟩ := SRules_cells ((bb.block _ G2s).trans HG2.out)
                go_wp2_with fail
                go_ret
                exact ⟨rfl, B2⟩
              | true =>
                have t6 : (ta == tb) = true := by simpa using x6
                cases x7 : decide (la = lb) with
                | false =>
                  have t7 : (la == lb) = false := by simpa using x7
                  obtain rfl : r = false := by rw [← HR.out]; unfold eqRules; dsimp only; rw [x0, x1, x2, x3, x4, x5, x6, x7]; rfl
                  clear x0 x1 x2 x3 x4 x5 x6 x7
                  go_enter Try.func48, Try.ntmps48
                  go_wp2_with fail
                  refine (HW.out _ (B0 _ _)).mono ?_
                  rintro e w1 ⟨rfl, bb⟩
                  obtain ⟨B1, G1, G2⟩ := H2.out _ _ _ bb
                  have G1s := (Array.getElem?_eq_some_iff.1 G1).1
                  have G2s := (Array.getElem?_eq_some_iff.1 G2).1
                  obtain ⟨a0, a1, a2, a3, a4, a5, a6, a7⟩ := SRules_cells G1
                  obtain ⟨y0, y1, y2, y3, y4, y5, y6, y7⟩ := SRules_cells G2
                  have HG1 := Lib.hid G1
                  have HG2 := Lib.hid G2
                  clear bb G1 G2
                  go_wp2_with fail
                  refine (HK.out _ B1).mono ?_
                  rintro e w2 ⟨rfl, bb⟩
                  have B2 := B1.trans (bb.mono B1.size)
                  clear a0 y0 a1 y1 a2 y2 a3 y3 a4 y4 a5 y5 a6 y6 a7 y7
                  obtain ⟨a0, a1, a2, a3, a4, a5, a6, a7⟩ := SRules_cells ((bb.block _ G1s).trans HG1.out)
                  obtain ⟨y0, y1, y2, y3, y4, y5, y6, y7⟩ := SRules_cells ((bb.block _ G2s).trans HG2.out)
                  go_wp2_with fail
                  go_ret
                  exact ⟨rfl, B2⟩
                | true =>
                  have t7 : (la == lb) = true := by simpa using x7
                  obtain rfl : r = true := by rw [← HR.out]; unfold eqRules; dsimp only; rw [x0, x1, x2, x3, x4, x5, x6, x7]; rfl
                  clear x0 x1 x2 x3 x4 x5 x6 x7
                  go_enter Try.func48, Try.ntmps48
                  go_wp2_with fail
                  refine (HW.out _ (B0 _ _)).mono ?_
                  rintro e w1 ⟨rfl, bb⟩
                  obtain ⟨B1, G1, G2⟩ := H2.out _ _ _ bb
                  have G1s := (Array.getElem?_eq_some_iff.1 G1).1
                  have G2s := (Array.getElem?_eq_some_iff.1 G2).1
                  obtain ⟨a0, a1, a2, a3, a4, a5, a6, a7⟩ := SRules_cells G1
                  obtain ⟨y0, y1, y2, y3, y4, y5, y6, y7⟩ := SRules_cells G2
                  have HG1 := Lib.hid G1
                  have HG2 := Lib.hid G2
                  clear bb G1 G2
                  go_wp2_with fail
                  refine (HK.out _ B1).mono ?_
                  rintro e w2 ⟨rfl, bb⟩
                  have B2 := B1.trans (bb.mono B1.size)
                  clear a0 y0 a1 y1 a2 y2 a3 y3 a4 y4 a5 y5 a6 y6 a7 y7
                  obtain ⟨a0, a1, a2, a3, a4, a5, a6, a7⟩ := SRules_cells ((bb.block _ G1s).trans HG1.out)
                  obtain ⟨y0, y1, y2, y3, y4, y5, y6, y7⟩ := SRules_cells ((bb.block _ G2s).trans HG2.out)
                  go_wp2_with fail
                  go_ret
                  exact ⟨rfl, B2⟩
set_option maxRecDepth 100000 in
set_option maxHeartbeats 2000000 in
theorem equalRules_any (va vb : Value) (A B : MRules) (w : World) (h : RdRules w va A) (h' : RdRules w vb B) (hf : A.Few) (hf' : B.Few) (r : Bool) (hr : eqRules A B = r) :
    Calls Try.prog 49 #[va, vb] w fun e w' => e = .returned (.bool r) ∧ Below w.heap.size w w' := by
  obtain ⟨pa, ea, sa, ra, wa, ka, ta, la⟩ := A
  obtain ⟨pb, eb, sb, rb, wb, kb, tb, lb⟩ := B
  obtain ⟨v4, v5, b4, b5, rfl, h4, h5, -, -, -, -⟩ := h
  obtain ⟨u4, u5, d4, d5, rfl, g4, g5, -, -, -, -⟩ := h'
  obtain ⟨f4, f5⟩ := hf
  obtain ⟨f4', f5'⟩ := hf'
  dsimp only at *
  obtain ⟨p4, c4, e4, -⟩ := id h4
  obtain ⟨p5, c5, e5, -⟩ := id h5
  obtain ⟨q4, k4, e4', -⟩ := id g4
  obtain ⟨q5, k5, e5', -⟩ := id g5
  subst e4 e5 e4' e5'
  have HW := Lib.hid (fun wx (hb : Below w.heap.size w wx) => equalInts_any _ _ wa wb _ _ wx (h4.below hb) (g4.below hb) (by omega) (by omega))
  have HK := Lib.hid (fun wx (hb : Below w.heap.size w wx) => equalInts_any _ _ ka kb _ _ wx (h5.below hb) (g5.below hb) (by omega) (by omega))
  have B0 : ∀ o1 o2, Below w.heap.size w ((w.alloc o1).alloc o2) := fun o1 o2 => ((Below.refl w.heap.size w).alloc (Nat.le_refl _) o1).alloc (by simp) o2
  have H2 := Lib.hid (fun w1 o1 o2 bb => two_boxes (w := w) (w1 := w1) (o1 := o1) (o2 := o2) bb)
  have HR := Lib.hid hr
  clear h4 h5 g4 g5 f4 f5 f4' f5' hr
  cases x0 : decide (pa = pb) with
  | false =>
    have t0 : (pa == pb) = false := by simpa using x0
    obtain rfl : r = false := by rw [← HR.out]; unfold eqRules; dsimp only; rw [x0]; rfl
    clear x0
    go_enter Try.func49, Try.ntmps49
    go_wp2_with fail
    go_wp2_with fail
    go_ret
    exact ⟨rfl, B0 _ _⟩
  | true =>
    have t0 : (pa == pb) = true := by simpa using x0
    cases x1 : decide (ea = eb) with
    | false =>
      have t1 : (ea == eb) = false := by simpa using x1
      obtain rfl : r = false := by rw [← HR.out]; unfold eqRules; dsimp only; rw [x0, x1]; rfl
      clear x0 x1
      go_enter Try.func49, Try.ntmps49
      go_wp2_with fail
      go_wp2_with fail
      go_ret
      exact ⟨rfl, B0 _ _⟩
    | true =>
      have t1 : (ea == eb) = true := by simpa using x1
      cases x2 : (sa == sb) with
      | false =>
        have t2 := x2
        obtain rfl : r = false := by rw [← HR.out]; unfold eqRules; dsimp only; rw [x0, x1, x2]; rfl
        clear x0 x1 x2
        go_enter Try.func49, Try.ntmps49
        go_wp2_with fail
        go_wp2_with fail
        go_ret
        exact ⟨rfl, B0 _ _⟩
      | true =>
        have t2 := x2
        cases x3 : (ra == rb) with
        | false =>
          have t3 := x3
          obtain rfl : r = false := by rw [← HR.out]; unfold eqRules; dsimp only; rw [x0, x1, x2, x3]; rfl
          clear x0 x1 x2 x3
          go_enter Try.func49, Try.ntmps49
          go_wp2_with fail
          go_wp2_with fail
          go_ret
          exact ⟨rfl, B0 _ _⟩
        | true =>
          have t3 := x3
          cases x4 : decide (wa = wb) with
          | false =>
            rw [x4] at HW
            obtain rfl : r = false := by rw [← HR.out]; unfold eqRules; dsimp only; rw [x0, x1, x2, x3, x4]; rfl
            clear x0 x1 x2 x3 x4
            go_enter Try.func49, Try.ntmps49
            go_wp2_with fail
            refine (HW.out _ (B0 _ _)).mono ?_
            rintro e w1 ⟨rfl, bb⟩
            obtain ⟨B1, G1, G2⟩ := H2.out _ _ _ bb
            go_wp2_with fail
            go_ret
            exact ⟨rfl, B1⟩
          | true =>
            rw [x4] at HW
            cases x5 : decide (ka = kb) with
            | false =>
              rw [x5] at HK
              obtain rfl : r = false := by rw [← HR.out]; unfold eqRules; dsimp only; rw [x0, x1, x2, x3, x4, x5]; rfl
              clear x0 x1 x2 x3 x4 x5
              go_enter Try.func49, Try.ntmps49
              go_wp2_with fail
              refine (HW.out _ (B0 _ _)).mono ?_
              rintro e w1 ⟨rfl, bb⟩
              obtain ⟨B1, G1, G2⟩ := H2.out _ _ _ bb
              have G1s := (Array.getElem?_eq_some_iff.1 G1).1
              have G2s := (Array.getElem?_eq_some_iff.1 G2).1
              obtain ⟨a0, a1, a2, a3, a4, a5, a6, a7⟩ := SRules_cells G1
              obtain ⟨y0, y1, y2, y3, y4, y5, y6, y7⟩ := SRules_cells G2
              have HG1 := Lib.hid G1
              have HG2 := Lib.hid G2
              clear bb G1 G2
              go_wp2_with fail
              refine (HK.out _ B1).mono ?_
              rintro e w2 ⟨rfl, bb⟩
              have B2 := B1.trans (bb.mono B1.size)
              go_wp2_with fail
              go_ret
              exact ⟨rfl, B2⟩
            | true =>
              rw [x5] at HK
              cases x6 : decide (ta = tb) with
              | false =>
                have t6 : (ta == tb) = false := by simpa using x6
                obtain rfl : r = false := by rw [← HR.out]; unfold eqRules; dsimp only; rw [x0, x1, x2, x3, x4, x5, x6]; rfl
                clear x0 x1 x2 x3 x4 x5 x6
                go_enter Try.func49, Try.ntmps49
                go_wp2_with fail
                refine (HW.out _ (B0 _ _)).mono ?_
                rintro e w1 ⟨rfl, bb⟩
                obtain ⟨B1, G1, G2⟩ := H2.out _ _ _ bb
                have G1s := (Array.getElem?_eq_some_iff.1 G1).1
                have G2s := (Array.getElem?_eq_some_iff.1 G2).1
                obtain ⟨a0, a1, a2, a3, a4, a5, a6, a7⟩ := SRules_cells G1
                obtain ⟨y0, y1, y2, y3, y4, y5, y6, y7⟩ := SRules_cells G2
                have HG1 := Lib.hid G1
                have HG2 := Lib.hid G2
                clear bb G1 G2
                go_wp2_with fail
                refine (HK.out _ B1).mono ?_
                rintro e w2 ⟨rfl, bb⟩
                have B2 := B1.trans (bb.mono B1.size)
                clear a0 y0 a1 y1 a2 y2 a3 y3 a4 y4 a5 y5 a6 y6 a7 y7
                obtain ⟨a0, a1, a2, a3, a4, a5, a6, a7⟩ := SRules_cells ((bb.block _ G1s).trans HG1.out)
                obtain ⟨y0, y1, y2, y3, y4, y5, y6, y7⟩ := SRules_cells ((bb.block _ G2s).trans HG2.out)
                go_wp2_with fail
                go_ret
                exact ⟨rfl, B2⟩
              | true =>
                have t6 : (ta == tb) = true := by simpa using x6
                cases x7 : decide (la = lb) with
                | false =>
                  have t7 : (la == lb) = false := by simpa using x7
                  obtain rfl : r = false := by rw [← HR.out]; unfold eqRules; dsimp only; rw [x0, x1, x2, x3, x4, x5, x6, x7]; rfl
                  clear x0 x1 x2 x3 x4 x5 x6 x7
                  go_enter Try.func49, Try.ntmps49
                  go_wp2_with fail
                  refine (HW.out _ (B0 _ _)).mono ?_
                  rintro e w1 ⟨rfl, bb⟩
                  obtain ⟨B1, G1, G2⟩ := H2.out _ _ _ bb
                  have G1s := (Array.getElem?_eq_some_iff.1 G1).1
                  have G2s := (Array.getElem?_eq_some_iff.1 G2).1
                  obtain ⟨a0, a1, a2, a3, a4, a5, a6, a7⟩ := SRules_cells G1
                  obtain ⟨y0, y1, y2, y3, y4, y5, y6, y7⟩ := SRules_cells G2
                  have HG1 := Lib.hid G1
                  have HG2 := Lib.hid G2
                  clear bb G1 G2
                  go_wp2_with fail
                  refine (HK.out _ B1).mono ?_
                  rintro e w2 ⟨rfl, bb⟩
                  have B2 := B1.trans (bb.mono B1.size)
                  clear a0 y0 a1 y1 a2 y2 a3 y3 a4 y4 a5 y5 a6 y6 a7 y7
                  obtain ⟨a0, a1, a2, a3, a4, a5, a6, a7⟩ := SRules_cells ((bb.block _ G1s).trans HG1.out)
                  obtain ⟨y0, y1, y2, y3, y4, y5, y6, y7⟩ := SRules_cells ((bb.block _ G2s).trans HG2.out)
                  go_wp2_with fail
                  go_ret
                  exact ⟨rfl, B2⟩
                | true =>
                  have t7 : (la == lb) = true := by simpa using x7
                  obtain rfl : r = true := by rw [← HR.out]; unfold eqRules; dsimp only; rw [x0, x1, x2, x3, x4, x5, x6, x7]; rfl
                  clear x0 x1 x2 x3 x4 x5 x6 x7
                  go_enter Try.func49, Try.ntmps49
                  go_wp2_with fail
                  refine (HW.out _ (B0 _ _)).mono ?_
                  rintro e w1 ⟨rfl, bb⟩
                  obtain ⟨B1, G1, G2⟩ := H2.out _ _ _ bb
                  have G1s := (Array.getElem?_eq_some_iff.1 G1).1
                  have G2s := (Array.getElem?_eq_some_iff.1 G2).1
                  obtain ⟨a0, a1, a2, a3, a4, a5, a6, a7⟩ := SRules_cells G1
                  obtain ⟨y0, y1, y2, y3, y4, y5, y6, y7⟩ := SRules_cells G2
                  have HG1 := Lib.hid G1
                  have HG2 := Lib.hid G2
                  clear bb G1 G2
                  go_wp2_with fail
                  refine (HK.out _ B1).mono ?_
                  rintro e w2 ⟨rfl, bb⟩
                  have B2 := B1.trans (bb.mono B1.size)
                  clear a0 y0 a1 y1 a2 y2 a3 y3 a4 y4 a5 y5 a6 y6 a7 y7
                  obtain ⟨a0, a1, a2, a3, a4, a5, a6, a7⟩ := SRules_cells ((bb.block _ G1s).trans HG1.out)
                  obtain ⟨y0, y1, y2, y3, y4, y5, y6, y7⟩ := SRules_cells ((bb.block _ G2s).trans HG2.out)
                  go_wp2_with fail
                  go_ret
                  exact ⟨rfl, B2⟩
end Go.Proofs.Ythmbfkgahkihfaa
