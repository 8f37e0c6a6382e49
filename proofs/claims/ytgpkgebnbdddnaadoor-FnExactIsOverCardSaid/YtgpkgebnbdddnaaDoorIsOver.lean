/-
  IsOver, both sides.
-/
import Derived.Test.YtgpkgebnbdddnaaDoorIsDealS
import Derived.Test.YtgpkgebnbdddnaaDoorTotal
namespace Go.Proofs.YtgpkgebnbdddnaaDoor
open Go.RowKit

def isOver (D : MDeal) : Bool := isDeal D && (decide (sumLen D.hands = 0) && decide (D.trick.length = 0))
set_option linter.unusedVariables false in
set_option maxRecDepth 100000 in
set_option maxHeartbeats 1000000 in
theorem sIsOver_any (v : Value) (D : MDeal) (w : World) (h : RdDeal w v D) (hf : D.Few) (r : Bool) (hr : isOver D = r) :
    Calls Tryd.prog 49 #[v] w fun e w' => e = .returned (.bool r) ∧ Below w.heap.size w w' := by
  have hD := h
  obtain ⟨v0, v3, v4, v5, b3, b4, b5, rfl, h0, h3, h4, h5, wf1, wf2, wf6⟩ := h
  obtain ⟨p0, c0, e0, -⟩ := id h0
  obtain ⟨p3, c3, e3, -⟩ := id h3
  subst e0 e3
  have B0 := fun o => (Below.refl w.heap.size w).alloc (Nat.le_refl _) o
  have HI := Lib.hid (fun W (hW : Below w.heap.size w W) => sIsDeal_any _ D W (hD.below hW) hf)
  have HT := Lib.hid (fun W (hW : Below w.heap.size w W) => sTotalCards_any _ _ W (h0.below hW) hf.1 hf.2.1)
  obtain ⟨W0, hW0⟩ : ∃ W0, w.alloc (.cells #[.slice p0 D.hands.length c0, .int .i64 D.leader, .int .i64 D.trump, .slice p3 D.trick.length c3, v4, v5, .int .i64 D.left] 50) = W0 := ⟨_, rfl⟩
  have hb0 : W0.heap[w.heap.size]? = some (.cells #[.slice p0 D.hands.length c0, .int .i64 D.leader, .int .i64 D.trump, .slice p3 D.trick.length c3, v4, v5, .int .i64 D.left] 50 (0, 0)) := by rw [← hW0]; exact heap_alloc_new w _
  have hB0 : Below w.heap.size w W0 := by rw [← hW0]; exact B0 _
  have Hb0 := Lib.hid hb0
  obtain ⟨y0, y1, y2, y3, y4, y5, y6⟩ := SDeal_cells hb0
  have hlt0 := (Array.getElem?_eq_some_iff.1 hb0).1
  have Hr := Lib.hid hr
  have bS := hf.2.1
  have bT := hf.2.2.1
  have HV : Hid (isOver D = (isDeal D && (decide (sumLen D.hands = 0) && decide (D.trick.length = 0)))) := Lib.hid rfl
  clear hr hb0 h0 h3 h4 h5 hD
  obtain ⟨S, hSs⟩ : ∃ S, sumLen D.hands = S := ⟨_, rfl⟩
  obtain ⟨m, hm⟩ : ∃ m, D.trick.length = m := ⟨_, rfl⟩
  rw [hSs] at HT HV bS
  rw [hm] at HI Hb0 HV bT y3 hW0
  rw [hm]
  cases hd : isDeal D with
  | false =>
    rw [hd] at HV
    have HI2 := Lib.hid (HI.out W0 hB0 false hd)
    clear hd
    go_enter Tryd.func49, Tryd.ntmps49
    go_wp2_with fail
    refine HI2.out.mono ?_
    rintro e W1 ⟨rfl, hB1⟩
    go_wp2_with fail
    go_ret
    exact ⟨by rw [← Hr.out, HV.out]; rfl, hB0.trans (hB1.mono hB0.size)⟩
  | true =>
    rw [hd] at HV
    have HI2 := Lib.hid (HI.out W0 hB0 true hd)
    clear hd
    by_cases hs : S = 0
    · subst hs
      by_cases hz : m = 0
      · subst hz
        go_enter Tryd.func49, Tryd.ntmps49
        go_wp2_with fail
        refine HI2.out.mono ?_
        rintro e W1 ⟨rfl, hB1⟩
        have hBw1 := hB0.trans (hB1.mono hB0.size)
        clear y0 y1 y2 y3 y4 y5 y6
        obtain ⟨z0, z1, z2, z3, z4, z5, z6⟩ := SDeal_cells ((hB1.block _ hlt0).trans Hb0.out)
        go_wp2_with fail
        refine (HT.out W1 hBw1).mono ?_
        rintro e _w ⟨rfl, rfl⟩
        go_wp2_with fail
        go_ret
        exact ⟨by rw [← Hr.out, HV.out]; simp [], hBw1⟩
      · have hz2 : ¬ ((m : Int) = 0) := by omega
        go_enter Tryd.func49, Tryd.ntmps49
        go_wp2_with fail
        refine HI2.out.mono ?_
        rintro e W1 ⟨rfl, hB1⟩
        have hBw1 := hB0.trans (hB1.mono hB0.size)
        clear y0 y1 y2 y3 y4 y5 y6
        obtain ⟨z0, z1, z2, z3, z4, z5, z6⟩ := SDeal_cells ((hB1.block _ hlt0).trans Hb0.out)
        go_wp2_with fail
        refine (HT.out W1 hBw1).mono ?_
        rintro e _w ⟨rfl, rfl⟩
        go_wp2_with fail
        go_ret
        exact ⟨by rw [← Hr.out, HV.out]; simp [hz], hBw1⟩
    · have hs2 : ¬ ((S : Int) = 0) := by omega
      go_enter Tryd.func49, Tryd.ntmps49
      go_wp2_with fail
      refine HI2.out.mono ?_
      rintro e W1 ⟨rfl, hB1⟩
      have hBw1 := hB0.trans (hB1.mono hB0.size)
      clear y0 y1 y2 y3 y4 y5 y6
      obtain ⟨z0, z1, z2, z3, z4, z5, z6⟩ := SDeal_cells ((hB1.block _ hlt0).trans Hb0.out)
      go_wp2_with fail
      refine (HT.out W1 hBw1).mono ?_
      rintro e _w ⟨rfl, rfl⟩
      go_wp2_with fail
      go_ret
      exact ⟨by rw [← Hr.out, HV.out]; simp [hs], hBw1⟩
set_option linter.unusedVariables false in
set_option maxRecDepth 100000 in
set_option maxHeartbeats 1000000 in
theorem isOver_any (a0 a1 : Addr) (v : Value) (D : MDeal) (w : World) (h : RdDeal w v D) (hf : D.Few) (hS : Sent a0 a1 w) (r : Bool) (hr : isOver D = r) :
    Calls Tryd.prog 51 #[v] w fun e w' => e = .returned (.bool r) ∧ Below w.heap.size w w' := by
  have hD := h
  obtain ⟨v0, v3, v4, v5, b3, b4, b5, rfl, h0, h3, h4, h5, wf1, wf2, wf6⟩ := h
  obtain ⟨p0, c0, e0, -⟩ := id h0
  obtain ⟨p3, c3, e3, -⟩ := id h3
  subst e0 e3
  have B0 := fun o => (Below.refl w.heap.size w).alloc (Nat.le_refl _) o
  have HI := Lib.hid (fun W (hW : Below w.heap.size w W) => isDeal_any a0 a1 _ D W (hD.below hW) hf (hS.below hW (Nat.le_refl _)))
  have HT := Lib.hid (fun W (hW : Below w.heap.size w W) => totalCards_any _ _ W (h0.below hW) hf.1 hf.2.1)
  obtain ⟨W0, hW0⟩ : ∃ W0, w.alloc (.cells #[.slice p0 D.hands.length c0, .int .i64 D.leader, .int .i64 D.trump, .slice p3 D.trick.length c3, v4, v5, .int .i64 D.left] 50) = W0 := ⟨_, rfl⟩
  have hb0 : W0.heap[w.heap.size]? = some (.cells #[.slice p0 D.hands.length c0, .int .i64 D.leader, .int .i64 D.trump, .slice p3 D.trick.length c3, v4, v5, .int .i64 D.left] 50 (0, 0)) := by rw [← hW0]; exact heap_alloc_new w _
  have hB0 : Below w.heap.size w W0 := by rw [← hW0]; exact B0 _
  have Hb0 := Lib.hid hb0
  obtain ⟨y0, y1, y2, y3, y4, y5, y6⟩ := SDeal_cells hb0
  have hlt0 := (Array.getElem?_eq_some_iff.1 hb0).1
  have Hr := Lib.hid hr
  have bS := hf.2.1
  have bT := hf.2.2.1
  have HV : Hid (isOver D = (isDeal D && (decide (sumLen D.hands = 0) && decide (D.trick.length = 0)))) := Lib.hid rfl
  clear hr hb0 h0 h3 h4 h5 hD
  obtain ⟨S, hSs⟩ : ∃ S, sumLen D.hands = S := ⟨_, rfl⟩
  obtain ⟨m, hm⟩ : ∃ m, D.trick.length = m := ⟨_, rfl⟩
  rw [hSs] at HT HV bS
  rw [hm] at HI Hb0 HV bT y3 hW0
  rw [hm]
  cases hd : isDeal D with
  | false =>
    rw [hd] at HV
    have HI2 := Lib.hid (HI.out W0 hB0 false hd)
    clear hd
    go_enter Tryd.func51, Tryd.ntmps51
    go_wp2_with fail
    refine HI2.out.mono ?_
    rintro e W1 ⟨rfl, hB1⟩
    go_wp2_with fail
    go_ret
    exact ⟨by rw [← Hr.out, HV.out]; rfl, hB0.trans (hB1.mono hB0.size)⟩
  | true =>
    rw [hd] at HV
    have HI2 := Lib.hid (HI.out W0 hB0 true hd)
    clear hd
    by_cases hs : S = 0
    · subst hs
      by_cases hz : m = 0
      · subst hz
        go_enter Tryd.func51, Tryd.ntmps51
        go_wp2_with fail
        refine HI2.out.mono ?_
        rintro e W1 ⟨rfl, hB1⟩
        have hBw1 := hB0.trans (hB1.mono hB0.size)
        clear y0 y1 y2 y3 y4 y5 y6
        obtain ⟨z0, z1, z2, z3, z4, z5, z6⟩ := SDeal_cells ((hB1.block _ hlt0).trans Hb0.out)
        go_wp2_with fail
        refine (HT.out W1 hBw1).mono ?_
        rintro e _w ⟨rfl, rfl⟩
        go_wp2_with fail
        go_ret
        exact ⟨by rw [← Hr.out, HV.out]; simp [], hBw1⟩
      · have hz2 : ¬ ((m : Int) = 0) := by omega
        go_enter Tryd.func51, Tryd.ntmps51
        go_wp2_with fail
        refine HI2.out.mono ?_
        rintro e W1 ⟨rfl, hB1⟩
        have hBw1 := hB0.trans (hB1.mono hB0.size)
        clear y0 y1 y2 y3 y4 y5 y6
        obtain ⟨z0, z1, z2, z3, z4, z5, z6⟩ := SDeal_cells ((hB1.block _ hlt0).trans Hb0.out)
        go_wp2_with fail
        refine (HT.out W1 hBw1).mono ?_
        rintro e _w ⟨rfl, rfl⟩
        go_wp2_with fail
        go_ret
        exact ⟨by rw [← Hr.out, HV.out]; simp [hz], hBw1⟩
    · have hs2 : ¬ ((S : Int) = 0) := by omega
      go_enter Tryd.func51, Tryd.ntmps51
      go_wp2_with fail
      refine HI2.out.mono ?_
      rintro e W1 ⟨rfl, hB1⟩
      have hBw1 := hB0.trans (hB1.mono hB0.size)
      clear y0 y1 y2 y3 y4 y5 y6
      obtain ⟨z0, z1, z2, z3, z4, z5, z6⟩ := SDeal_cells ((hB1.block _ hlt0).trans Hb0.out)
      go_wp2_with fail
      refine (HT.out W1 hBw1).mono ?_
      rintro e _w ⟨rfl, rfl⟩
      go_wp2_with fail
      go_ret
      exact ⟨by rw [← Hr.out, HV.out]; simp [hs], hBw1⟩
end Go.Proofs.YtgpkgebnbdddnaaDoor
