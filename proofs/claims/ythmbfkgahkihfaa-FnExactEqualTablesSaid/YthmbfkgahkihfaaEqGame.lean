/-
  EqualGames, both sides.
-/
import Derived.Test.YthmbfkgahkihfaaNGame
import Derived.Test.YthmbfkgahkihfaaRowsEq
import Derived.Test.YthmbfkgahkihfaaEqRules
import Derived.Deep.RegionHeld3
import Derived.BigQuiet
namespace Go.Proofs.Ythmbfkgahkihfaa
open Go.RowKit
set_option linter.unusedVariables false
set_option linter.unusedSimpArgs false

def eqGames (A B : MGame) : Bool := (eqRules A.rules B.rules && (decide (A.hands = B.hands) && (decide (A.stock = B.stock) && (decide (A.heap = B.heap) && ((A.turn == B.turn) && ((A.moves == B.moves) && (A.passes == B.passes)))))))
set_option maxRecDepth 100000 in
set_option maxHeartbeats 4000000 in
theorem eqGames_any (va vb : Value) (A B : MGame) (w : World) (h : RdGame w va A) (h' : RdGame w vb B) (hf : A.Few) (hf' : B.Few) (r : Bool) (hr : eqGames A B = r) :
    Calls Try.prog 22 #[va, vb] w fun e w' => e = .returned (.bool r) ∧ Below w.heap.size w w' := by
  obtain ⟨p4, p5, p8, p9, p10, c4, c5, c8, c9, c10, b9, b10, rfl, h0, h8, h9, h10, -, -, -⟩ := h
  obtain ⟨q4, q5, q8, q9, q10, d4, d5, d8, d9, d10, e9, e10, rfl, g0, g8, g9, g10, -, -, -⟩ := h'
  obtain ⟨f0, f8, fs8, f9, f10⟩ := hf
  obtain ⟨k0, k8, ks8, k9, k10⟩ := hf'
  unfold eqGames at hr
  obtain ⟨t0, ht0⟩ : ∃ t, eqRules A.rules B.rules = t := ⟨_, rfl⟩
  rw [ht0] at hr
  have H0 := Lib.hid (fun wx (hb : Below w.heap.size w wx) => equalRules_any _ _ A.rules B.rules wx (h0.below hb) (g0.below hb) f0 k0 t0 ht0)
  clear ht0
  obtain ⟨t8, ht8⟩ : ∃ t, decide (A.hands = B.hands) = t := ⟨_, rfl⟩
  rw [ht8] at hr
  have H8 := Lib.hid (fun wx (hb : Below w.heap.size w wx) => eqFunc_any _ _ A.hands B.hands wx (h8.below hb) (g8.below hb) f8 k8 fs8 ks8 t8 ht8)
  clear ht8
  obtain ⟨t9, ht9⟩ : ∃ t, decide (A.stock = B.stock) = t := ⟨_, rfl⟩
  rw [ht9] at hr
  have H9 := Lib.hid (fun wx (hb : Below w.heap.size w wx) => equalInts_any _ _ A.stock B.stock _ _ wx (h9.below hb) (g9.below hb) (by omega) (by omega))
  rw [ht9] at H9
  clear ht9
  obtain ⟨t10, ht10⟩ : ∃ t, decide (A.heap = B.heap) = t := ⟨_, rfl⟩
  rw [ht10] at hr
  have H10 := Lib.hid (fun wx (hb : Below w.heap.size w wx) => equalInts_any _ _ A.heap B.heap _ _ wx (h10.below hb) (g10.below hb) (by omega) (by omega))
  rw [ht10] at H10
  clear ht10
  obtain ⟨t11, ht11⟩ : ∃ t, (A.turn == B.turn) = t := ⟨_, rfl⟩
  rw [ht11] at hr
  obtain ⟨t12, ht12⟩ : ∃ t, (A.moves == B.moves) = t := ⟨_, rfl⟩
  rw [ht12] at hr
  obtain ⟨t13, ht13⟩ : ∃ t, (A.passes == B.passes) = t := ⟨_, rfl⟩
  rw [ht13] at hr
  have HR := Lib.hid hr
  clear hr h0 g0 h8 g8 h9 g9 h10 g10
  obtain ⟨W0, hW0⟩ : ∃ W0, W0 = ((w.alloc (.cells #[.int .i64 A.rules.players, .int .i64 A.rules.each, .bool A.rules.sameSuit, .bool A.rules.sameRank, .slice p4 A.rules.wild.length c4, .slice p5 A.rules.skip.length c5, .int .i64 A.rules.take, .int .i64 A.rules.limit, .slice p8 A.hands.length c8, .slice p9 A.stock.length c9, .slice p10 A.heap.length c10, .int .i64 A.turn, .int .i64 A.moves, .int .i64 A.passes] 32)).alloc (.cells #[.int .i64 B.rules.players, .int .i64 B.rules.each, .bool B.rules.sameSuit, .bool B.rules.sameRank, .slice q4 B.rules.wild.length d4, .slice q5 B.rules.skip.length d5, .int .i64 B.rules.take, .int .i64 B.rules.limit, .slice q8 B.hands.length d8, .slice q9 B.stock.length d9, .slice q10 B.heap.length d10, .int .i64 B.turn, .int .i64 B.moves, .int .i64 B.passes] 32)) := ⟨_, rfl⟩
  have B0 : Below w.heap.size w W0 := by rw [hW0]; exact ((Below.refl _ _).alloc (Nat.le_refl _) _).alloc (by simp) _
  have G1 : W0.heap[w.heap.size]? = some (.cells #[.int .i64 A.rules.players, .int .i64 A.rules.each, .bool A.rules.sameSuit, .bool A.rules.sameRank, .slice p4 A.rules.wild.length c4, .slice p5 A.rules.skip.length c5, .int .i64 A.rules.take, .int .i64 A.rules.limit, .slice p8 A.hands.length c8, .slice p9 A.stock.length c9, .slice p10 A.heap.length c10, .int .i64 A.turn, .int .i64 A.moves, .int .i64 A.passes] 32 (0, 0)) := by
    rw [hW0]; show ((w.heap.push _).push _)[_]? = _
    rw [Array.getElem?_push, if_neg (by simp), Array.getElem?_push, if_pos rfl]
  have G2 : W0.heap[w.heap.size + 1]? = some (.cells #[.int .i64 B.rules.players, .int .i64 B.rules.each, .bool B.rules.sameSuit, .bool B.rules.sameRank, .slice q4 B.rules.wild.length d4, .slice q5 B.rules.skip.length d5, .int .i64 B.rules.take, .int .i64 B.rules.limit, .slice q8 B.hands.length d8, .slice q9 B.stock.length d9, .slice q10 B.heap.length d10, .int .i64 B.turn, .int .i64 B.moves, .int .i64 B.passes] 32 (0, 0)) := by
    rw [hW0]; show ((w.heap.push _).push _)[_]? = _
    rw [Array.getElem?_push, if_pos (by simp)]
  have hS0 : w.heap.size + 2 ≤ W0.heap.size := by rw [hW0]; simp
  have HW := Lib.hid hW0
  clear hW0
  go_enter Try.func22, Try.ntmps22
  go_wp2_with fail
  rw [← HW.out]
  refine (H0.out _ B0).mono ?_
  rintro e w0 ⟨rfl, bb⟩
  have B0 := B0.trans (bb.mono B0.size)
  replace G1 := (bb.block _ (by omega)).trans G1
  replace G2 := (bb.block _ (by omega)).trans G2
  replace hS0 := Nat.le_trans hS0 bb.size
  clear bb
  have a0 := box_cell G1 0
  have b0 := box_cell G2 0
  have a1 := box_cell G1 1
  have b1 := box_cell G2 1
  have a2 := box_cell G1 2
  have b2 := box_cell G2 2
  have a3 := box_cell G1 3
  have b3 := box_cell G2 3
  have a4 := box_cell G1 4
  have b4 := box_cell G2 4
  have a5 := box_cell G1 5
  have b5 := box_cell G2 5
  have a6 := box_cell G1 6
  have b6 := box_cell G2 6
  have a7 := box_cell G1 7
  have b7 := box_cell G2 7
  have a8 := box_cell G1 8
  have b8 := box_cell G2 8
  have a9 := box_cell G1 9
  have b9 := box_cell G2 9
  have a10 := box_cell G1 10
  have b10 := box_cell G2 10
  have a11 := box_cell G1 11
  have b11 := box_cell G2 11
  have a12 := box_cell G1 12
  have b12 := box_cell G2 12
  have a13 := box_cell G1 13
  have b13 := box_cell G2 13
  simp at a0 b0 a1 b1 a2 b2 a3 b3 a4 b4 a5 b5 a6 b6 a7 b7 a8 b8 a9 b9 a10 b10 a11 b11 a12 b12 a13 b13
  cases t0 with
  | false =>
    obtain rfl : false = r := HR.out
    go_wp2_with fail
    go_ret
    exact ⟨rfl, B0⟩
  | true =>
    go_wp2_with fail
    refine (H8.out _ B0).mono ?_
    rintro e w8 ⟨rfl, bb⟩
    have B8 := B0.trans (bb.mono B0.size)
    replace G1 := (bb.block _ (by omega)).trans G1
    replace G2 := (bb.block _ (by omega)).trans G2
    replace hS0 := Nat.le_trans hS0 bb.size
    clear bb a0 b0 a1 b1 a2 b2 a3 b3 a4 b4 a5 b5 a6 b6 a7 b7 a8 b8 a9 b9 a10 b10 a11 b11 a12 b12 a13 b13
    have a0 := box_cell G1 0
    have b0 := box_cell G2 0
    have a1 := box_cell G1 1
    have b1 := box_cell G2 1
    have a2 := box_cell G1 2
    have b2 := box_cell G2 2
    have a3 := box_cell G1 3
    have b3 := box_cell G2 3
    have a4 := box_cell G1 4
    have b4 := box_cell G2 4
    have a5 := box_cell G1 5
    have b5 := box_cell G2 5
    have a6 := box_cell G1 6
    have b6 := box_cell G2 6
    have a7 := box_cell G1 7
    have b7 := box_cell G2 7
    have a8 := box_cell G1 8
    have b8 := box_cell G2 8
    have a9 := box_cell G1 9
    have b9 := box_cell G2 9
    have a10 := box_cell G1 10
    have b10 := box_cell G2 10
    have a11 := box_cell G1 11
    have b11 := box_cell G2 11
    have a12 := box_cell G1 12
    have b12 := box_cell G2 12
    have a13 := box_cell G1 13
    have b13 := box_cell G2 13
    simp at a0 b0 a1 b1 a2 b2 a3 b3 a4 b4 a5 b5 a6 b6 a7 b7 a8 b8 a9 b9 a10 b10 a11 b11 a12 b12 a13 b13
    cases t8 with
    | false =>
      obtain rfl : false = r := HR.out
      go_wp2_with fail
      go_ret
      exact ⟨rfl, B8⟩
    | true =>
      go_wp2_with fail
      refine (H9.out _ B8).mono ?_
      rintro e w9 ⟨rfl, bb⟩
      have B9 := B8.trans (bb.mono B8.size)
      replace G1 := (bb.block _ (by omega)).trans G1
      replace G2 := (bb.block _ (by omega)).trans G2
      replace hS0 := Nat.le_trans hS0 bb.size
      clear bb a0 b0 a1 b1 a2 b2 a3 b3 a4 b4 a5 b5 a6 b6 a7 b7 a8 b8 a9 b9 a10 b10 a11 b11 a12 b12 a13 b13
      have a0 := box_cell G1 0
      have b0 := box_cell G2 0
      have a1 := box_cell G1 1
      have b1 := box_cell G2 1
      have a2 := box_cell G1 2
      have b2 := box_cell G2 2
      have a3 := box_cell G1 3
      have b3 := box_cell G2 3
      have a4 := box_cell G1 4
      have b4 := box_cell G2 4
      have a5 := box_cell G1 5
      have b5 := box_cell G2 5
      have a6 := box_cell G1 6
      have b6 := box_cell G2 6
      have a7 := box_cell G1 7
      have b7 := box_cell G2 7
      have a8 := box_cell G1 8
      have b8 := box_cell G2 8
      have a9 := box_cell G1 9
      have b9 := box_cell G2 9
      have a10 := box_cell G1 10
      have b10 := box_cell G2 10
      have a11 := box_cell G1 11
      have b11 := box_cell G2 11
      have a12 := box_cell G1 12
      have b12 := box_cell G2 12
      have a13 := box_cell G1 13
      have b13 := box_cell G2 13
      simp at a0 b0 a1 b1 a2 b2 a3 b3 a4 b4 a5 b5 a6 b6 a7 b7 a8 b8 a9 b9 a10 b10 a11 b11 a12 b12 a13 b13
      cases t9 with
      | false =>
        obtain rfl : false = r := HR.out
        go_wp2_with fail
        go_ret
        exact ⟨rfl, B9⟩
      | true =>
        go_wp2_with fail
        refine (H10.out _ B9).mono ?_
        rintro e w10 ⟨rfl, bb⟩
        have B10 := B9.trans (bb.mono B9.size)
        replace G1 := (bb.block _ (by omega)).trans G1
        replace G2 := (bb.block _ (by omega)).trans G2
        replace hS0 := Nat.le_trans hS0 bb.size
        clear bb a0 b0 a1 b1 a2 b2 a3 b3 a4 b4 a5 b5 a6 b6 a7 b7 a8 b8 a9 b9 a10 b10 a11 b11 a12 b12 a13 b13
        have a0 := box_cell G1 0
        have b0 := box_cell G2 0
        have a1 := box_cell G1 1
        have b1 := box_cell G2 1
        have a2 := box_cell G1 2
        have b2 := box_cell G2 2
        have a3 := box_cell G1 3
        have b3 := box_cell G2 3
        have a4 := box_cell G1 4
        have b4 := box_cell G2 4
        have a5 := box_cell G1 5
        have b5 := box_cell G2 5
        have a6 := box_cell G1 6
        have b6 := box_cell G2 6
        have a7 := box_cell G1 7
        have b7 := box_cell G2 7
        have a8 := box_cell G1 8
        have b8 := box_cell G2 8
        have a9 := box_cell G1 9
        have b9 := box_cell G2 9
        have a10 := box_cell G1 10
        have b10 := box_cell G2 10
        have a11 := box_cell G1 11
        have b11 := box_cell G2 11
        have a12 := box_cell G1 12
        have b12 := box_cell G2 12
        have a13 := box_cell G1 13
        have b13 := box_cell G2 13
        simp at a0 b0 a1 b1 a2 b2 a3 b3 a4 b4 a5 b5 a6 b6 a7 b7 a8 b8 a9 b9 a10 b10 a11 b11 a12 b12 a13 b13
        cases t10 with
        | false =>
          obtain rfl : false = r := HR.out
          go_wp2_with fail
          go_ret
          exact ⟨rfl, B10⟩
        | true =>
          cases t11 with
          | false =>
            obtain rfl : false = r := HR.out
            go_wp2_with fail
            go_ret
            exact ⟨rfl, B10⟩
          | true =>
            cases t12 with
            | false =>
              obtain rfl : false = r := HR.out
              go_wp2_with fail
              go_ret
              exact ⟨rfl, B10⟩
            | true =>
              cases t13 with
              | false =>
                obtain rfl : false = r := HR.out
                go_wp2_with fail
                go_ret
                exact ⟨rfl, B10⟩
              | true =>
                obtain rfl : true = r := HR.out
                go_wp2_with fail
                go_ret
                exact ⟨rfl, B10⟩
set_option maxRecDepth 100000 in
set_option maxHeartbeats 4000000 in
theorem sEqualGames_any (va vb : Value) (A B : MGame) (w : World) (h : RdGame w va A) (h' : RdGame w vb B) (hf : A.Few) (hf' : B.Few) (r : Bool) (hr : eqGames A B = r) :
    Calls Try.prog 21 #[va, vb] w fun e w' => e = .returned (.bool r) ∧ Below w.heap.size w w' := by
  obtain ⟨p4, p5, p8, p9, p10, c4, c5, c8, c9, c10, b9, b10, rfl, h0, h8, h9, h10, -, -, -⟩ := h
  obtain ⟨q4, q5, q8, q9, q10, d4, d5, d8, d9, d10, e9, e10, rfl, g0, g8, g9, g10, -, -, -⟩ := h'
  obtain ⟨f0, f8, fs8, f9, f10⟩ := hf
  obtain ⟨k0, k8, ks8, k9, k10⟩ := hf'
  unfold eqGames at hr
  obtain ⟨t0, ht0⟩ : ∃ t, eqRules A.rules B.rules = t := ⟨_, rfl⟩
  rw [ht0] at hr
  have H0 := Lib.hid (fun wx (hb : Below w.heap.size w wx) => sEqualRules_any _ _ A.rules B.rules wx (h0.below hb) (g0.below hb) f0 k0 t0 ht0)
  clear ht0
  obtain ⟨t8, ht8⟩ : ∃ t, decide (A.hands = B.hands) = t := ⟨_, rfl⟩
  rw [ht8] at hr
  have HT8 := Lib.hid ht8
  clear ht8
  have HA := Lib.hid (fun wx (hb : Below w.heap.size w wx) j (hj : j < A.hands.length) => (h8.below hb).row hj)
  have HBr := Lib.hid (fun wx (hb : Below w.heap.size w wx) j (hj : j < B.hands.length) => (g8.below hb).row hj)
  have HsA : Hid (∀ j (hj : j < A.hands.length), A.hands[j].length ≤ 1048576) := Lib.hid (fun j hj => Nat.le_trans (len_le_sum A.hands hj) fs8)
  have HsB : Hid (∀ j (hj : j < B.hands.length), B.hands[j].length ≤ 1048576) := Lib.hid (fun j hj => Nat.le_trans (len_le_sum B.hands hj) ks8)
  obtain ⟨t9, ht9⟩ : ∃ t, decide (A.stock = B.stock) = t := ⟨_, rfl⟩
  rw [ht9] at hr
  have H9 := Lib.hid (fun wx (hb : Below w.heap.size w wx) => sEqualInts_any _ _ A.stock B.stock _ _ wx (h9.below hb) (g9.below hb) (by omega) (by omega))
  rw [ht9] at H9
  clear ht9
  obtain ⟨t10, ht10⟩ : ∃ t, decide (A.heap = B.heap) = t := ⟨_, rfl⟩
  rw [ht10] at hr
  have H10 := Lib.hid (fun wx (hb : Below w.heap.size w wx) => sEqualInts_any _ _ A.heap B.heap _ _ wx (h10.below hb) (g10.below hb) (by omega) (by omega))
  rw [ht10] at H10
  clear ht10
  obtain ⟨t11, ht11⟩ : ∃ t, (A.turn == B.turn) = t := ⟨_, rfl⟩
  rw [ht11] at hr
  obtain ⟨t12, ht12⟩ : ∃ t, (A.moves == B.moves) = t := ⟨_, rfl⟩
  rw [ht12] at hr
  obtain ⟨t13, ht13⟩ : ∃ t, (A.passes == B.passes) = t := ⟨_, rfl⟩
  rw [ht13] at hr
  have HR := Lib.hid hr
  clear hr h0 g0 h8 g8 h9 g9 h10 g10
  obtain ⟨W0, hW0⟩ : ∃ W0, W0 = ((w.alloc (.cells #[.int .i64 A.rules.players, .int .i64 A.rules.each, .bool A.rules.sameSuit, .bool A.rules.sameRank, .slice p4 A.rules.wild.length c4, .slice p5 A.rules.skip.length c5, .int .i64 A.rules.take, .int .i64 A.rules.limit, .slice p8 A.hands.length c8, .slice p9 A.stock.length c9, .slice p10 A.heap.length c10, .int .i64 A.turn, .int .i64 A.moves, .int .i64 A.passes] 32)).alloc (.cells #[.int .i64 B.rules.players, .int .i64 B.rules.each, .bool B.rules.sameSuit, .bool B.rules.sameRank, .slice q4 B.rules.wild.length d4, .slice q5 B.rules.skip.length d5, .int .i64 B.rules.take, .int .i64 B.rules.limit, .slice q8 B.hands.length d8, .slice q9 B.stock.length d9, .slice q10 B.heap.length d10, .int .i64 B.turn, .int .i64 B.moves, .int .i64 B.passes] 32)) := ⟨_, rfl⟩
  have B0 : Below w.heap.size w W0 := by rw [hW0]; exact ((Below.refl _ _).alloc (Nat.le_refl _) _).alloc (by simp) _
  have G1 : W0.heap[w.heap.size]? = some (.cells #[.int .i64 A.rules.players, .int .i64 A.rules.each, .bool A.rules.sameSuit, .bool A.rules.sameRank, .slice p4 A.rules.wild.length c4, .slice p5 A.rules.skip.length c5, .int .i64 A.rules.take, .int .i64 A.rules.limit, .slice p8 A.hands.length c8, .slice p9 A.stock.length c9, .slice p10 A.heap.length c10, .int .i64 A.turn, .int .i64 A.moves, .int .i64 A.passes] 32 (0, 0)) := by
    rw [hW0]; show ((w.heap.push _).push _)[_]? = _
    rw [Array.getElem?_push, if_neg (by simp), Array.getElem?_push, if_pos rfl]
  have G2 : W0.heap[w.heap.size + 1]? = some (.cells #[.int .i64 B.rules.players, .int .i64 B.rules.each, .bool B.rules.sameSuit, .bool B.rules.sameRank, .slice q4 B.rules.wild.length d4, .slice q5 B.rules.skip.length d5, .int .i64 B.rules.take, .int .i64 B.rules.limit, .slice q8 B.hands.length d8, .slice q9 B.stock.length d9, .slice q10 B.heap.length d10, .int .i64 B.turn, .int .i64 B.moves, .int .i64 B.passes] 32 (0, 0)) := by
    rw [hW0]; show ((w.heap.push _).push _)[_]? = _
    rw [Array.getElem?_push, if_pos (by simp)]
  have hS0 : w.heap.size + 2 ≤ W0.heap.size := by rw [hW0]; simp
  have HW := Lib.hid hW0
  clear hW0
  have HR2 : Hid ((t8 && (t0 && (t9 && (t10 && (t11 && (t12 && t13)))))) = r) := Lib.hid (by rw [← HR.out]; cases t0 <;> cases t8 <;> cases t9 <;> cases t10 <;> cases t11 <;> cases t12 <;> cases t13 <;> rfl)
  clear HR
  have HR := HR2
  clear HR2
  have hlA : A.hands.length ≤ 1048576 := f8
  have hlB : B.hands.length ≤ 1048576 := k8
  by_cases hnm : A.hands.length = B.hands.length
  case neg =>
    have hq : ((A.hands.length : Int) != (B.hands.length : Int)) = true := by simp; omega
    obtain rfl : t8 = false := by rw [← HT8.out]; simp only [decide_eq_false_iff_not]; intro e; exact hnm (by rw [e])
    obtain rfl : false = r := HR.out
    clear hnm
    go_enter Try.func21, Try.ntmps21
    go_wp2_with fail
    rw [← HW.out]
    go_wp2_with fail
    go_ret
    exact ⟨rfl, B0⟩
  have Hnm := Lib.hid hnm
  have hq : ((A.hands.length : Int) != (B.hands.length : Int)) = false := by simp; omega
  clear hnm
  go_enter Try.func21, Try.ntmps21
  go_wp2_with fail
  rw [← HW.out]
  go_loopw [5] (fun i wr => ∃ k : Nat, k ≤ A.hands.length ∧ i = .int .i64 k ∧ Below W0.heap.size W0 wr ∧ Hid (∀ j (h1 : j < A.hands.length) (h2 : j < B.hands.length), j < k → A.hands[j] = B.hands[j])) (fun i _ => A.hands.length - (intOf i).toNat)
  case atStart => exact ⟨0, Nat.zero_le _, rfl, Below.refl _ _, Lib.hid (fun j _ _ h => by omega)⟩
  case round =>
    obtain ⟨k, hk, rfl, hB2, hsame⟩ := hrel
    have hBw := B0.trans (hB2.mono B0.size)
    replace G1 := (hB2.block _ (by omega)).trans G1
    replace G2 := (hB2.block _ (by omega)).trans G2
    replace hS0 := Nat.le_trans hS0 hB2.size
    by_cases hlt : k < A.hands.length
    · have zb : k < B.hands.length := by rw [← Hnm.out]; exact hlt
      obtain ⟨blk, off, cap', p', c', b1, hv, hc, hr1, -⟩ := HA.out wr hBw k hlt
      obtain ⟨blk2, off2, cap2', p2', c2', b2, hv2, hc2, hr2, -⟩ := HBr.out wr hBw k zb
      have e1 := (Value.slice.inj hv).1
      have e2 := (Value.slice.inj hv2).1
      clear hv hv2
      subst e1 e2
      have a8 := box_cell G1 8
      have b8 := box_cell G2 8
      simp at a8 b8
      have HE := Lib.hid (fun wx (hb : Below wr.heap.size wr wx) => sEqualInts_any _ _ A.hands[k] B.hands[k] b1 b2 wx (hr1.below hb) (hr2.below hb) (by have := HsA.out k hlt; omega) (by have := HsB.out k zb; omega))
      obtain ⟨x, hx⟩ : ∃ x, x = A.hands[k].length := ⟨_, rfl⟩
      obtain ⟨y, hy⟩ : ∃ y, y = B.hands[k].length := ⟨_, rfl⟩
      rw [← hx] at hc HE
      rw [← hy] at hc2 HE
      have KK : Hid (∀ wx, Below wr.heap.size wr wx → (wx.cell? ⟨w.heap.size, 8, none⟩ = some (.slice (some ⟨blk, off, none⟩) A.hands.length c8) ∧ wx.cell? ⟨w.heap.size + 1, 8, none⟩ = some (.slice (some ⟨blk2, off2, none⟩) B.hands.length d8)) ∧ wx.cell? ⟨blk, off + k, none⟩ = some (.slice p' x c') ∧ wx.cell? ⟨blk2, off2 + k, none⟩ = some (.slice p2' y c2')) := Lib.hid (fun wx hb => ⟨⟨(hb.cell (World.block_lt_of_cell? _ _ a8)).trans a8, (hb.cell (World.block_lt_of_cell? _ _ b8)).trans b8⟩, (hb.cell (World.block_lt_of_cell? _ _ hc)).trans hc, (hb.cell (World.block_lt_of_cell? _ _ hc2)).trans hc2⟩)
      have HBd := Lib.hid hB2
      have i0 : (k : Int) < (A.hands.length : Int) := by omega
      have i1 : (k : Int) < (B.hands.length : Int) := by omega
      clear hr1 hr2 hx hy
      cases hq2 : decide (A.hands[k] = B.hands[k]) with
      | true =>
        have he : A.hands[k] = B.hands[k] := by simpa using hq2
        have hs2 : Hid (∀ j (h1 : j < A.hands.length) (h2 : j < B.hands.length), j < k + 1 → A.hands[j] = B.hands[j]) := Lib.hid (fun j h1 h2 hj => by
          by_cases e : j = k
          · subst e; exact he
          · exact hsame.out j h1 h2 (by omega))
        rw [hq2] at HE
        clear hq2 he hsame hB2
        go_wp2_with fail
        go_region_held3 (fun w' => (w'.cell? ⟨w.heap.size, 8, none⟩ = some (.slice (some ⟨blk, off, none⟩) A.hands.length c8) ∧ w'.cell? ⟨w.heap.size + 1, 8, none⟩ = some (.slice (some ⟨blk2, off2, none⟩) B.hands.length d8)) ∧ w'.cell? ⟨blk, off + k, none⟩ = some (.slice p' x c') ∧ w'.cell? ⟨blk2, off2 + k, none⟩ = some (.slice p2' y c2')) (go_keep) (first
          | (go_at_call 47; refine (HE.out _ (Below.refl _ _).drew).mono ?_; rintro e w2 ⟨rfl, bq⟩; obtain ⟨⟨y1, y2⟩, y3, y4⟩ := KK.out w2 ((Below.refl _ _).drew.trans bq)))
        all_goals
          have hB3 : Below W0.heap.size W0 w2 := HBd.out.drew.trans (bq.mono HBd.out.drew.size)
          clear y1 y2 y3 y4 bq a8 b8 hc hc2
          go_wp2_with fail
          go_roundw
          case rel => exact ⟨k + 1, by omega, by go_num, hB3, hs2⟩
          case measure => simp [intOf]; omega
      | false =>
        have he : A.hands[k] ≠ B.hands[k] := by simpa using hq2
        obtain rfl : t8 = false := by rw [← HT8.out]; simpa using rows_ne_of hlt zb he
        obtain rfl : false = r := HR.out
        rw [hq2] at HE
        clear hq2 he hsame hB2
        go_wp2_with fail
        go_region_held3 (fun w' => (w'.cell? ⟨w.heap.size, 8, none⟩ = some (.slice (some ⟨blk, off, none⟩) A.hands.length c8) ∧ w'.cell? ⟨w.heap.size + 1, 8, none⟩ = some (.slice (some ⟨blk2, off2, none⟩) B.hands.length d8)) ∧ w'.cell? ⟨blk, off + k, none⟩ = some (.slice p' x c') ∧ w'.cell? ⟨blk2, off2 + k, none⟩ = some (.slice p2' y c2')) (go_keep) (first
          | (go_at_call 47; refine (HE.out _ (Below.refl _ _).drew).mono ?_; rintro e w2 ⟨rfl, bq⟩; obtain ⟨⟨y1, y2⟩, y3, y4⟩ := KK.out w2 ((Below.refl _ _).drew.trans bq)))
        all_goals
          have hB3 : Below W0.heap.size W0 w2 := HBd.out.drew.trans (bq.mono HBd.out.drew.size)
          have hB4 := B0.trans (hB3.mono B0.size)
          go_wp2_with fail
          go_ret
          exact ⟨rfl, hB4⟩
    · obtain rfl : k = A.hands.length := by omega
      obtain rfl : t8 = true := by rw [← HT8.out]; simpa using rows_eq_of Hnm.out (fun j h1 h2 => hsame.out j h1 h2 h1)
      clear hsame HA HBr HsA HsB HT8
      have a0 := box_cell G1 0
      have b0 := box_cell G2 0
      have a1 := box_cell G1 1
      have b1 := box_cell G2 1
      have a2 := box_cell G1 2
      have b2 := box_cell G2 2
      have a3 := box_cell G1 3
      have b3 := box_cell G2 3
      have a4 := box_cell G1 4
      have b4 := box_cell G2 4
      have a5 := box_cell G1 5
      have b5 := box_cell G2 5
      have a6 := box_cell G1 6
      have b6 := box_cell G2 6
      have a7 := box_cell G1 7
      have b7 := box_cell G2 7
      have a8 := box_cell G1 8
      have b8 := box_cell G2 8
      have a9 := box_cell G1 9
      have b9 := box_cell G2 9
      have a10 := box_cell G1 10
      have b10 := box_cell G2 10
      have a11 := box_cell G1 11
      have b11 := box_cell G2 11
      have a12 := box_cell G1 12
      have b12 := box_cell G2 12
      have a13 := box_cell G1 13
      have b13 := box_cell G2 13
      simp at a0 b0 a1 b1 a2 b2 a3 b3 a4 b4 a5 b5 a6 b6 a7 b7 a8 b8 a9 b9 a10 b10 a11 b11 a12 b12 a13 b13
      go_wp2_with fail
      refine (H0.out _ hBw).mono ?_
      rintro e w0 ⟨rfl, bb⟩
      have B0 := hBw.trans (bb.mono hBw.size)
      replace G1 := (bb.block _ (by omega)).trans G1
      replace G2 := (bb.block _ (by omega)).trans G2
      replace hS0 := Nat.le_trans hS0 bb.size
      clear bb a0 b0 a1 b1 a2 b2 a3 b3 a4 b4 a5 b5 a6 b6 a7 b7 a8 b8 a9 b9 a10 b10 a11 b11 a12 b12 a13 b13
      have a0 := box_cell G1 0
      have b0 := box_cell G2 0
      have a1 := box_cell G1 1
      have b1 := box_cell G2 1
      have a2 := box_cell G1 2
      have b2 := box_cell G2 2
      have a3 := box_cell G1 3
      have b3 := box_cell G2 3
      have a4 := box_cell G1 4
      have b4 := box_cell G2 4
      have a5 := box_cell G1 5
      have b5 := box_cell G2 5
      have a6 := box_cell G1 6
      have b6 := box_cell G2 6
      have a7 := box_cell G1 7
      have b7 := box_cell G2 7
      have a8 := box_cell G1 8
      have b8 := box_cell G2 8
      have a9 := box_cell G1 9
      have b9 := box_cell G2 9
      have a10 := box_cell G1 10
      have b10 := box_cell G2 10
      have a11 := box_cell G1 11
      have b11 := box_cell G2 11
      have a12 := box_cell G1 12
      have b12 := box_cell G2 12
      have a13 := box_cell G1 13
      have b13 := box_cell G2 13
      simp at a0 b0 a1 b1 a2 b2 a3 b3 a4 b4 a5 b5 a6 b6 a7 b7 a8 b8 a9 b9 a10 b10 a11 b11 a12 b12 a13 b13
      cases t0 with
      | false =>
        obtain rfl : false = r := HR.out
        go_wp2_with fail
        go_ret
        exact ⟨rfl, B0⟩
      | true =>
        go_wp2_with fail
        refine (H9.out _ B0).mono ?_
        rintro e w9 ⟨rfl, bb⟩
        have B9 := B0.trans (bb.mono B0.size)
        replace G1 := (bb.block _ (by omega)).trans G1
        replace G2 := (bb.block _ (by omega)).trans G2
        replace hS0 := Nat.le_trans hS0 bb.size
        clear bb a0 b0 a1 b1 a2 b2 a3 b3 a4 b4 a5 b5 a6 b6 a7 b7 a8 b8 a9 b9 a10 b10 a11 b11 a12 b12 a13 b13
        have a0 := box_cell G1 0
        have b0 := box_cell G2 0
        have a1 := box_cell G1 1
        have b1 := box_cell G2 1
        have a2 := box_cell G1 2
        have b2 := box_cell G2 2
        have a3 := box_cell G1 3
        have b3 := box_cell G2 3
        have a4 := box_cell G1 4
        have b4 := box_cell G2 4
        have a5 := box_cell G1 5
        have b5 := box_cell G2 5
        have a6 := box_cell G1 6
        have b6 := box_cell G2 6
        have a7 := box_cell G1 7
        have b7 := box_cell G2 7
        have a8 := box_cell G1 8
        have b8 := box_cell G2 8
        have a9 := box_cell G1 9
        have b9 := box_cell G2 9
        have a10 := box_cell G1 10
        have b10 := box_cell G2 10
        have a11 := box_cell G1 11
        have b11 := box_cell G2 11
        have a12 := box_cell G1 12
        have b12 := box_cell G2 12
        have a13 := box_cell G1 13
        have b13 := box_cell G2 13
        simp at a0 b0 a1 b1 a2 b2 a3 b3 a4 b4 a5 b5 a6 b6 a7 b7 a8 b8 a9 b9 a10 b10 a11 b11 a12 b12 a13 b13
        cases t9 with
        | false =>
          obtain rfl : false = r := HR.out
          go_wp2_with fail
          go_ret
          exact ⟨rfl, B9⟩
        | true =>
          go_wp2_with fail
          refine (H10.out _ B9).mono ?_
          rintro e w10 ⟨rfl, bb⟩
          have B10 := B9.trans (bb.mono B9.size)
          replace G1 := (bb.block _ (by omega)).trans G1
          replace G2 := (bb.block _ (by omega)).trans G2
          replace hS0 := Nat.le_trans hS0 bb.size
          clear bb a0 b0 a1 b1 a2 b2 a3 b3 a4 b4 a5 b5 a6 b6 a7 b7 a8 b8 a9 b9 a10 b10 a11 b11 a12 b12 a13 b13
          have a0 := box_cell G1 0
          have b0 := box_cell G2 0
          have a1 := box_cell G1 1
          have b1 := box_cell G2 1
          have a2 := box_cell G1 2
          have b2 := box_cell G2 2
          have a3 := box_cell G1 3
          have b3 := box_cell G2 3
          have a4 := box_cell G1 4
          have b4 := box_cell G2 4
          have a5 := box_cell G1 5
          have b5 := box_cell G2 5
          have a6 := box_cell G1 6
          have b6 := box_cell G2 6
          have a7 := box_cell G1 7
          have b7 := box_cell G2 7
          have a8 := box_cell G1 8
          have b8 := box_cell G2 8
          have a9 := box_cell G1 9
          have b9 := box_cell G2 9
          have a10 := box_cell G1 10
          have b10 := box_cell G2 10
          have a11 := box_cell G1 11
          have b11 := box_cell G2 11
          have a12 := box_cell G1 12
          have b12 := box_cell G2 12
          have a13 := box_cell G1 13
          have b13 := box_cell G2 13
          simp at a0 b0 a1 b1 a2 b2 a3 b3 a4 b4 a5 b5 a6 b6 a7 b7 a8 b8 a9 b9 a10 b10 a11 b11 a12 b12 a13 b13
          cases t10 with
          | false =>
            obtain rfl : false = r := HR.out
            go_wp2_with fail
            go_ret
            exact ⟨rfl, B10⟩
          | true =>
            cases t11 with
            | false =>
              obtain rfl : false = r := HR.out
              go_wp2_with fail
              go_ret
              exact ⟨rfl, B10⟩
            | true =>
              cases t12 with
              | false =>
                obtain rfl : false = r := HR.out
                go_wp2_with fail
                go_ret
                exact ⟨rfl, B10⟩
              | true =>
                cases t13 with
                | false =>
                  obtain rfl : false = r := HR.out
                  go_wp2_with fail
                  go_ret
                  exact ⟨rfl, B10⟩
                | true =>
                  obtain rfl : true = r := HR.out
                  go_wp2_with fail
                  go_ret
                  exact ⟨rfl, B10⟩
end Go.Proofs.Ythmbfkgahkihfaa
