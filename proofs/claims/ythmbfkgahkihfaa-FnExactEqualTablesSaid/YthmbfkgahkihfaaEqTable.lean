/-
  EqualTables, both sides.
-/
import Derived.Test.YthmbfkgahkihfaaNTable
import Derived.Test.YthmbfkgahkihfaaRowsEq
import Derived.Test.YthmbfkgahkihfaaEqRules
import Derived.Test.YthmbfkgahkihfaaEqGame
import Derived.Deep.RegionHeld3
import Derived.BigQuiet
namespace Go.Proofs.Ythmbfkgahkihfaa
open Go.RowKit
set_option linter.unusedVariables false
set_option linter.unusedSimpArgs false

def eqTables (A B : MTable) : Bool := (eqRules A.rules B.rules && (decide (A.seals = B.seals) && ((A.on == B.on) && (decide (A.deck = B.deck) && (eqGames A.game B.game && (decide (A.record = B.record) && decide (A.sheet = B.sheet)))))))
set_option maxRecDepth 100000 in
set_option maxHeartbeats 4000000 in
theorem eqTables_any (va vb : Value) (A B : MTable) (w : World) (h : RdTable w va A) (h' : RdTable w vb B) (hf : A.Few) (hf' : B.Few) (r : Bool) (hr : eqTables A B = r) :
    Calls Try.prog 33 #[va, vb] w fun e w' => e = .returned (.bool r) ∧ Below w.heap.size w w' := by
  obtain ⟨p4, p5, p8, p10, p15, p16, p19, p20, p21, p25, p26, c4, c5, c8, c10, c15, c16, c19, c20, c21, c25, c26, b8, b10, b25, rfl, h0, h8, h10, h11, h25, h26⟩ := h
  obtain ⟨q4, q5, q8, q10, q15, q16, q19, q20, q21, q25, q26, d4, d5, d8, d10, d15, d16, d19, d20, d21, d25, d26, e8, e10, e25, rfl, g0, g8, g10, g11, g25, g26⟩ := h'
  obtain ⟨f0, f8, f10, f11, f25, f26, fs26⟩ := hf
  obtain ⟨k0, k8, k10, k11, k25, k26, ks26⟩ := hf'
  unfold eqTables at hr
  obtain ⟨t0, ht0⟩ : ∃ t, eqRules A.rules B.rules = t := ⟨_, rfl⟩
  rw [ht0] at hr
  have H0 := Lib.hid (fun wx (hb : Below w.heap.size w wx) => equalRules_any _ _ A.rules B.rules wx (h0.below hb) (g0.below hb) f0 k0 t0 ht0)
  clear ht0
  obtain ⟨t8, ht8⟩ : ∃ t, decide (A.seals = B.seals) = t := ⟨_, rfl⟩
  rw [ht8] at hr
  have H8 := Lib.hid (fun wx (hb : Below w.heap.size w wx) => equalInts_any _ _ A.seals B.seals _ _ wx (h8.below hb) (g8.below hb) (by omega) (by omega))
  rw [ht8] at H8
  clear ht8
  obtain ⟨t9, ht9⟩ : ∃ t, (A.on == B.on) = t := ⟨_, rfl⟩
  rw [ht9] at hr
  obtain ⟨t10, ht10⟩ : ∃ t, decide (A.deck = B.deck) = t := ⟨_, rfl⟩
  rw [ht10] at hr
  have H10 := Lib.hid (fun wx (hb : Below w.heap.size w wx) => equalInts_any _ _ A.deck B.deck _ _ wx (h10.below hb) (g10.below hb) (by omega) (by omega))
  rw [ht10] at H10
  clear ht10
  obtain ⟨t11, ht11⟩ : ∃ t, eqGames A.game B.game = t := ⟨_, rfl⟩
  rw [ht11] at hr
  have H11 := Lib.hid (fun wx (hb : Below w.heap.size w wx) => eqGames_any _ _ A.game B.game wx (h11.below hb) (g11.below hb) f11 k11 t11 ht11)
  clear ht11
  obtain ⟨t25, ht25⟩ : ∃ t, decide (A.record = B.record) = t := ⟨_, rfl⟩
  rw [ht25] at hr
  have H25 := Lib.hid (fun wx (hb : Below w.heap.size w wx) => equalInts_any _ _ A.record B.record _ _ wx (h25.below hb) (g25.below hb) (by omega) (by omega))
  rw [ht25] at H25
  clear ht25
  obtain ⟨t26, ht26⟩ : ∃ t, decide (A.sheet = B.sheet) = t := ⟨_, rfl⟩
  rw [ht26] at hr
  have H26 := Lib.hid (fun wx (hb : Below w.heap.size w wx) => eqFunc_any _ _ A.sheet B.sheet wx (h26.below hb) (g26.below hb) f26 k26 fs26 ks26 t26 ht26)
  clear ht26
  have HR := Lib.hid hr
  clear hr h0 g0 h8 g8 h10 g10 h11 g11 h25 g25 h26 g26
  obtain ⟨W0, hW0⟩ : ∃ W0, W0 = ((w.alloc (.cells #[.int .i64 A.rules.players, .int .i64 A.rules.each, .bool A.rules.sameSuit, .bool A.rules.sameRank, .slice p4 A.rules.wild.length c4, .slice p5 A.rules.skip.length c5, .int .i64 A.rules.take, .int .i64 A.rules.limit, .slice p8 A.seals.length c8, .bool A.on, .slice p10 A.deck.length c10, .int .i64 A.game.rules.players, .int .i64 A.game.rules.each, .bool A.game.rules.sameSuit, .bool A.game.rules.sameRank, .slice p15 A.game.rules.wild.length c15, .slice p16 A.game.rules.skip.length c16, .int .i64 A.game.rules.take, .int .i64 A.game.rules.limit, .slice p19 A.game.hands.length c19, .slice p20 A.game.stock.length c20, .slice p21 A.game.heap.length c21, .int .i64 A.game.turn, .int .i64 A.game.moves, .int .i64 A.game.passes, .slice p25 A.record.length c25, .slice p26 A.sheet.length c26] 45)).alloc (.cells #[.int .i64 B.rules.players, .int .i64 B.rules.each, .bool B.rules.sameSuit, .bool B.rules.sameRank, .slice q4 B.rules.wild.length d4, .slice q5 B.rules.skip.length d5, .int .i64 B.rules.take, .int .i64 B.rules.limit, .slice q8 B.seals.length d8, .bool B.on, .slice q10 B.deck.length d10, .int .i64 B.game.rules.players, .int .i64 B.game.rules.each, .bool B.game.rules.sameSuit, .bool B.game.rules.sameRank, .slice q15 B.game.rules.wild.length d15, .slice q16 B.game.rules.skip.length d16, .int .i64 B.game.rules.take, .int .i64 B.game.rules.limit, .slice q19 B.game.hands.length d19, .slice q20 B.game.stock.length d20, .slice q21 B.game.heap.length d21, .int .i64 B.game.turn, .int .i64 B.game.moves, .int .i64 B.game.passes, .slice q25 B.record.length d25, .slice q26 B.sheet.length d26] 45)) := ⟨_, rfl⟩
  have B0 : Below w.heap.size w W0 := by rw [hW0]; exact ((Below.refl _ _).alloc (Nat.le_refl _) _).alloc (by simp) _
  have G1 : W0.heap[w.heap.size]? = some (.cells #[.int .i64 A.rules.players, .int .i64 A.rules.each, .bool A.rules.sameSuit, .bool A.rules.sameRank, .slice p4 A.rules.wild.length c4, .slice p5 A.rules.skip.length c5, .int .i64 A.rules.take, .int .i64 A.rules.limit, .slice p8 A.seals.length c8, .bool A.on, .slice p10 A.deck.length c10, .int .i64 A.game.rules.players, .int .i64 A.game.rules.each, .bool A.game.rules.sameSuit, .bool A.game.rules.sameRank, .slice p15 A.game.rules.wild.length c15, .slice p16 A.game.rules.skip.length c16, .int .i64 A.game.rules.take, .int .i64 A.game.rules.limit, .slice p19 A.game.hands.length c19, .slice p20 A.game.stock.length c20, .slice p21 A.game.heap.length c21, .int .i64 A.game.turn, .int .i64 A.game.moves, .int .i64 A.game.passes, .slice p25 A.record.length c25, .slice p26 A.sheet.length c26] 45 (0, 0)) := by
    rw [hW0]; show ((w.heap.push _).push _)[_]? = _
    rw [Array.getElem?_push, if_neg (by simp), Array.getElem?_push, if_pos rfl]
  have G2 : W0.heap[w.heap.size + 1]? = some (.cells #[.int .i64 B.rules.players, .int .i64 B.rules.each, .bool B.rules.sameSuit, .bool B.rules.sameRank, .slice q4 B.rules.wild.length d4, .slice q5 B.rules.skip.length d5, .int .i64 B.rules.take, .int .i64 B.rules.limit, .slice q8 B.seals.length d8, .bool B.on, .slice q10 B.deck.length d10, .int .i64 B.game.rules.players, .int .i64 B.game.rules.each, .bool B.game.rules.sameSuit, .bool B.game.rules.sameRank, .slice q15 B.game.rules.wild.length d15, .slice q16 B.game.rules.skip.length d16, .int .i64 B.game.rules.take, .int .i64 B.game.rules.limit, .slice q19 B.game.hands.length d19, .slice q20 B.game.stock.length d20, .slice q21 B.game.heap.length d21, .int .i64 B.game.turn, .int .i64 B.game.moves, .int .i64 B.game.passes, .slice q25 B.record.length d25, .slice q26 B.sheet.length d26] 45 (0, 0)) := by
    rw [hW0]; show ((w.heap.push _).push _)[_]? = _
    rw [Array.getElem?_push, if_pos (by simp)]
  have hS0 : w.heap.size + 2 ≤ W0.heap.size := by rw [hW0]; simp
  have HW := Lib.hid hW0
  clear hW0
  go_enter Try.func33, Try.ntmps33
  go_wp2_with fail
  rw [← HW.out]
  refine (H0.out _ B0).mono ?_
  rintro e w0 ⟨rfl, bb⟩
  have B0 := B0.trans (bb.mono B0.size)
  replace G1 := (bb.block _ (by omega)).trans G1
  replace G2 := (bb.block _ (by omega)).trans G2
  replace hS0 := Nat.le_trans hS0 bb.size
  clear bb
  have a0 := box_cell G1 0
  have b0 := box_cell G2 0
  have a1 := box_cell G1 1
  have b1 := box_cell G2 1
  have a2 := box_cell G1 2
  have b2 := box_cell G2 2
  have a3 := box_cell G1 3
  have b3 := box_cell G2 3
  have a4 := box_cell G1 4
  have b4 := box_cell G2 4
  have a5 := box_cell G1 5
  have b5 := box_cell G2 5
  have a6 := box_cell G1 6
  have b6 := box_cell G2 6
  have a7 := box_cell G1 7
  have b7 := box_cell G2 7
  have a8 := box_cell G1 8
  have b8 := box_cell G2 8
  have a9 := box_cell G1 9
  have b9 := box_cell G2 9
  have a10 := box_cell G1 10
  have b10 := box_cell G2 10
  have a11 := box_cell G1 11
  have b11 := box_cell G2 11
  have a12 := box_cell G1 12
  have b12 := box_cell G2 12
  have a13 := box_cell G1 13
  have b13 := box_cell G2 13
  have a14 := box_cell G1 14
  have b14 := box_cell G2 14
  have a15 := box_cell G1 15
  have b15 := box_cell G2 15
  have a16 := box_cell G1 16
  have b16 := box_cell G2 16
  have a17 := box_cell G1 17
  have b17 := box_cell G2 17
  have a18 := box_cell G1 18
  have b18 := box_cell G2 18
  have a19 := box_cell G1 19
  have b19 := box_cell G2 19
  have a20 := box_cell G1 20
  have b20 := box_cell G2 20
  have a21 := box_cell G1 21
  have b21 := box_cell G2 21
  have a22 := box_cell G1 22
  have b22 := box_cell G2 22
  have a23 := box_cell G1 23
  have b23 := box_cell G2 23
  have a24 := box_cell G1 24
  have b24 := box_cell G2 24
  have a25 := box_cell G1 25
  have b25 := box_cell G2 25
  have a26 := box_cell G1 26
  have b26 := box_cell G2 26
  simp at a0 b0 a1 b1 a2 b2 a3 b3 a4 b4 a5 b5 a6 b6 a7 b7 a8 b8 a9 b9 a10 b10 a11 b11 a12 b12 a13 b13 a14 b14 a15 b15 a16 b16 a17 b17 a18 b18 a19 b19 a20 b20 a21 b21 a22 b22 a23 b23 a24 b24 a25 b25 a26 b26
  cases t0 with
  | false =>
    obtain rfl : false = r := HR.out
    go_wp2_with fail
    go_ret
    exact ⟨rfl, B0⟩
  | true =>
    go_wp2_with fail
    refine (H8.out _ B0).mono ?_
    rintro e w8 ⟨rfl, bb⟩
    have B8 := B0.trans (bb.mono B0.size)
    replace G1 := (bb.block _ (by omega)).trans G1
    replace G2 := (bb.block _ (by omega)).trans G2
    replace hS0 := Nat.le_trans hS0 bb.size
    clear bb a0 b0 a1 b1 a2 b2 a3 b3 a4 b4 a5 b5 a6 b6 a7 b7 a8 b8 a9 b9 a10 b10 a11 b11 a12 b12 a13 b13 a14 b14 a15 b15 a16 b16 a17 b17 a18 b18 a19 b19 a20 b20 a21 b21 a22 b22 a23 b23 a24 b24 a25 b25 a26 b26
    have a0 := box_cell G1 0
    have b0 := box_cell G2 0
    have a1 := box_cell G1 1
    have b1 := box_cell G2 1
    have a2 := box_cell G1 2
    have b2 := box_cell G2 2
    have a3 := box_cell G1 3
    have b3 := box_cell G2 3
    have a4 := box_cell G1 4
    have b4 := box_cell G2 4
    have a5 := box_cell G1 5
    have b5 := box_cell G2 5
    have a6 := box_cell G1 6
    have b6 := box_cell G2 6
    have a7 := box_cell G1 7
    have b7 := box_cell G2 7
    have a8 := box_cell G1 8
    have b8 := box_cell G2 8
    have a9 := box_cell G1 9
    have b9 := box_cell G2 9
    have a10 := box_cell G1 10
    have b10 := box_cell G2 10
    have a11 := box_cell G1 11
    have b11 := box_cell G2 11
    have a12 := box_cell G1 12
    have b12 := box_cell G2 12
    have a13 := box_cell G1 13
    have b13 := box_cell G2 13
    have a14 := box_cell G1 14
    have b14 := box_cell G2 14
    have a15 := box_cell G1 15
    have b15 := box_cell G2 15
    have a16 := box_cell G1 16
    have b16 := box_cell G2 16
    have a17 := box_cell G1 17
    have b17 := box_cell G2 17
    have a18 := box_cell G1 18
    have b18 := box_cell G2 18
    have a19 := box_cell G1 19
    have b19 := box_cell G2 19
    have a20 := box_cell G1 20
    have b20 := box_cell G2 20
    have a21 := box_cell G1 21
    have b21 := box_cell G2 21
    have a22 := box_cell G1 22
    have b22 := box_cell G2 22
    have a23 := box_cell G1 23
    have b23 := box_cell G2 23
    have a24 := box_cell G1 24
    have b24 := box_cell G2 24
    have a25 := box_cell G1 25
    have b25 := box_cell G2 25
    have a26 := box_cell G1 26
    have b26 := box_cell G2 26
    simp at a0 b0 a1 b1 a2 b2 a3 b3 a4 b4 a5 b5 a6 b6 a7 b7 a8 b8 a9 b9 a10 b10 a11 b11 a12 b12 a13 b13 a14 b14 a15 b15 a16 b16 a17 b17 a18 b18 a19 b19 a20 b20 a21 b21 a22 b22 a23 b23 a24 b24 a25 b25 a26 b26
    cases t8 with
    | false =>
      obtain rfl : false = r := HR.out
      go_wp2_with fail
      go_ret
      exact ⟨rfl, B8⟩
    | true =>
      cases t9 with
      | false =>
        obtain rfl : false = r := HR.out
        go_wp2_with fail
        go_ret
        exact ⟨rfl, B8⟩
      | true =>
        go_wp2_with fail
        refine (H10.out _ B8).mono ?_
        rintro e w10 ⟨rfl, bb⟩
        have B10 := B8.trans (bb.mono B8.size)
        replace G1 := (bb.block _ (by omega)).trans G1
        replace G2 := (bb.block _ (by omega)).trans G2
        replace hS0 := Nat.le_trans hS0 bb.size
        clear bb a0 b0 a1 b1 a2 b2 a3 b3 a4 b4 a5 b5 a6 b6 a7 b7 a8 b8 a9 b9 a10 b10 a11 b11 a12 b12 a13 b13 a14 b14 a15 b15 a16 b16 a17 b17 a18 b18 a19 b19 a20 b20 a21 b21 a22 b22 a23 b23 a24 b24 a25 b25 a26 b26
        have a0 := box_cell G1 0
        have b0 := box_cell G2 0
        have a1 := box_cell G1 1
        have b1 := box_cell G2 1
        have a2 := box_cell G1 2
        have b2 := box_cell G2 2
        have a3 := box_cell G1 3
        have b3 := box_cell G2 3
        have a4 := box_cell G1 4
        have b4 := box_cell G2 4
        have a5 := box_cell G1 5
        have b5 := box_cell G2 5
        have a6 := box_cell G1 6
        have b6 := box_cell G2 6
        have a7 := box_cell G1 7
        have b7 := box_cell G2 7
        have a8 := box_cell G1 8
        have b8 := box_cell G2 8
        have a9 := box_cell G1 9
        have b9 := box_cell G2 9
        have a10 := box_cell G1 10
        have b10 := box_cell G2 10
        have a11 := box_cell G1 11
        have b11 := box_cell G2 11
        have a12 := box_cell G1 12
        have b12 := box_cell G2 12
        have a13 := box_cell G1 13
        have b13 := box_cell G2 13
        have a14 := box_cell G1 14
        have b14 := box_cell G2 14
        have a15 := box_cell G1 15
        have b15 := box_cell G2 15
        have a16 := box_cell G1 16
        have b16 := box_cell G2 16
        have a17 := box_cell G1 17
        have b17 := box_cell G2 17
        have a18 := box_cell G1 18
        have b18 := box_cell G2 18
        have a19 := box_cell G1 19
        have b19 := box_cell G2 19
        have a20 := box_cell G1 20
        have b20 := box_cell G2 20
        have a21 := box_cell G1 21
        have b21 := box_cell G2 21
        have a22 := box_cell G1 22
        have b22 := box_cell G2 22
        have a23 := box_cell G1 23
        have b23 := box_cell G2 23
        have a24 := box_cell G1 24
        have b24 := box_cell G2 24
        have a25 := box_cell G1 25
        have b25 := box_cell G2 25
        have a26 := box_cell G1 26
        have b26 := box_cell G2 26
        simp at a0 b0 a1 b1 a2 b2 a3 b3 a4 b4 a5 b5 a6 b6 a7 b7 a8 b8 a9 b9 a10 b10 a11 b11 a12 b12 a13 b13 a14 b14 a15 b15 a16 b16 a17 b17 a18 b18 a19 b19 a20 b20 a21 b21 a22 b22 a23 b23 a24 b24 a25 b25 a26 b26
        cases t10 with
        | false =>
          obtain rfl : false = r := HR.out
          go_wp2_with fail
          go_ret
          exact ⟨rfl, B10⟩
        | true =>
          go_wp2_with fail
          refine (H11.out _ B10).mono ?_
          rintro e w11 ⟨rfl, bb⟩
          have B11 := B10.trans (bb.mono B10.size)
          replace G1 := (bb.block _ (by omega)).trans G1
          replace G2 := (bb.block _ (by omega)).trans G2
          replace hS0 := Nat.le_trans hS0 bb.size
          clear bb a0 b0 a1 b1 a2 b2 a3 b3 a4 b4 a5 b5 a6 b6 a7 b7 a8 b8 a9 b9 a10 b10 a11 b11 a12 b12 a13 b13 a14 b14 a15 b15 a16 b16 a17 b17 a18 b18 a19 b19 a20 b20 a21 b21 a22 b22 a23 b23 a24 b24 a25 b25 a26 b26
          have a0 := box_cell G1 0
          have b0 := box_cell G2 0
          have a1 := box_cell G1 1
          have b1 := box_cell G2 1
          have a2 := box_cell G1 2
          have b2 := box_cell G2 2
          have a3 := box_cell G1 3
          have b3 := box_cell G2 3
          have a4 := box_cell G1 4
          have b4 := box_cell G2 4
          have a5 := box_cell G1 5
          have b5 := box_cell G2 5
          have a6 := box_cell G1 6
          have b6 := box_cell G2 6
          have a7 := box_cell G1 7
          have b7 := box_cell G2 7
          have a8 := box_cell G1 8
          have b8 := box_cell G2 8
          have a9 := box_cell G1 9
          have b9 := box_cell G2 9
          have a10 := box_cell G1 10
          have b10 := box_cell G2 10
          have a11 := box_cell G1 11
          have b11 := box_cell G2 11
          have a12 := box_cell G1 12
          have b12 := box_cell G2 12
          have a13 := box_cell G1 13
          have b13 := box_cell G2 13
          have a14 := box_cell G1 14
          have b14 := box_cell G2 14
          have a15 := box_cell G1 15
          have b15 := box_cell G2 15
          have a16 := box_cell G1 16
          have b16 := box_cell G2 16
          have a17 := box_cell G1 17
          have b17 := box_cell G2 17
          have a18 := box_cell G1 18
          have b18 := box_cell G2 18
          have a19 := box_cell G1 19
          have b19 := box_cell G2 19
          have a20 := box_cell G1 20
          have b20 := box_cell G2 20
          have a21 := box_cell G1 21
          have b21 := box_cell G2 21
          have a22 := box_cell G1 22
          have b22 := box_cell G2 22
          have a23 := box_cell G1 23
          have b23 := box_cell G2 23
          have a24 := box_cell G1 24
          have b24 := box_cell G2 24
          have a25 := box_cell G1 25
          have b25 := box_cell G2 25
          have a26 := box_cell G1 26
          have b26 := box_cell G2 26
          simp at a0 b0 a1 b1 a2 b2 a3 b3 a4 b4 a5 b5 a6 b6 a7 b7 a8 b8 a9 b9 a10 b10 a11 b11 a12 b12 a13 b13 a14 b14 a15 b15 a16 b16 a17 b17 a18 b18 a19 b19 a20 b20 a21 b21 a22 b22 a23 b23 a24 b24 a25 b25 a26 b26
          cases t11 with
          | false =>
            obtain rfl : false = r := HR.out
            go_wp2_with fail
            go_ret
            exact ⟨rfl, B11⟩
          | true =>
            go_wp2_with fail
            refine (H25.out _ B11).mono ?_
            rintro e w25 ⟨rfl, bb⟩
            have B25 := B11.trans (bb.mono B11.size)
            replace G1 := (bb.block _ (by omega)).trans G1
            replace G2 := (bb.block _ (by omega)).trans G2
            replace hS0 := Nat.le_trans hS0 bb.size
            clear bb a0 b0 a1 b1 a2 b2 a3 b3 a4 b4 a5 b5 a6 b6 a7 b7 a8 b8 a9 b9 a10 b10 a11 b11 a12 b12 a13 b13 a14 b14 a15 b15 a16 b16 a17 b17 a18 b18 a19 b19 a20 b20 a21 b21 a22 b22 a23 b23 a24 b24 a25 b25 a26 b26
            have a0 := box_cell G1 0
            have b0 := box_cell G2 0
            have a1 := box_cell G1 1
            have b1 := box_cell G2 1
            have a2 := box_cell G1 2
            have b2 := box_cell G2 2
            have a3 := box_cell G1 3
            have b3 := box_cell G2 3
            have a4 := box_cell G1 4
            have b4 := box_cell G2 4
            have a5 := box_cell G1 5
            have b5 := box_cell G2 5
            have a6 := box_cell G1 6
            have b6 := box_cell G2 6
            have a7 := box_cell G1 7
            have b7 := box_cell G2 7
            have a8 := box_cell G1 8
            have b8 := box_cell G2 8
            have a9 := box_cell G1 9
            have b9 := box_cell G2 9
            have a10 := box_cell G1 10
            have b10 := box_cell G2 10
            have a11 := box_cell G1 11
            have b11 := box_cell G2 11
            have a12 := box_cell G1 12
            have b12 := box_cell G2 12
            have a13 := box_cell G1 13
            have b13 := box_cell G2 13
            have a14 := box_cell G1 14
            have b14 := box_cell G2 14
            have a15 := box_cell G1 15
            have b15 := box_cell G2 15
            have a16 := box_cell G1 16
            have b16 := box_cell G2 16
            have a17 := box_cell G1 17
            have b17 := box_cell G2 17
            have a18 := box_cell G1 18
            have b18 := box_cell G2 18
            have a19 := box_cell G1 19
            have b19 := box_cell G2 19
            have a20 := box_cell G1 20
            have b20 := box_cell G2 20
            have a21 := box_cell G1 21
            have b21 := box_cell G2 21
            have a22 := box_cell G1 22
            have b22 := box_cell G2 22
            have a23 := box_cell G1 23
            have b23 := box_cell G2 23
            have a24 := box_cell G1 24
            have b24 := box_cell G2 24
            have a25 := box_cell G1 25
            have b25 := box_cell G2 25
            have a26 := box_cell G1 26
            have b26 := box_cell G2 26
            simp at a0 b0 a1 b1 a2 b2 a3 b3 a4 b4 a5 b5 a6 b6 a7 b7 a8 b8 a9 b9 a10 b10 a11 b11 a12 b12 a13 b13 a14 b14 a15 b15 a16 b16 a17 b17 a18 b18 a19 b19 a20 b20 a21 b21 a22 b22 a23 b23 a24 b24 a25 b25 a26 b26
            cases t25 with
            | false =>
              obtain rfl : false = r := HR.out
              go_wp2_with fail
              go_ret
              exact ⟨rfl, B25⟩
            | true =>
              go_wp2_with fail
              refine (H26.out _ B25).mono ?_
              rintro e w26 ⟨rfl, bb⟩
              have B26 := B25.trans (bb.mono B25.size)
              replace G1 := (bb.block _ (by omega)).trans G1
              replace G2 := (bb.block _ (by omega)).trans G2
              replace hS0 := Nat.le_trans hS0 bb.size
              clear bb a0 b0 a1 b1 a2 b2 a3 b3 a4 b4 a5 b5 a6 b6 a7 b7 a8 b8 a9 b9 a10 b10 a11 b11 a12 b12 a13 b13 a14 b14 a15 b15 a16 b16 a17 b17 a18 b18 a19 b19 a20 b20 a21 b21 a22 b22 a23 b23 a24 b24 a25 b25 a26 b26
              cases t26 with
              | false =>
                obtain rfl : false = r := HR.out
                go_wp2_with fail
                go_ret
                exact ⟨rfl, B26⟩
              | true =>
                obtain rfl : true = r := HR.out
                go_wp2_with fail
                go_ret
                exact ⟨rfl, B26⟩
set_option maxRecDepth 100000 in
set_option maxHeartbeats 4000000 in
theorem sEqualTables_any (va vb : Value) (A B : MTable) (w : World) (h : RdTable w va A) (h' : RdTable w vb B) (hf : A.Few) (hf' : B.Few) (r : Bool) (hr : eqTables A B = r) :
    Calls Try.prog 32 #[va, vb] w fun e w' => e = .returned (.bool r) ∧ Below w.heap.size w w' := by
  obtain ⟨p4, p5, p8, p10, p15, p16, p19, p20, p21, p25, p26, c4, c5, c8, c10, c15, c16, c19, c20, c21, c25, c26, b8, b10, b25, rfl, h0, h8, h10, h11, h25, h26⟩ := h
  obtain ⟨q4, q5, q8, q10, q15, q16, q19, q20, q21, q25, q26, d4, d5, d8, d10, d15, d16, d19, d20, d21, d25, d26, e8, e10, e25, rfl, g0, g8, g10, g11, g25, g26⟩ := h'
  obtain ⟨f0, f8, f10, f11, f25, f26, fs26⟩ := hf
  obtain ⟨k0, k8, k10, k11, k25, k26, ks26⟩ := hf'
  unfold eqTables at hr
  obtain ⟨t0, ht0⟩ : ∃ t, eqRules A.rules B.rules = t := ⟨_, rfl⟩
  rw [ht0] at hr
  have H0 := Lib.hid (fun wx (hb : Below w.heap.size w wx) => sEqualRules_any _ _ A.rules B.rules wx (h0.below hb) (g0.below hb) f0 k0 t0 ht0)
  clear ht0
  obtain ⟨t8, ht8⟩ : ∃ t, decide (A.seals = B.seals) = t := ⟨_, rfl⟩
  rw [ht8] at hr
  have H8 := Lib.hid (fun wx (hb : Below w.heap.size w wx) => sEqualInts_any _ _ A.seals B.seals _ _ wx (h8.below hb) (g8.below hb) (by omega) (by omega))
  rw [ht8] at H8
  clear ht8
  obtain ⟨t9, ht9⟩ : ∃ t, (A.on == B.on) = t := ⟨_, rfl⟩
  rw [ht9] at hr
  obtain ⟨t10, ht10⟩ : ∃ t, decide (A.deck = B.deck) = t := ⟨_, rfl⟩
  rw [ht10] at hr
  have H10 := Lib.hid (fun wx (hb : Below w.heap.size w wx) => sEqualInts_any _ _ A.deck B.deck _ _ wx (h10.below hb) (g10.below hb) (by omega) (by omega))
  rw [ht10] at H10
  clear ht10
  obtain ⟨t11, ht11⟩ : ∃ t, eqGames A.game B.game = t := ⟨_, rfl⟩
  rw [ht11] at hr
  have H11 := Lib.hid (fun wx (hb : Below w.heap.size w wx) => sEqualGames_any _ _ A.game B.game wx (h11.below hb) (g11.below hb) f11 k11 t11 ht11)
  clear ht11
  obtain ⟨t25, ht25⟩ : ∃ t, decide (A.record = B.record) = t := ⟨_, rfl⟩
  rw [ht25] at hr
  have H25 := Lib.hid (fun wx (hb : Below w.heap.size w wx) => sEqualInts_any _ _ A.record B.record _ _ wx (h25.below hb) (g25.below hb) (by omega) (by omega))
  rw [ht25] at H25
  clear ht25
  obtain ⟨t26, ht26⟩ : ∃ t, decide (A.sheet = B.sheet) = t := ⟨_, rfl⟩
  rw [ht26] at hr
  have HT26 := Lib.hid ht26
  clear ht26
  have HA := Lib.hid (fun wx (hb : Below w.heap.size w wx) j (hj : j < A.sheet.length) => (h26.below hb).row hj)
  have HBr := Lib.hid (fun wx (hb : Below w.heap.size w wx) j (hj : j < B.sheet.length) => (g26.below hb).row hj)
  have HsA : Hid (∀ j (hj : j < A.sheet.length), A.sheet[j].length ≤ 1048576) := Lib.hid (fun j hj => Nat.le_trans (len_le_sum A.sheet hj) fs26)
  have HsB : Hid (∀ j (hj : j < B.sheet.length), B.sheet[j].length ≤ 1048576) := Lib.hid (fun j hj => Nat.le_trans (len_le_sum B.sheet hj) ks26)
  have HR := Lib.hid hr
  clear hr h0 g0 h8 g8 h10 g10 h11 g11 h25 g25 h26 g26
  obtain ⟨W0, hW0⟩ : ∃ W0, W0 = ((w.alloc (.cells #[.int .i64 A.rules.players, .int .i64 A.rules.each, .bool A.rules.sameSuit, .bool A.rules.sameRank, .slice p4 A.rules.wild.length c4, .slice p5 A.rules.skip.length c5, .int .i64 A.rules.take, .int .i64 A.rules.limit, .slice p8 A.seals.length c8, .bool A.on, .slice p10 A.deck.length c10, .int .i64 A.game.rules.players, .int .i64 A.game.rules.each, .bool A.game.rules.sameSuit, .bool A.game.rules.sameRank, .slice p15 A.game.rules.wild.length c15, .slice p16 A.game.rules.skip.length c16, .int .i64 A.game.rules.take, .int .i64 A.game.rules.limit, .slice p19 A.game.hands.length c19, .slice p20 A.game.stock.length c20, .slice p21 A.game.heap.length c21, .int .i64 A.game.turn, .int .i64 A.game.moves, .int .i64 A.game.passes, .slice p25 A.record.length c25, .slice p26 A.sheet.length c26] 45)).alloc (.cells #[.int .i64 B.rules.players, .int .i64 B.rules.each, .bool B.rules.sameSuit, .bool B.rules.sameRank, .slice q4 B.rules.wild.length d4, .slice q5 B.rules.skip.length d5, .int .i64 B.rules.take, .int .i64 B.rules.limit, .slice q8 B.seals.length d8, .bool B.on, .slice q10 B.deck.length d10, .int .i64 B.game.rules.players, .int .i64 B.game.rules.each, .bool B.game.rules.sameSuit, .bool B.game.rules.sameRank, .slice q15 B.game.rules.wild.length d15, .slice q16 B.game.rules.skip.length d16, .int .i64 B.game.rules.take, .int .i64 B.game.rules.limit, .slice q19 B.game.hands.length d19, .slice q20 B.game.stock.length d20, .slice q21 B.game.heap.length d21, .int .i64 B.game.turn, .int .i64 B.game.moves, .int .i64 B.game.passes, .slice q25 B.record.length d25, .slice q26 B.sheet.length d26] 45)) := ⟨_, rfl⟩
  have B0 : Below w.heap.size w W0 := by rw [hW0]; exact ((Below.refl _ _).alloc (Nat.le_refl _) _).alloc (by simp) _
  have G1 : W0.heap[w.heap.size]? = some (.cells #[.int .i64 A.rules.players, .int .i64 A.rules.each, .bool A.rules.sameSuit, .bool A.rules.sameRank, .slice p4 A.rules.wild.length c4, .slice p5 A.rules.skip.length c5, .int .i64 A.rules.take, .int .i64 A.rules.limit, .slice p8 A.seals.length c8, .bool A.on, .slice p10 A.deck.length c10, .int .i64 A.game.rules.players, .int .i64 A.game.rules.each, .bool A.game.rules.sameSuit, .bool A.game.rules.sameRank, .slice p15 A.game.rules.wild.length c15, .slice p16 A.game.rules.skip.length c16, .int .i64 A.game.rules.take, .int .i64 A.game.rules.limit, .slice p19 A.game.hands.length c19, .slice p20 A.game.stock.length c20, .slice p21 A.game.heap.length c21, .int .i64 A.game.turn, .int .i64 A.game.moves, .int .i64 A.game.passes, .slice p25 A.record.length c25, .slice p26 A.sheet.length c26] 45 (0, 0)) := by
    rw [hW0]; show ((w.heap.push _).push _)[_]? = _
    rw [Array.getElem?_push, if_neg (by simp), Array.getElem?_push, if_pos rfl]
  have G2 : W0.heap[w.heap.size + 1]? = some (.cells #[.int .i64 B.rules.players, .int .i64 B.rules.each, .bool B.rules.sameSuit, .bool B.rules.sameRank, .slice q4 B.rules.wild.length d4, .slice q5 B.rules.skip.length d5, .int .i64 B.rules.take, .int .i64 B.rules.limit, .slice q8 B.seals.length d8, .bool B.on, .slice q10 B.deck.length d10, .int .i64 B.game.rules.players, .int .i64 B.game.rules.each, .bool B.game.rules.sameSuit, .bool B.game.rules.sameRank, .slice q15 B.game.rules.wild.length d15, .slice q16 B.game.rules.skip.length d16, .int .i64 B.game.rules.take, .int .i64 B.game.rules.limit, .slice q19 B.game.hands.length d19, .slice q20 B.game.stock.length d20, .slice q21 B.game.heap.length d21, .int .i64 B.game.turn, .int .i64 B.game.moves, .int .i64 B.game.passes, .slice q25 B.record.length d25, .slice q26 B.sheet.length d26] 45 (0, 0)) := by
    rw [hW0]; show ((w.heap.push _).push _)[_]? = _
    rw [Array.getElem?_push, if_pos (by simp)]
  have hS0 : w.heap.size + 2 ≤ W0.heap.size := by rw [hW0]; simp
  have HW := Lib.hid hW0
  clear hW0
  have HR2 : Hid ((t26 && (t0 && (t8 && (t9 && (t10 && (t11 && t25)))))) = r) := Lib.hid (by rw [← HR.out]; cases t0 <;> cases t8 <;> cases t9 <;> cases t10 <;> cases t11 <;> cases t25 <;> cases t26 <;> rfl)
  clear HR
  have HR := HR2
  clear HR2
  have hlA : A.sheet.length ≤ 1048576 := f26
  have hlB : B.sheet.length ≤ 1048576 := k26
  by_cases hnm : A.sheet.length = B.sheet.length
  case neg =>
    have hq : ((A.sheet.length : Int) != (B.sheet.length : Int)) = true := by simp; omega
    obtain rfl : t26 = false := by rw [← HT26.out]; simp only [decide_eq_false_iff_not]; intro e; exact hnm (by rw [e])
    obtain rfl : false = r := HR.out
    clear hnm
    go_enter Try.func32, Try.ntmps32
    go_wp2_with fail
    rw [← HW.out]
    go_wp2_with fail
    go_ret
    exact ⟨rfl, B0⟩
  have Hnm := Lib.hid hnm
  have hq : ((A.sheet.length : Int) != (B.sheet.length : Int)) = false := by simp; omega
  clear hnm
  go_enter Try.func32, Try.ntmps32
  go_wp2_with fail
  rw [← HW.out]
  go_loopw [5] (fun i wr => ∃ k : Nat, k ≤ A.sheet.length ∧ i = .int .i64 k ∧ Below W0.heap.size W0 wr ∧ Hid (∀ j (h1 : j < A.sheet.length) (h2 : j < B.sheet.length), j < k → A.sheet[j] = B.sheet[j])) (fun i _ => A.sheet.length - (intOf i).toNat)
  case atStart => exact ⟨0, Nat.zero_le _, rfl, Below.refl _ _, Lib.hid (fun j _ _ h => by omega)⟩
  case round =>
    obtain ⟨k, hk, rfl, hB2, hsame⟩ := hrel
    have hBw := B0.trans (hB2.mono B0.size)
    replace G1 := (hB2.block _ (by omega)).trans G1
    replace G2 := (hB2.block _ (by omega)).trans G2
    replace hS0 := Nat.le_trans hS0 hB2.size
    by_cases hlt : k < A.sheet.length
    · have zb : k < B.sheet.length := by rw [← Hnm.out]; exact hlt
      obtain ⟨blk, off, cap', p', c', b1, hv, hc, hr1, -⟩ := HA.out wr hBw k hlt
      obtain ⟨blk2, off2, cap2', p2', c2', b2, hv2, hc2, hr2, -⟩ := HBr.out wr hBw k zb
      have e1 := (Value.slice.inj hv).1
      have e2 := (Value.slice.inj hv2).1
      clear hv hv2
      subst e1 e2
      have a26 := box_cell G1 26
      have b26 := box_cell G2 26
      simp at a26 b26
      have HE := Lib.hid (fun wx (hb : Below wr.heap.size wr wx) => sEqualInts_any _ _ A.sheet[k] B.sheet[k] b1 b2 wx (hr1.below hb) (hr2.below hb) (by have := HsA.out k hlt; omega) (by have := HsB.out k zb; omega))
      obtain ⟨x, hx⟩ : ∃ x, x = A.sheet[k].length := ⟨_, rfl⟩
      obtain ⟨y, hy⟩ : ∃ y, y = B.sheet[k].length := ⟨_, rfl⟩
      rw [← hx] at hc HE
      rw [← hy] at hc2 HE
      have KK : Hid (∀ wx, Below wr.heap.size wr wx → (wx.cell? ⟨w.heap.size, 26, none⟩ = some (.slice (some ⟨blk, off, none⟩) A.sheet.length c26) ∧ wx.cell? ⟨w.heap.size + 1, 26, none⟩ = some (.slice (some ⟨blk2, off2, none⟩) B.sheet.length d26)) ∧ wx.cell? ⟨blk, off + k, none⟩ = some (.slice p' x c') ∧ wx.cell? ⟨blk2, off2 + k, none⟩ = some (.slice p2' y c2')) := Lib.hid (fun wx hb => ⟨⟨(hb.cell (World.block_lt_of_cell? _ _ a26)).trans a26, (hb.cell (World.block_lt_of_cell? _ _ b26)).trans b26⟩, (hb.cell (World.block_lt_of_cell? _ _ hc)).trans hc, (hb.cell (World.block_lt_of_cell? _ _ hc2)).trans hc2⟩)
      have HBd := Lib.hid hB2
      have i0 : (k : Int) < (A.sheet.length : Int) := by omega
      have i1 : (k : Int) < (B.sheet.length : Int) := by omega
      clear hr1 hr2 hx hy
      cases hq2 : decide (A.sheet[k] = B.sheet[k]) with
      | true =>
        have he : A.sheet[k] = B.sheet[k] := by simpa using hq2
        have hs2 : Hid (∀ j (h1 : j < A.sheet.length) (h2 : j < B.sheet.length), j < k + 1 → A.sheet[j] = B.sheet[j]) := Lib.hid (fun j h1 h2 hj => by
          by_cases e : j = k
          · subst e; exact he
          · exact hsame.out j h1 h2 (by omega))
        rw [hq2] at HE
        clear hq2 he hsame hB2
        go_wp2_with fail
        go_region_held3 (fun w' => (w'.cell? ⟨w.heap.size, 26, none⟩ = some (.slice (some ⟨blk, off, none⟩) A.sheet.length c26) ∧ w'.cell? ⟨w.heap.size + 1, 26, none⟩ = some (.slice (some ⟨blk2, off2, none⟩) B.sheet.length d26)) ∧ w'.cell? ⟨blk, off + k, none⟩ = some (.slice p' x c') ∧ w'.cell? ⟨blk2, off2 + k, none⟩ = some (.slice p2' y c2')) (go_keep) (first
          | (go_at_call 47; refine (HE.out _ (Below.refl _ _).drew).mono ?_; rintro e w2 ⟨rfl, bq⟩; obtain ⟨⟨y1, y2⟩, y3, y4⟩ := KK.out w2 ((Below.refl _ _).drew.trans bq)))
        all_goals
          have hB3 : Below W0.heap.size W0 w2 := HBd.out.drew.trans (bq.mono HBd.out.drew.size)
          clear y1 y2 y3 y4 bq a26 b26 hc hc2
          go_wp2_with fail
          go_roundw
          case rel => exact ⟨k + 1, by omega, by go_num, hB3, hs2⟩
          case measure => simp [intOf]; omega
      | false =>
        have he : A.sheet[k] ≠ B.sheet[k] := by simpa using hq2
        obtain rfl : t26 = false := by rw [← HT26.out]; simpa using rows_ne_of hlt zb he
        obtain rfl : false = r := HR.out
        rw [hq2] at HE
        clear hq2 he hsame hB2
        go_wp2_with fail
        go_region_held3 (fun w' => (w'.cell? ⟨w.heap.size, 26, none⟩ = some (.slice (some ⟨blk, off, none⟩) A.sheet.length c26) ∧ w'.cell? ⟨w.heap.size + 1, 26, none⟩ = some (.slice (some ⟨blk2, off2, none⟩) B.sheet.length d26)) ∧ w'.cell? ⟨blk, off + k, none⟩ = some (.slice p' x c') ∧ w'.cell? ⟨blk2, off2 + k, none⟩ = some (.slice p2' y c2')) (go_keep) (first
          | (go_at_call 47; refine (HE.out _ (Below.refl _ _).drew).mono ?_; rintro e w2 ⟨rfl, bq⟩; obtain ⟨⟨y1, y2⟩, y3, y4⟩ := KK.out w2 ((Below.refl _ _).drew.trans bq)))
        all_goals
          have hB3 : Below W0.heap.size W0 w2 := HBd.out.drew.trans (bq.mono HBd.out.drew.size)
          have hB4 := B0.trans (hB3.mono B0.size)
          go_wp2_with fail
          go_ret
          exact ⟨rfl, hB4⟩
    · obtain rfl : k = A.sheet.length := by omega
      obtain rfl : t26 = true := by rw [← HT26.out]; simpa using rows_eq_of Hnm.out (fun j h1 h2 => hsame.out j h1 h2 h1)
      clear hsame HA HBr HsA HsB HT26
      have a0 := box_cell G1 0
      have b0 := box_cell G2 0
      have a1 := box_cell G1 1
      have b1 := box_cell G2 1
      have a2 := box_cell G1 2
      have b2 := box_cell G2 2
      have a3 := box_cell G1 3
      have b3 := box_cell G2 3
      have a4 := box_cell G1 4
      have b4 := box_cell G2 4
      have a5 := box_cell G1 5
      have b5 := box_cell G2 5
      have a6 := box_cell G1 6
      have b6 := box_cell G2 6
      have a7 := box_cell G1 7
      have b7 := box_cell G2 7
      have a8 := box_cell G1 8
      have b8 := box_cell G2 8
      have a9 := box_cell G1 9
      have b9 := box_cell G2 9
      have a10 := box_cell G1 10
      have b10 := box_cell G2 10
      have a11 := box_cell G1 11
      have b11 := box_cell G2 11
      have a12 := box_cell G1 12
      have b12 := box_cell G2 12
      have a13 := box_cell G1 13
      have b13 := box_cell G2 13
      have a14 := box_cell G1 14
      have b14 := box_cell G2 14
      have a15 := box_cell G1 15
      have b15 := box_cell G2 15
      have a16 := box_cell G1 16
      have b16 := box_cell G2 16
      have a17 := box_cell G1 17
      have b17 := box_cell G2 17
      have a18 := box_cell G1 18
      have b18 := box_cell G2 18
      have a19 := box_cell G1 19
      have b19 := box_cell G2 19
      have a20 := box_cell G1 20
      have b20 := box_cell G2 20
      have a21 := box_cell G1 21
      have b21 := box_cell G2 21
      have a22 := box_cell G1 22
      have b22 := box_cell G2 22
      have a23 := box_cell G1 23
      have b23 := box_cell G2 23
      have a24 := box_cell G1 24
      have b24 := box_cell G2 24
      have a25 := box_cell G1 25
      have b25 := box_cell G2 25
      have a26 := box_cell G1 26
      have b26 := box_cell G2 26
      simp at a0 b0 a1 b1 a2 b2 a3 b3 a4 b4 a5 b5 a6 b6 a7 b7 a8 b8 a9 b9 a10 b10 a11 b11 a12 b12 a13 b13 a14 b14 a15 b15 a16 b16 a17 b17 a18 b18 a19 b19 a20 b20 a21 b21 a22 b22 a23 b23 a24 b24 a25 b25 a26 b26
      go_wp2_with fail
      refine (H0.out _ hBw).mono ?_
      rintro e w0 ⟨rfl, bb⟩
      have B0 := hBw.trans (bb.mono hBw.size)
      replace G1 := (bb.block _ (by omega)).trans G1
      replace G2 := (bb.block _ (by omega)).trans G2
      replace hS0 := Nat.le_trans hS0 bb.size
      clear bb a0 b0 a1 b1 a2 b2 a3 b3 a4 b4 a5 b5 a6 b6 a7 b7 a8 b8 a9 b9 a10 b10 a11 b11 a12 b12 a13 b13 a14 b14 a15 b15 a16 b16 a17 b17 a18 b18 a19 b19 a20 b20 a21 b21 a22 b22 a23 b23 a24 b24 a25 b25 a26 b26
      have a0 := box_cell G1 0
      have b0 := box_cell G2 0
      have a1 := box_cell G1 1
      have b1 := box_cell G2 1
      have a2 := box_cell G1 2
      have b2 := box_cell G2 2
      have a3 := box_cell G1 3
      have b3 := box_cell G2 3
      have a4 := box_cell G1 4
      have b4 := box_cell G2 4
      have a5 := box_cell G1 5
      have b5 := box_cell G2 5
      have a6 := box_cell G1 6
      have b6 := box_cell G2 6
      have a7 := box_cell G1 7
      have b7 := box_cell G2 7
      have a8 := box_cell G1 8
      have b8 := box_cell G2 8
      have a9 := box_cell G1 9
      have b9 := box_cell G2 9
      have a10 := box_cell G1 10
      have b10 := box_cell G2 10
      have a11 := box_cell G1 11
      have b11 := box_cell G2 11
      have a12 := box_cell G1 12
      have b12 := box_cell G2 12
      have a13 := box_cell G1 13
      have b13 := box_cell G2 13
      have a14 := box_cell G1 14
      have b14 := box_cell G2 14
      have a15 := box_cell G1 15
      have b15 := box_cell G2 15
      have a16 := box_cell G1 16
      have b16 := box_cell G2 16
      have a17 := box_cell G1 17
      have b17 := box_cell G2 17
      have a18 := box_cell G1 18
      have b18 := box_cell G2 18
      have a19 := box_cell G1 19
      have b19 := box_cell G2 19
      have a20 := box_cell G1 20
      have b20 := box_cell G2 20
      have a21 := box_cell G1 21
      have b21 := box_cell G2 21
      have a22 := box_cell G1 22
      have b22 := box_cell G2 22
      have a23 := box_cell G1 23
      have b23 := box_cell G2 23
      have a24 := box_cell G1 24
      have b24 := box_cell G2 24
      have a25 := box_cell G1 25
      have b25 := box_cell G2 25
      have a26 := box_cell G1 26
      have b26 := box_cell G2 26
      simp at a0 b0 a1 b1 a2 b2 a3 b3 a4 b4 a5 b5 a6 b6 a7 b7 a8 b8 a9 b9 a10 b10 a11 b11 a12 b12 a13 b13 a14 b14 a15 b15 a16 b16 a17 b17 a18 b18 a19 b19 a20 b20 a21 b21 a22 b22 a23 b23 a24 b24 a25 b25 a26 b26
      cases t0 with
      | false =>
        obtain rfl : false = r := HR.out
        go_wp2_with fail
        go_ret
        exact ⟨rfl, B0⟩
      | true =>
        go_wp2_with fail
        refine (H8.out _ B0).mono ?_
        rintro e w8 ⟨rfl, bb⟩
        have B8 := B0.trans (bb.mono B0.size)
        replace G1 := (bb.block _ (by omega)).trans G1
        replace G2 := (bb.block _ (by omega)).trans G2
        replace hS0 := Nat.le_trans hS0 bb.size
        clear bb a0 b0 a1 b1 a2 b2 a3 b3 a4 b4 a5 b5 a6 b6 a7 b7 a8 b8 a9 b9 a10 b10 a11 b11 a12 b12 a13 b13 a14 b14 a15 b15 a16 b16 a17 b17 a18 b18 a19 b19 a20 b20 a21 b21 a22 b22 a23 b23 a24 b24 a25 b25 a26 b26
        have a0 := box_cell G1 0
        have b0 := box_cell G2 0
        have a1 := box_cell G1 1
        have b1 := box_cell G2 1
        have a2 := box_cell G1 2
        have b2 := box_cell G2 2
        have a3 := box_cell G1 3
        have b3 := box_cell G2 3
        have a4 := box_cell G1 4
        have b4 := box_cell G2 4
        have a5 := box_cell G1 5
        have b5 := box_cell G2 5
        have a6 := box_cell G1 6
        have b6 := box_cell G2 6
        have a7 := box_cell G1 7
        have b7 := box_cell G2 7
        have a8 := box_cell G1 8
        have b8 := box_cell G2 8
        have a9 := box_cell G1 9
        have b9 := box_cell G2 9
        have a10 := box_cell G1 10
        have b10 := box_cell G2 10
        have a11 := box_cell G1 11
        have b11 := box_cell G2 11
        have a12 := box_cell G1 12
        have b12 := box_cell G2 12
        have a13 := box_cell G1 13
        have b13 := box_cell G2 13
        have a14 := box_cell G1 14
        have b14 := box_cell G2 14
        have a15 := box_cell G1 15
        have b15 := box_cell G2 15
        have a16 := box_cell G1 16
        have b16 := box_cell G2 16
        have a17 := box_cell G1 17
        have b17 := box_cell G2 17
        have a18 := box_cell G1 18
        have b18 := box_cell G2 18
        have a19 := box_cell G1 19
        have b19 := box_cell G2 19
        have a20 := box_cell G1 20
        have b20 := box_cell G2 20
        have a21 := box_cell G1 21
        have b21 := box_cell G2 21
        have a22 := box_cell G1 22
        have b22 := box_cell G2 22
        have a23 := box_cell G1 23
        have b23 := box_cell G2 23
        have a24 := box_cell G1 24
        have b24 := box_cell G2 24
        have a25 := box_cell G1 25
        have b25 := box_cell G2 25
        have a26 := box_cell G1 26
        have b26 := box_cell G2 26
        simp at a0 b0 a1 b1 a2 b2 a3 b3 a4 b4 a5 b5 a6 b6 a7 b7 a8 b8 a9 b9 a10 b10 a11 b11 a12 b12 a13 b13 a14 b14 a15 b15 a16 b16 a17 b17 a18 b18 a19 b19 a20 b20 a21 b21 a22 b22 a23 b23 a24 b24 a25 b25 a26 b26
        cases t8 with
        | false =>
          obtain rfl : false = r := HR.out
          go_wp2_with fail
          go_ret
          exact ⟨rfl, B8⟩
        | true =>
          cases t9 with
          | false =>
            obtain rfl : false = r := HR.out
            go_wp2_with fail
            go_ret
            exact ⟨rfl, B8⟩
          | true =>
            go_wp2_with fail
            refine (H10.out _ B8).mono ?_
            rintro e w10 ⟨rfl, bb⟩
            have B10 := B8.trans (bb.mono B8.size)
            replace G1 := (bb.block _ (by omega)).trans G1
            replace G2 := (bb.block _ (by omega)).trans G2
            replace hS0 := Nat.le_trans hS0 bb.size
            clear bb a0 b0 a1 b1 a2 b2 a3 b3 a4 b4 a5 b5 a6 b6 a7 b7 a8 b8 a9 b9 a10 b10 a11 b11 a12 b12 a13 b13 a14 b14 a15 b15 a16 b16 a17 b17 a18 b18 a19 b19 a20 b20 a21 b21 a22 b22 a23 b23 a24 b24 a25 b25 a26 b26
            have a0 := box_cell G1 0
            have b0 := box_cell G2 0
            have a1 := box_cell G1 1
            have b1 := box_cell G2 1
            have a2 := box_cell G1 2
            have b2 := box_cell G2 2
            have a3 := box_cell G1 3
            have b3 := box_cell G2 3
            have a4 := box_cell G1 4
            have b4 := box_cell G2 4
            have a5 := box_cell G1 5
            have b5 := box_cell G2 5
            have a6 := box_cell G1 6
            have b6 := box_cell G2 6
            have a7 := box_cell G1 7
            have b7 := box_cell G2 7
            have a8 := box_cell G1 8
            have b8 := box_cell G2 8
            have a9 := box_cell G1 9
            have b9 := box_cell G2 9
            have a10 := box_cell G1 10
            have b10 := box_cell G2 10
            have a11 := box_cell G1 11
            have b11 := box_cell G2 11
            have a12 := box_cell G1 12
            have b12 := box_cell G2 12
            have a13 := box_cell G1 13
            have b13 := box_cell G2 13
            have a14 := box_cell G1 14
            have b14 := box_cell G2 14
            have a15 := box_cell G1 15
            have b15 := box_cell G2 15
            have a16 := box_cell G1 16
            have b16 := box_cell G2 16
            have a17 := box_cell G1 17
            have b17 := box_cell G2 17
            have a18 := box_cell G1 18
            have b18 := box_cell G2 18
            have a19 := box_cell G1 19
            have b19 := box_cell G2 19
            have a20 := box_cell G1 20
            have b20 := box_cell G2 20
            have a21 := box_cell G1 21
            have b21 := box_cell G2 21
            have a22 := box_cell G1 22
            have b22 := box_cell G2 22
            have a23 := box_cell G1 23
            have b23 := box_cell G2 23
            have a24 := box_cell G1 24
            have b24 := box_cell G2 24
            have a25 := box_cell G1 25
            have b25 := box_cell G2 25
            have a26 := box_cell G1 26
            have b26 := box_cell G2 26
            simp at a0 b0 a1 b1 a2 b2 a3 b3 a4 b4 a5 b5 a6 b6 a7 b7 a8 b8 a9 b9 a10 b10 a11 b11 a12 b12 a13 b13 a14 b14 a15 b15 a16 b16 a17 b17 a18 b18 a19 b19 a20 b20 a21 b21 a22 b22 a23 b23 a24 b24 a25 b25 a26 b26
            cases t10 with
            | false =>
              obtain rfl : false = r := HR.out
              go_wp2_with fail
              go_ret
              exact ⟨rfl, B10⟩
            | true =>
              go_wp2_with fail
              refine (H11.out _ B10).mono ?_
              rintro e w11 ⟨rfl, bb⟩
              have B11 := B10.trans (bb.mono B10.size)
              replace G1 := (bb.block _ (by omega)).trans G1
              replace G2 := (bb.block _ (by omega)).trans G2
              replace hS0 := Nat.le_trans hS0 bb.size
              clear bb a0 b0 a1 b1 a2 b2 a3 b3 a4 b4 a5 b5 a6 b6 a7 b7 a8 b8 a9 b9 a10 b10 a11 b11 a12 b12 a13 b13 a14 b14 a15 b15 a16 b16 a17 b17 a18 b18 a19 b19 a20 b20 a21 b21 a22 b22 a23 b23 a24 b24 a25 b25 a26 b26
              have a0 := box_cell G1 0
              have b0 := box_cell G2 0
              have a1 := box_cell G1 1
              have b1 := box_cell G2 1
              have a2 := box_cell G1 2
              have b2 := box_cell G2 2
              have a3 := box_cell G1 3
              have b3 := box_cell G2 3
              have a4 := box_cell G1 4
              have b4 := box_cell G2 4
              have a5 := box_cell G1 5
              have b5 := box_cell G2 5
              have a6 := box_cell G1 6
              have b6 := box_cell G2 6
              have a7 := box_cell G1 7
              have b7 := box_cell G2 7
              have a8 := box_cell G1 8
              have b8 := box_cell G2 8
              have a9 := box_cell G1 9
              have b9 := box_cell G2 9
              have a10 := box_cell G1 10
              have b10 := box_cell G2 10
              have a11 := box_cell G1 11
              have b11 := box_cell G2 11
              have a12 := box_cell G1 12
              have b12 := box_cell G2 12
              have a13 := box_cell G1 13
              have b13 := box_cell G2 13
              have a14 := box_cell G1 14
              have b14 := box_cell G2 14
              have a15 := box_cell G1 15
              have b15 := box_cell G2 15
              have a16 := box_cell G1 16
              have b16 := box_cell G2 16
              have a17 := box_cell G1 17
              have b17 := box_cell G2 17
              have a18 := box_cell G1 18
              have b18 := box_cell G2 18
              have a19 := box_cell G1 19
              have b19 := box_cell G2 19
              have a20 := box_cell G1 20
              have b20 := box_cell G2 20
              have a21 := box_cell G1 21
              have b21 := box_cell G2 21
              have a22 := box_cell G1 22
              have b22 := box_cell G2 22
              have a23 := box_cell G1 23
              have b23 := box_cell G2 23
              have a24 := box_cell G1 24
              have b24 := box_cell G2 24
              have a25 := box_cell G1 25
              have b25 := box_cell G2 25
              have a26 := box_cell G1 26
              have b26 := box_cell G2 26
              simp at a0 b0 a1 b1 a2 b2 a3 b3 a4 b4 a5 b5 a6 b6 a7 b7 a8 b8 a9 b9 a10 b10 a11 b11 a12 b12 a13 b13 a14 b14 a15 b15 a16 b16 a17 b17 a18 b18 a19 b19 a20 b20 a21 b21 a22 b22 a23 b23 a24 b24 a25 b25 a26 b26
              cases t11 with
              | false =>
                obtain rfl : false = r := HR.out
                go_wp2_with fail
                go_ret
                exact ⟨rfl, B11⟩
              | true =>
                go_wp2_with fail
                refine (H25.out _ B11).mono ?_
                rintro e w25 ⟨rfl, bb⟩
                have B25 := B11.trans (bb.mono B11.size)
                replace G1 := (bb.block _ (by omega)).trans G1
                replace G2 := (bb.block _ (by omega)).trans G2
                replace hS0 := Nat.le_trans hS0 bb.size
                clear bb a0 b0 a1 b1 a2 b2 a3 b3 a4 b4 a5 b5 a6 b6 a7 b7 a8 b8 a9 b9 a10 b10 a11 b11 a12 b12 a13 b13 a14 b14 a15 b15 a16 b16 a17 b17 a18 b18 a19 b19 a20 b20 a21 b21 a22 b22 a23 b23 a24 b24 a25 b25 a26 b26
                cases t25 with
                | false =>
                  obtain rfl : false = r := HR.out
                  go_wp2_with fail
                  go_ret
                  exact ⟨rfl, B25⟩
                | true =>
                  obtain rfl : true = r := HR.out
                  go_wp2_with fail
                  go_ret
                  exact ⟨rfl, B25⟩
end Go.Proofs.Ythmbfkgahkihfaa
