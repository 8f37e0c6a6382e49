/-
  Several texts in one: The struct Rules: what can be read of it, what may be written and in which blocks; the laws' helpers over it. The struct Game: what can be read of it, what may be written and in which blocks; the laws' helpers over it. Cards: IsCard, SuitOf, RankOf by contract, the program's and the model's. Contracts of the model's functions of chapters 4 and 5: cards and hands. Hands as the bits of one number: bitOf, the two tests, IsHand (the program's), by contract. setOf by contract: a hand as a set of bits; hands that are apart. AllApart by contract, both sides. Patterns: what the signs of a pattern come to, as functions of a card. No program in this text.
-/
import Derived.Test.YtmhbonbjnpcpeaaGreatDoorM4
import Derived.Deep.Cut
import Derived.Test.YtmhbonbjnpcpeaaGreatDoorRows
import Derived.WalkKit
import Derived.WalkLawsBesides
import Derived.WalkSpells
import Derived.LoopTactic
import Derived.Lib.Hide
namespace Go.Proofs.YtmhbonbjnpcpeaaGreatDoor
open Go.RowKit
set_option linter.unusedVariables false
set_option linter.unusedSimpArgs false

/-- .. and its lists may be written, each in blocks of its own out of S. -/
def WrRules (S : Nat → Prop) (w : World) (v : Value) (D : MRules) : Prop :=
  ∃ (p4 p5 : Option Addr) (c4 c5 : Nat) (S4 S5 : Nat → Prop), v = .agg #[.int .i64 D.players, .int .i64 D.each, .bool D.sameSuit, .bool D.sameRank, .slice p4 D.wild.length c4, .slice p5 D.skip.length c5, .int .i64 D.take, .int .i64 D.limit] ∧ WrIn .i64 S4 w (.slice p4 D.wild.length c4) D.wild ∧ WrIn .i64 S5 w (.slice p5 D.skip.length c5) D.skip ∧ (∀ b, S4 b → S b) ∧ (∀ b, S5 b → S b) ∧ (∀ b, S4 b → ¬ S5 b) ∧ (Lit.int .i64 D.players).wf = true ∧ (Lit.int .i64 D.each).wf = true ∧ (Lit.int .i64 D.take).wf = true ∧ (Lit.int .i64 D.limit).wf = true
theorem WrRules.rd {S : Nat → Prop} {w : World} {v : Value} {D : MRules} (h : WrRules S w v D) : RdRules w v D := by
  obtain ⟨p4, p5, c4, c5, S4, S5, e, h4, h5, s4, s5, d0_1, wf0, wf1, wf2, wf3⟩ := h
  obtain ⟨b4, r4⟩ := h4.rd
  obtain ⟨b5, r5⟩ := h5.rd
  exact ⟨_, _, b4, b5, e, r4, r5, wf0, wf1, wf2, wf3⟩
theorem WrRules.touch {S U : Nat → Prop} {w w' : World} {v : Value} {D : MRules} (h : WrRules S w v D) (t : Touch U w w') (hd : ∀ b, S b → ¬ U b) : WrRules S w' v D := by
  obtain ⟨p4, p5, c4, c5, S4, S5, e, h4, h5, s4, s5, d0_1, wf0, wf1, wf2, wf3⟩ := h
  exact ⟨p4, p5, c4, c5, S4, S5, e, h4.touch t (fun b hb => hd b (s4 b hb)), h5.touch t (fun b hb => hd b (s5 b hb)), s4, s5, d0_1, wf0, wf1, wf2, wf3⟩
theorem WrRules.below {S : Nat → Prop} {w w' : World} {v : Value} {D : MRules} (h : WrRules S w v D) (b : Below w.heap.size w w') : WrRules S w' v D := h.touch (Below.touch (S := fun _ => False) b) (fun _ _ hx => hx)
theorem WrRules.mono {S U : Nat → Prop} {w : World} {v : Value} {D : MRules} (h : WrRules S w v D) (hs : ∀ b, S b → U b) : WrRules U w v D := by
  obtain ⟨p4, p5, c4, c5, S4, S5, e, h4, h5, s4, s5, d0_1, wf0, wf1, wf2, wf3⟩ := h
  exact ⟨p4, p5, c4, c5, S4, S5, e, h4, h5, fun b hb => hs b (s4 b hb), fun b hb => hs b (s5 b hb), d0_1, wf0, wf1, wf2, wf3⟩
theorem WrRules.shape {S : Nat → Prop} {w : World} {v : Value} {D : MRules} (h : WrRules S w v D) : ∃ (p4 p5 : Option Addr) (c4 c5 : Nat), v = .agg #[.int .i64 D.players, .int .i64 D.each, .bool D.sameSuit, .bool D.sameRank, .slice p4 D.wild.length c4, .slice p5 D.skip.length c5, .int .i64 D.take, .int .i64 D.limit] := by
  obtain ⟨p4, p5, c4, c5, S4, S5, e, h4, h5, s4, s5, d0_1, wf0, wf1, wf2, wf3⟩ := h
  exact ⟨p4, p5, c4, c5, e⟩

set_option maxRecDepth 100000 in
set_option maxHeartbeats 1000000 in
theorem toRules_w (v : Value) (D : MRules) (w : World) (h : RdRules w v D) (hf : D.Few) :
    Calls Tryz.prog 16 #[v] w fun e w' => ∃ v', e = .returned v' ∧ WrRules (In w.heap.size w'.heap.size) w' v' D ∧ Below w.heap.size w w' := by
  obtain ⟨v4, v5, b4, b5, rfl, h4, h5, wf0, wf1, wf2, wf3⟩ := h
  obtain ⟨p4, c4, e4, -⟩ := id h4
  subst e4
  obtain ⟨p5, c5, e5, -⟩ := id h5
  subst e5
  obtain ⟨f4, f5⟩ := hf
  have Q := Lib.hid (threeBoxes w (.cells #[.int .i64 D.players, .int .i64 D.each, .bool D.sameSuit, .bool D.sameRank, .slice p4 D.wild.length c4, .slice p5 D.skip.length c5, .int .i64 D.take, .int .i64 D.limit] 24) (.cells #[.int .i64 0, .int .i64 0, .bool false, .bool false, .slice none 0 0, .slice none 0 0, .int .i64 0, .int .i64 0] 30) (.cells #[.int .i64 D.players, .int .i64 D.each, .bool D.sameSuit, .bool D.sameRank, .slice none 0 0, .slice none 0 0, .int .i64 0, .int .i64 0] 30))
  obtain ⟨W0, hW0⟩ : ∃ W0, W0 = (((w.alloc (.cells #[.int .i64 D.players, .int .i64 D.each, .bool D.sameSuit, .bool D.sameRank, .slice p4 D.wild.length c4, .slice p5 D.skip.length c5, .int .i64 D.take, .int .i64 D.limit] 24)).alloc (.cells #[.int .i64 0, .int .i64 0, .bool false, .bool false, .slice none 0 0, .slice none 0 0, .int .i64 0, .int .i64 0] 30)).alloc (.cells #[.int .i64 D.players, .int .i64 D.each, .bool D.sameSuit, .bool D.sameRank, .slice none 0 0, .slice none 0 0, .int .i64 0, .int .i64 0] 30)) := ⟨_, rfl⟩
  have B : Below w.heap.size w W0 := by rw [hW0]; exact (((Below.refl _ _).alloc (Nat.le_refl _) _).alloc (by simp) _).alloc (by simp; omega) _
  obtain ⟨bl, hbl⟩ : ∃ b, b = w.heap.size + 1 + 1 := ⟨_, rfl⟩
  obtain ⟨br, hbr⟩ : ∃ b, b = w.heap.size + 1 := ⟨_, rfl⟩
  have hS0 : bl < W0.heap.size := by rw [hW0, hbl]; simp
  rw [← hW0] at Q
  have HW := Lib.hid hW0
  clear hW0
  obtain ⟨G1, G2, G3⟩ := Q.out
  clear Q
  have e3 : w.heap.size + 2 = bl := by omega
  rw [← hbr] at G2
  rw [e3] at G3
  have hd1 : w.heap.size < br := by omega
  have hd2 : br < bl := by omega
  have Hbl := Lib.hid hbl
  have Hbr := Lib.hid hbr
  clear hbl hbr e3
  go_enter Tryz.func16, Tryz.ntmps16
  go_wp2_with fail
  rw [← HW.out, ← Hbl.out, ← Hbr.out]
  refine (toIntS_any _ _ _ W0 (h4.below B) (by omega)).mono ?_
  rintro e w4 ⟨u4, rfl, y4, bb, -⟩
  have x4 := WrIn.of (lo := W0.heap.size) y4 (Nat.le_refl _)
  clear y4
  obtain ⟨pu4, cu4, eu⟩ := x4.shape
  subst eu
  have l4 : bl < W0.heap.size := hS0
  have HQ4 : Hid (W0.heap.size ≤ w4.heap.size) := Lib.hid bb.size
  have HB4 : Hid (w.heap.size ≤ W0.heap.size) := Lib.hid B.size
  replace B := B.trans (bb.mono B.size)
  replace G1 := (bb.block _ (by omega)).trans G1
  replace G2 := (bb.block _ (by omega)).trans G2
  replace G3 := (bb.block _ (by omega)).trans G3
  replace hS0 := Nat.lt_of_lt_of_le hS0 bb.size
  clear bb
  have c1_5 := box_cell G1 5
  have c3_4 := box_cell G3 4
  have z3_4 := box_free G3 4
  simp at c1_5 c3_4
  go_wp2_with fail
  obtain ⟨X5, hX5⟩ : ∃ X, X = (w4.setCell ⟨bl, 4, none⟩ (.slice pu4 D.wild.length cu4)) := ⟨_, rfl⟩
  have N3 := (box_set G3 4 (.slice pu4 D.wild.length cu4))
  rw [← hX5] at N3
  have K5 : ∀ i, i ≠ bl → X5.heap[i]? = w4.heap[i]? := fun i hi => by rw [hX5]; rw [Below.heap_setCell _ _ _ _ hi]
  have Z5 : X5.heap.size = w4.heap.size := by rw [hX5]; simp [World.setCell]
  have NB : Below w.heap.size w X5 := by rw [hX5]; exact (B.setCell (show w.heap.size ≤ bl by omega) (.slice pu4 D.wild.length cu4))
  have b0 : Below 0 w4 X5 := by rw [hX5]; exact ((Below.refl 0 w4).setCell (Nat.zero_le _) (.slice pu4 D.wild.length cu4))
  have tX : Touch (fun k => k = bl) w4 X5 := ⟨b0.os, b0.tape, b0.output, b0.size, fun k _ hn => K5 k hn⟩
  clear b0
  replace G1 := (K5 _ (by omega)).trans G1
  replace G2 := (K5 _ (by omega)).trans G2
  replace hS0 : bl < X5.heap.size := by rw [Z5]; exact hS0
  replace x4 := x4.touch tX (fun b h1 h2 => by have := h1.1; have := l4; omega)
  have HZ5 := Lib.hid Z5
  rw [← hX5]
  clear hX5 B G3 K5 Z5 tX c1_5 c3_4 z3_4
  have G3 := N3
  have B := NB
  clear N3 NB
  simp only [List.setIfInBounds_toArray, List.set_cons_zero, List.set_cons_succ] at G3
  refine (toIntS_any _ _ _ X5 (h5.below B) (by omega)).mono ?_
  rintro e w5 ⟨u5, rfl, y5, bb, -⟩
  have x5 := WrIn.of (lo := X5.heap.size) y5 (Nat.le_refl _)
  clear y5
  obtain ⟨pu5, cu5, eu⟩ := x5.shape
  subst eu
  have l5 : bl < X5.heap.size := hS0
  have HQ5 : Hid (X5.heap.size ≤ w5.heap.size) := Lib.hid bb.size
  have HB5 : Hid (w.heap.size ≤ X5.heap.size) := Lib.hid B.size
  replace B := B.trans (bb.mono B.size)
  replace G1 := (bb.block _ (by omega)).trans G1
  replace G2 := (bb.block _ (by omega)).trans G2
  replace G3 := (bb.block _ (by omega)).trans G3
  replace hS0 := Nat.lt_of_lt_of_le hS0 bb.size
  replace x4 := x4.touch (Below.touch (S := fun _ => False) bb) (fun _ _ hx => hx)
  clear bb
  have c1_6 := box_cell G1 6
  have c1_7 := box_cell G1 7
  have c3_5 := box_cell G3 5
  have z3_5 := box_free G3 5
  have c3_6 := box_cell G3 6
  have z3_6 := box_free G3 6
  have c3_7 := box_cell G3 7
  have z3_7 := box_free G3 7
  simp at c1_6 c1_7 c3_5 c3_6 c3_7
  have G3f := (box_set (box_set (box_set G3 5 (.slice pu5 D.skip.length cu5)) 6 (.int .i64 D.take)) 7 (.int .i64 D.limit))
  simp only [List.setIfInBounds_toArray, List.set_cons_zero, List.set_cons_succ] at G3f
  have G2a : (((w5.setCell ⟨bl, 5, none⟩ (.slice pu5 D.skip.length cu5)).setCell ⟨bl, 6, none⟩ (.int .i64 D.take)).setCell ⟨bl, 7, none⟩ (.int .i64 D.limit)).heap[br]? = some (.cells #[.int .i64 0, .int .i64 0, .bool false, .bool false, .slice none 0 0, .slice none 0 0, .int .i64 0, .int .i64 0] 30 (0, 0)) := by
    rw [Below.heap_setCell _ _ _ _ (show br ≠ bl by omega), Below.heap_setCell _ _ _ _ (show br ≠ bl by omega), Below.heap_setCell _ _ _ _ (show br ≠ bl by omega)]; exact G2
  obtain ⟨X0, hX0⟩ : ∃ X, X = (((w5.setCell ⟨bl, 5, none⟩ (.slice pu5 D.skip.length cu5)).setCell ⟨bl, 6, none⟩ (.int .i64 D.take)).setCell ⟨bl, 7, none⟩ (.int .i64 D.limit)) := ⟨_, rfl⟩
  have G3x : X0.heap[bl]? = some (.cells #[.int .i64 D.players, .int .i64 D.each, .bool D.sameSuit, .bool D.sameRank, .slice pu4 D.wild.length cu4, .slice pu5 D.skip.length cu5, .int .i64 D.take, .int .i64 D.limit] 30 (0, 0)) := by rw [hX0]; exact G3f
  have G2x : X0.heap[br]? = some (.cells #[.int .i64 0, .int .i64 0, .bool false, .bool false, .slice none 0 0, .slice none 0 0, .int .i64 0, .int .i64 0] 30 (0, 0)) := by rw [hX0]; exact G2a
  have HX0 := Lib.hid hX0
  clear G3f G2a hX0
  go_upto_region 10 with fail
  rw [← HX0.out]
  clear c1_6 c1_7 c3_5 z3_5 c3_6 z3_6 c3_7 z3_7
  refine wp_region_lit ?_
  refine wpList_load_row rfl 30 _ rfl bl rfl 30 _ _ _ G3x Tryz.underlying30 rfl (by kernel_rfl) ?_
  refine wpList_store_row rfl 30 _ _ rfl br #[.int .i64 D.players, .int .i64 D.each, .bool D.sameSuit, .bool D.sameRank, .slice pu4 D.wild.length cu4, .slice pu5 D.skip.length cu5, .int .i64 D.take, .int .i64 D.limit] rfl rfl 30 _ G2x (by kernel_rfl) rfl (by simp [Value.oneCell']) ?_
  go_wp2_with fail
  obtain ⟨X, hX⟩ : ∃ X, X = (X0.setRow br #[.int .i64 D.players, .int .i64 D.each, .bool D.sameSuit, .bool D.sameRank, .slice pu4 D.wild.length cu4, .slice pu5 D.skip.length cu5, .int .i64 D.take, .int .i64 D.limit]) := ⟨_, rfl⟩
  have N2 := setRow_heap X0 br _ #[.int .i64 D.players, .int .i64 D.each, .bool D.sameSuit, .bool D.sameRank, .slice pu4 D.wild.length cu4, .slice pu5 D.skip.length cu5, .int .i64 D.take, .int .i64 D.limit] _ _ G2x
  rw [← hX] at N2
  have K : ∀ i, i ≠ bl → i ≠ br → X.heap[i]? = w5.heap[i]? := fun i hi hr => by rw [hX, HX0.out]; rw [setRow_other _ _ _ _ hr, Below.heap_setCell _ _ _ _ hi, Below.heap_setCell _ _ _ _ hi, Below.heap_setCell _ _ _ _ hi]
  have Z : X.heap.size = w5.heap.size := by rw [hX, HX0.out]; simp [World.setCell]
  have NB : Below w.heap.size w X := by rw [hX, HX0.out]; exact below_setRow (((B.setCell (show w.heap.size ≤ bl by omega) (.slice pu5 D.skip.length cu5)).setCell (show w.heap.size ≤ bl by omega) (.int .i64 D.take)).setCell (show w.heap.size ≤ bl by omega) (.int .i64 D.limit)) (by omega) _
  have b0 : Below 0 w5 X := by rw [hX, HX0.out]; exact below_setRow ((((Below.refl 0 w5).setCell (Nat.zero_le _) (.slice pu5 D.skip.length cu5)).setCell (Nat.zero_le _) (.int .i64 D.take)).setCell (Nat.zero_le _) (.int .i64 D.limit)) (Nat.zero_le _) _
  have tX : Touch (fun k => k = bl ∨ k = br) w5 X := ⟨b0.os, b0.tape, b0.output, b0.size, fun k _ hn => K k (fun e => hn (.inl e)) (fun e => hn (.inr e))⟩
  clear b0
  rw [← hX]
  replace x4 := x4.touch tX (fun b h1 h2 => by have := h1.1; have := l4; omega)
  replace x5 := x5.touch tX (fun b h1 h2 => by have := h1.1; have := l5; omega)
  have q4 := HQ4.out
  have qb4 := HB4.out
  have q5 := HQ5.out
  have qb5 := HB5.out
  have qz5 := HZ5.out
  have HWr : WrRules (In w.heap.size X.heap.size) X (.agg #[.int .i64 D.players, .int .i64 D.each, .bool D.sameSuit, .bool D.sameRank, .slice pu4 D.wild.length cu4, .slice pu5 D.skip.length cu5, .int .i64 D.take, .int .i64 D.limit]) D := ⟨pu4, pu5, cu4, cu5, (In W0.heap.size w4.heap.size), (In X5.heap.size w5.heap.size), rfl, x4, x5, (fun b hb => by obtain ⟨h1, h2⟩ := hb; constructor <;> omega), (fun b hb => by obtain ⟨h1, h2⟩ := hb; constructor <;> omega), (fun b h1 h2 => by obtain ⟨a1, a2⟩ := h1; obtain ⟨a3, a4⟩ := h2; omega), wf0, wf1, wf2, wf3⟩
  (try simp only [Exit.inBlock, Exit.then]); refine bodyPost_ret (results_cell_row rfl _ _ br _ _ _ _ rfl N2 Tryz.underlying30 rfl (by kernel_rfl)) rfl ?_
  exact ⟨_, rfl, HWr, NB⟩
def MRules.total (D : MRules) : Nat := D.wild.length + D.skip.length
def MRules.marked (D : MRules) (k : Int) : MRules := { D with wild := marksI (k) D.wild.length, skip := marksI (k + (D.wild.length : Nat)) D.skip.length }
theorem MRules.total_le {D : MRules} (hf : D.Few) : D.total ≤ 2097152 := by
  obtain ⟨f4, f5⟩ := hf
  unfold MRules.total
  omega

end Go.Proofs.YtmhbonbjnpcpeaaGreatDoor
namespace Go.Proofs.YtmhbonbjnpcpeaaGreatDoor
open Go.RowKit
set_option linter.unusedVariables false
set_option linter.unusedSimpArgs false

structure MGame where
  rules : MRules
  hands : List (List Int)
  stock : List Int
  heap : List Int
  turn : Int
  moves : Int
  passes : Int
/-- The value v is such a struct, with the numbers D. -/
def RdGame (w : World) (v : Value) (D : MGame) : Prop :=
  ∃ (p4 p5 p8 p9 p10 : Option Addr) (c4 c5 c8 c9 c10 b9 b10 : Nat), v = .agg #[.int .i64 D.rules.players, .int .i64 D.rules.each, .bool D.rules.sameSuit, .bool D.rules.sameRank, .slice p4 D.rules.wild.length c4, .slice p5 D.rules.skip.length c5, .int .i64 D.rules.take, .int .i64 D.rules.limit, .slice p8 D.hands.length c8, .slice p9 D.stock.length c9, .slice p10 D.heap.length c10, .int .i64 D.turn, .int .i64 D.moves, .int .i64 D.passes] ∧ RdRules w (.agg #[.int .i64 D.rules.players, .int .i64 D.rules.each, .bool D.rules.sameSuit, .bool D.rules.sameRank, .slice p4 D.rules.wild.length c4, .slice p5 D.rules.skip.length c5, .int .i64 D.rules.take, .int .i64 D.rules.limit]) D.rules ∧ RdRows .i64 w (.slice p8 D.hands.length c8) D.hands ∧ RdAt .i64 w (.slice p9 D.stock.length c9) D.stock b9 ∧ RdAt .i64 w (.slice p10 D.heap.length c10) D.heap b10 ∧ (Lit.int .i64 D.turn).wf = true ∧ (Lit.int .i64 D.moves).wf = true ∧ (Lit.int .i64 D.passes).wf = true
theorem RdGame.below {w w' : World} {v : Value} {D : MGame} (h : RdGame w v D) (hb : Below w.heap.size w w') : RdGame w' v D := by
  obtain ⟨p4, p5, p8, p9, p10, c4, c5, c8, c9, c10, b9, b10, e, h0, h8, h9, h10, wf0, wf1, wf2⟩ := h
  exact ⟨p4, p5, p8, p9, p10, c4, c5, c8, c9, c10, b9, b10, e, h0.below hb, h8.below hb, h9.below hb, h10.below hb, wf0, wf1, wf2⟩
def MGame.Few (D : MGame) : Prop := D.rules.Few ∧ D.hands.length ≤ 1048576 ∧ sumLen D.hands ≤ 1048576 ∧ D.stock.length ≤ 1048576 ∧ D.heap.length ≤ 1048576
theorem RdGame.shape {w : World} {v : Value} {D : MGame} (h : RdGame w v D) : ∃ (p4 p5 p8 p9 p10 : Option Addr) (c4 c5 c8 c9 c10 : Nat), v = .agg #[.int .i64 D.rules.players, .int .i64 D.rules.each, .bool D.rules.sameSuit, .bool D.rules.sameRank, .slice p4 D.rules.wild.length c4, .slice p5 D.rules.skip.length c5, .int .i64 D.rules.take, .int .i64 D.rules.limit, .slice p8 D.hands.length c8, .slice p9 D.stock.length c9, .slice p10 D.heap.length c10, .int .i64 D.turn, .int .i64 D.moves, .int .i64 D.passes] := by
  obtain ⟨p4, p5, p8, p9, p10, c4, c5, c8, c9, c10, b9, b10, e, h0, h8, h9, h10, wf0, wf1, wf2⟩ := h
  exact ⟨p4, p5, p8, p9, p10, c4, c5, c8, c9, c10, e⟩
theorem SGame_cells {w : World} {b : Nat} {a0 a1 a2 a3 a4 a5 a6 a7 a8 a9 a10 a11 a12 a13 : Value} {t : TypeId} {fr : Nat × Nat} (h : w.heap[b]? = some (.cells #[a0, a1, a2, a3, a4, a5, a6, a7, a8, a9, a10, a11, a12, a13] t fr)) : w.cell? ⟨b, 0, none⟩ = some a0 ∧ w.cell? ⟨b, 1, none⟩ = some a1 ∧ w.cell? ⟨b, 2, none⟩ = some a2 ∧ w.cell? ⟨b, 3, none⟩ = some a3 ∧ w.cell? ⟨b, 4, none⟩ = some a4 ∧ w.cell? ⟨b, 5, none⟩ = some a5 ∧ w.cell? ⟨b, 6, none⟩ = some a6 ∧ w.cell? ⟨b, 7, none⟩ = some a7 ∧ w.cell? ⟨b, 8, none⟩ = some a8 ∧ w.cell? ⟨b, 9, none⟩ = some a9 ∧ w.cell? ⟨b, 10, none⟩ = some a10 ∧ w.cell? ⟨b, 11, none⟩ = some a11 ∧ w.cell? ⟨b, 12, none⟩ = some a12 ∧ w.cell? ⟨b, 13, none⟩ = some a13 := by
  simp [World.cell?, h]
/-- .. and its lists may be written, each in blocks of its own out of S. -/
def WrGame (S : Nat → Prop) (w : World) (v : Value) (D : MGame) : Prop :=
  ∃ (p4 p5 p8 p9 p10 : Option Addr) (c4 c5 c8 c9 c10 : Nat) (S0 S8 S9 S10 : Nat → Prop), v = .agg #[.int .i64 D.rules.players, .int .i64 D.rules.each, .bool D.rules.sameSuit, .bool D.rules.sameRank, .slice p4 D.rules.wild.length c4, .slice p5 D.rules.skip.length c5, .int .i64 D.rules.take, .int .i64 D.rules.limit, .slice p8 D.hands.length c8, .slice p9 D.stock.length c9, .slice p10 D.heap.length c10, .int .i64 D.turn, .int .i64 D.moves, .int .i64 D.passes] ∧ WrRules S0 w (.agg #[.int .i64 D.rules.players, .int .i64 D.rules.each, .bool D.rules.sameSuit, .bool D.rules.sameRank, .slice p4 D.rules.wild.length c4, .slice p5 D.rules.skip.length c5, .int .i64 D.rules.take, .int .i64 D.rules.limit]) D.rules ∧ WrSS .i64 S8 w (.slice p8 D.hands.length c8) D.hands ∧ WrIn .i64 S9 w (.slice p9 D.stock.length c9) D.stock ∧ WrIn .i64 S10 w (.slice p10 D.heap.length c10) D.heap ∧ (∀ b, S0 b → S b) ∧ (∀ b, S8 b → S b) ∧ (∀ b, S9 b → S b) ∧ (∀ b, S10 b → S b) ∧ (∀ b, S0 b → ¬ S8 b) ∧ (∀ b, S0 b → ¬ S9 b) ∧ (∀ b, S0 b → ¬ S10 b) ∧ (∀ b, S8 b → ¬ S9 b) ∧ (∀ b, S8 b → ¬ S10 b) ∧ (∀ b, S9 b → ¬ S10 b) ∧ (Lit.int .i64 D.turn).wf = true ∧ (Lit.int .i64 D.moves).wf = true ∧ (Lit.int .i64 D.passes).wf = true
theorem WrGame.rd {S : Nat → Prop} {w : World} {v : Value} {D : MGame} (h : WrGame S w v D) : RdGame w v D := by
  obtain ⟨p4, p5, p8, p9, p10, c4, c5, c8, c9, c10, S0, S8, S9, S10, e, h0, h8, h9, h10, s0, s8, s9, s10, d0_1, d0_2, d0_3, d1_2, d1_3, d2_3, wf0, wf1, wf2⟩ := h
  have r0 := h0.rd
  have r8 := h8.rd
  obtain ⟨b9, r9⟩ := h9.rd
  obtain ⟨b10, r10⟩ := h10.rd
  exact ⟨p4, p5, p8, p9, p10, c4, c5, c8, c9, c10, b9, b10, e, r0, r8, r9, r10, wf0, wf1, wf2⟩
theorem WrGame.touch {S U : Nat → Prop} {w w' : World} {v : Value} {D : MGame} (h : WrGame S w v D) (t : Touch U w w') (hd : ∀ b, S b → ¬ U b) : WrGame S w' v D := by
  obtain ⟨p4, p5, p8, p9, p10, c4, c5, c8, c9, c10, S0, S8, S9, S10, e, h0, h8, h9, h10, s0, s8, s9, s10, d0_1, d0_2, d0_3, d1_2, d1_3, d2_3, wf0, wf1, wf2⟩ := h
  exact ⟨p4, p5, p8, p9, p10, c4, c5, c8, c9, c10, S0, S8, S9, S10, e, h0.touch t (fun b hb => hd b (s0 b hb)), h8.touch t (fun b hb => hd b (s8 b hb)), h9.touch t (fun b hb => hd b (s9 b hb)), h10.touch t (fun b hb => hd b (s10 b hb)), s0, s8, s9, s10, d0_1, d0_2, d0_3, d1_2, d1_3, d2_3, wf0, wf1, wf2⟩
theorem WrGame.below {S : Nat → Prop} {w w' : World} {v : Value} {D : MGame} (h : WrGame S w v D) (b : Below w.heap.size w w') : WrGame S w' v D := h.touch (Below.touch (S := fun _ => False) b) (fun _ _ hx => hx)
theorem WrGame.mono {S U : Nat → Prop} {w : World} {v : Value} {D : MGame} (h : WrGame S w v D) (hs : ∀ b, S b → U b) : WrGame U w v D := by
  obtain ⟨p4, p5, p8, p9, p10, c4, c5, c8, c9, c10, S0, S8, S9, S10, e, h0, h8, h9, h10, s0, s8, s9, s10, d0_1, d0_2, d0_3, d1_2, d1_3, d2_3, wf0, wf1, wf2⟩ := h
  exact ⟨p4, p5, p8, p9, p10, c4, c5, c8, c9, c10, S0, S8, S9, S10, e, h0, h8, h9, h10, fun b hb => hs b (s0 b hb), fun b hb => hs b (s8 b hb), fun b hb => hs b (s9 b hb), fun b hb => hs b (s10 b hb), d0_1, d0_2, d0_3, d1_2, d1_3, d2_3, wf0, wf1, wf2⟩
theorem WrGame.shape {S : Nat → Prop} {w : World} {v : Value} {D : MGame} (h : WrGame S w v D) : ∃ (p4 p5 p8 p9 p10 : Option Addr) (c4 c5 c8 c9 c10 : Nat), v = .agg #[.int .i64 D.rules.players, .int .i64 D.rules.each, .bool D.rules.sameSuit, .bool D.rules.sameRank, .slice p4 D.rules.wild.length c4, .slice p5 D.rules.skip.length c5, .int .i64 D.rules.take, .int .i64 D.rules.limit, .slice p8 D.hands.length c8, .slice p9 D.stock.length c9, .slice p10 D.heap.length c10, .int .i64 D.turn, .int .i64 D.moves, .int .i64 D.passes] := by
  obtain ⟨p4, p5, p8, p9, p10, c4, c5, c8, c9, c10, S0, S8, S9, S10, e, h0, h8, h9, h10, s0, s8, s9, s10, d0_1, d0_2, d0_3, d1_2, d1_3, d2_3, wf0, wf1, wf2⟩ := h
  exact ⟨p4, p5, p8, p9, p10, c4, c5, c8, c9, c10, e⟩

set_option maxRecDepth 100000 in
set_option maxHeartbeats 1000000 in
theorem szGame_any (v : Value) (D : MGame) (left : Int) (w : World) (h : RdGame w v D) (hl0 : 0 ≤ left) (hl1 : left ≤ 1048576) :
    Calls Tryz.prog 4 #[v, .int .i64 left] w fun e w' => (∃ r : Int, e = .returned (.int .i64 r) ∧ -1 ≤ r ∧ r ≤ 1048576 ∧ (0 ≤ r → D.Few)) ∧ Below w.heap.size w w' := by
  obtain ⟨p4, p5, p8, p9, p10, c4, c5, c8, c9, c10, b9, b10, rfl, h0, h8, h9, h10, wf0, wf1, wf2⟩ := h
  obtain ⟨W0, hW0⟩ : ∃ W, W = w.alloc (.cells #[.int .i64 D.rules.players, .int .i64 D.rules.each, .bool D.rules.sameSuit, .bool D.rules.sameRank, .slice p4 D.rules.wild.length c4, .slice p5 D.rules.skip.length c5, .int .i64 D.rules.take, .int .i64 D.rules.limit, .slice p8 D.hands.length c8, .slice p9 D.stock.length c9, .slice p10 D.heap.length c10, .int .i64 D.turn, .int .i64 D.moves, .int .i64 D.passes] 27) := ⟨_, rfl⟩
  have G1 : W0.heap[w.heap.size]? = some (.cells #[.int .i64 D.rules.players, .int .i64 D.rules.each, .bool D.rules.sameSuit, .bool D.rules.sameRank, .slice p4 D.rules.wild.length c4, .slice p5 D.rules.skip.length c5, .int .i64 D.rules.take, .int .i64 D.rules.limit, .slice p8 D.hands.length c8, .slice p9 D.stock.length c9, .slice p10 D.heap.length c10, .int .i64 D.turn, .int .i64 D.moves, .int .i64 D.passes] 27 (0, 0)) := by rw [hW0]; exact heap_alloc_new _ _
  have B : Below w.heap.size w W0 := by rw [hW0]; exact (Below.refl _ _).alloc (Nat.le_refl _) _
  have l1 : w.heap.size < W0.heap.size := by rw [hW0]; simp
  have HW := Lib.hid hW0
  clear hW0
  go_enter Tryz.func4, Tryz.ntmps4
  go_wp2_with fail
  rw [← HW.out]
  refine (szRules_any _ _ left _ (h0.below B) (by omega) (by omega)).mono ?_
  rintro e w0 ⟨⟨r0, rfl, rn0, rm0, hr0⟩, bb0⟩
  replace B := B.trans (bb0.mono B.size)
  replace G1 := (bb0.block _ l1).trans G1
  replace l1 := Nat.lt_of_lt_of_le l1 bb0.size
  clear bb0
  by_cases hneg0 : r0 < 0
  · go_wp2_with fail
    go_ret
    exact ⟨⟨-1, rfl, by omega, by omega, fun h => by omega⟩, B⟩
  have g0 : D.rules.Few := hr0 (by omega)
  clear hr0
  have k8 := box_cell G1 8
  simp at k8
  go_wp2_with fail
  refine (szIntSS_any _ _ r0 _ (h8.below B) (by omega) (by omega)).mono ?_
  rintro e _w ⟨⟨r8, rfl, rn8, rm8, hr8⟩, rfl⟩
  by_cases hneg8 : r8 < 0
  · go_wp2_with fail
    go_ret
    exact ⟨⟨-1, rfl, by omega, by omega, fun h => by omega⟩, B⟩
  have g8 : D.hands.length ≤ 1048576 := by have := hr8 (by omega); omega
  have gs8 : sumLen D.hands ≤ 1048576 := by have := hr8 (by omega); omega
  clear hr8
  have k9 := box_cell G1 9
  simp at k9
  go_wp2_with fail
  have hm9 : D.stock.length ≤ 9223372036854775807 := by have := h9.len; unfold maxLen at this; omega
  have HC9 := Lib.hid (fun wx => szIntS_any p9 D.stock.length c9 (r8) wx (by omega) (by omega) hm9)
  by_cases hx9 : (r8) < D.stock.length
  · rw [if_pos hx9] at HC9
    refine (HC9.out _).mono ?_
    rintro e _w ⟨rfl, rfl⟩
    go_wp2_with fail
    go_ret
    exact ⟨⟨-1, rfl, by omega, by omega, fun h => by omega⟩, B⟩
  rw [if_neg hx9] at HC9
  obtain ⟨r9, hr9⟩ : ∃ r, r = (r8) - (D.stock.length : Int) := ⟨_, rfl⟩
  rw [← hr9] at HC9
  have g9 : D.stock.length ≤ 1048576 := by omega
  have ra9 : 0 ≤ r9 := by omega
  have rb9 : r9 ≤ 1048576 := by omega
  clear hr9 hx9 hm9
  refine (HC9.out _).mono ?_
  rintro e _w ⟨rfl, rfl⟩
  clear HC9
  have k10 := box_cell G1 10
  simp at k10
  go_wp2_with fail
  have hm10 : D.heap.length ≤ 9223372036854775807 := by have := h10.len; unfold maxLen at this; omega
  have HC10 := Lib.hid (fun wx => szIntS_any p10 D.heap.length c10 (r9) wx (by omega) (by omega) hm10)
  by_cases hx10 : (r9) < D.heap.length
  · rw [if_pos hx10] at HC10
    refine (HC10.out _).mono ?_
    rintro e _w ⟨rfl, rfl⟩
    go_wp2_with fail
    go_ret
    exact ⟨⟨-1, rfl, by omega, by omega, fun h => by omega⟩, B⟩
  rw [if_neg hx10] at HC10
  obtain ⟨r10, hr10⟩ : ∃ r, r = (r9) - (D.heap.length : Int) := ⟨_, rfl⟩
  rw [← hr10] at HC10
  have g10 : D.heap.length ≤ 1048576 := by omega
  have ra10 : 0 ≤ r10 := by omega
  have rb10 : r10 ≤ 1048576 := by omega
  clear hr10 hx10 hm10
  refine (HC10.out _).mono ?_
  rintro e _w ⟨rfl, rfl⟩
  clear HC10
  go_wp2_with fail
  go_ret
  exact ⟨⟨r10, rfl, by omega, by omega, fun _ => ⟨g0, g8, gs8, g9, g10⟩⟩, B⟩

set_option maxRecDepth 100000 in
set_option maxHeartbeats 1000000 in
theorem toGame_w (v : Value) (D : MGame) (w : World) (h : RdGame w v D) (hf : D.Few) :
    Calls Tryz.prog 6 #[v] w fun e w' => ∃ v', e = .returned v' ∧ WrGame (In w.heap.size w'.heap.size) w' v' D ∧ Below w.heap.size w w' := by
  obtain ⟨p4, p5, p8, p9, p10, c4, c5, c8, c9, c10, b9, b10, rfl, h0, h8, h9, h10, wf0, wf1, wf2⟩ := h
  obtain ⟨f0, f8, fs8, f9, f10⟩ := hf
  have Q := Lib.hid (threeBoxes w (.cells #[.int .i64 D.rules.players, .int .i64 D.rules.each, .bool D.rules.sameSuit, .bool D.rules.sameRank, .slice p4 D.rules.wild.length c4, .slice p5 D.rules.skip.length c5, .int .i64 D.rules.take, .int .i64 D.rules.limit, .slice p8 D.hands.length c8, .slice p9 D.stock.length c9, .slice p10 D.heap.length c10, .int .i64 D.turn, .int .i64 D.moves, .int .i64 D.passes] 27) (.cells #[.int .i64 0, .int .i64 0, .bool false, .bool false, .slice none 0 0, .slice none 0 0, .int .i64 0, .int .i64 0, .slice none 0 0, .slice none 0 0, .slice none 0 0, .int .i64 0, .int .i64 0, .int .i64 0] 32) (.cells #[.int .i64 0, .int .i64 0, .bool false, .bool false, .slice none 0 0, .slice none 0 0, .int .i64 0, .int .i64 0, .slice none 0 0, .slice none 0 0, .slice none 0 0, .int .i64 0, .int .i64 0, .int .i64 0] 32))
  obtain ⟨W0, hW0⟩ : ∃ W0, W0 = (((w.alloc (.cells #[.int .i64 D.rules.players, .int .i64 D.rules.each, .bool D.rules.sameSuit, .bool D.rules.sameRank, .slice p4 D.rules.wild.length c4, .slice p5 D.rules.skip.length c5, .int .i64 D.rules.take, .int .i64 D.rules.limit, .slice p8 D.hands.length c8, .slice p9 D.stock.length c9, .slice p10 D.heap.length c10, .int .i64 D.turn, .int .i64 D.moves, .int .i64 D.passes] 27)).alloc (.cells #[.int .i64 0, .int .i64 0, .bool false, .bool false, .slice none 0 0, .slice none 0 0, .int .i64 0, .int .i64 0, .slice none 0 0, .slice none 0 0, .slice none 0 0, .int .i64 0, .int .i64 0, .int .i64 0] 32)).alloc (.cells #[.int .i64 0, .int .i64 0, .bool false, .bool false, .slice none 0 0, .slice none 0 0, .int .i64 0, .int .i64 0, .slice none 0 0, .slice none 0 0, .slice none 0 0, .int .i64 0, .int .i64 0, .int .i64 0] 32)) := ⟨_, rfl⟩
  have B : Below w.heap.size w W0 := by rw [hW0]; exact (((Below.refl _ _).alloc (Nat.le_refl _) _).alloc (by simp) _).alloc (by simp; omega) _
  obtain ⟨bl, hbl⟩ : ∃ b, b = w.heap.size + 1 + 1 := ⟨_, rfl⟩
  obtain ⟨br, hbr⟩ : ∃ b, b = w.heap.size + 1 := ⟨_, rfl⟩
  have hS0 : bl < W0.heap.size := by rw [hW0, hbl]; simp
  rw [← hW0] at Q
  have HW := Lib.hid hW0
  clear hW0
  obtain ⟨G1, G2, G3⟩ := Q.out
  clear Q
  have e3 : w.heap.size + 2 = bl := by omega
  rw [← hbr] at G2
  rw [e3] at G3
  have hd1 : w.heap.size < br := by omega
  have hd2 : br < bl := by omega
  have Hbl := Lib.hid hbl
  have Hbr := Lib.hid hbr
  clear hbl hbr e3
  go_enter Tryz.func6, Tryz.ntmps6
  go_wp2_with fail
  rw [← HW.out, ← Hbl.out, ← Hbr.out]
  refine (toRules_w _ _ W0 (h0.below B) f0).mono ?_
  rintro e w0 ⟨u0, rfl, x0, bb⟩
  obtain ⟨pu4, pu5, cu4, cu5, eu⟩ := x0.shape
  subst eu
  have l0 : bl < W0.heap.size := hS0
  have HQ0 : Hid (W0.heap.size ≤ w0.heap.size) := Lib.hid bb.size
  have HB0 : Hid (w.heap.size ≤ W0.heap.size) := Lib.hid B.size
  replace B := B.trans (bb.mono B.size)
  replace G1 := (bb.block _ (by omega)).trans G1
  replace G2 := (bb.block _ (by omega)).trans G2
  replace G3 := (bb.block _ (by omega)).trans G3
  replace hS0 := Nat.lt_of_lt_of_le hS0 bb.size
  clear bb
  have c1_8 := box_cell G1 8
  have c3_0 := box_cell G3 0
  have z3_0 := box_free G3 0
  have c3_1 := box_cell G3 1
  have z3_1 := box_free G3 1
  have c3_2 := box_cell G3 2
  have z3_2 := box_free G3 2
  have c3_3 := box_cell G3 3
  have z3_3 := box_free G3 3
  have c3_4 := box_cell G3 4
  have z3_4 := box_free G3 4
  have c3_5 := box_cell G3 5
  have z3_5 := box_free G3 5
  have c3_6 := box_cell G3 6
  have z3_6 := box_free G3 6
  have c3_7 := box_cell G3 7
  have z3_7 := box_free G3 7
  simp at c1_8 c3_0 c3_1 c3_2 c3_3 c3_4 c3_5 c3_6 c3_7
  go_wp2_with fail
  obtain ⟨X8, hX8⟩ : ∃ X, X = ((((((((w0.setCell ⟨bl, 0, none⟩ (.int .i64 D.rules.players)).setCell ⟨bl, 1, none⟩ (.int .i64 D.rules.each)).setCell ⟨bl, 2, none⟩ (.bool D.rules.sameSuit)).setCell ⟨bl, 3, none⟩ (.bool D.rules.sameRank)).setCell ⟨bl, 4, none⟩ (.slice pu4 D.rules.wild.length cu4)).setCell ⟨bl, 5, none⟩ (.slice pu5 D.rules.skip.length cu5)).setCell ⟨bl, 6, none⟩ (.int .i64 D.rules.take)).setCell ⟨bl, 7, none⟩ (.int .i64 D.rules.limit)) := ⟨_, rfl⟩
  have N3 := (box_set (box_set (box_set (box_set (box_set (box_set (box_set (box_set G3 0 (.int .i64 D.rules.players)) 1 (.int .i64 D.rules.each)) 2 (.bool D.rules.sameSuit)) 3 (.bool D.rules.sameRank)) 4 (.slice pu4 D.rules.wild.length cu4)) 5 (.slice pu5 D.rules.skip.length cu5)) 6 (.int .i64 D.rules.take)) 7 (.int .i64 D.rules.limit))
  rw [← hX8] at N3
  have K8 : ∀ i, i ≠ bl → X8.heap[i]? = w0.heap[i]? := fun i hi => by rw [hX8]; rw [Below.heap_setCell _ _ _ _ hi, Below.heap_setCell _ _ _ _ hi, Below.heap_setCell _ _ _ _ hi, Below.heap_setCell _ _ _ _ hi, Below.heap_setCell _ _ _ _ hi, Below.heap_setCell _ _ _ _ hi, Below.heap_setCell _ _ _ _ hi, Below.heap_setCell _ _ _ _ hi]
  have Z8 : X8.heap.size = w0.heap.size := by rw [hX8]; simp [World.setCell]
  have NB : Below w.heap.size w X8 := by rw [hX8]; exact ((((((((B.setCell (show w.heap.size ≤ bl by omega) (.int .i64 D.rules.players)).setCell (show w.heap.size ≤ bl by omega) (.int .i64 D.rules.each)).setCell (show w.heap.size ≤ bl by omega) (.bool D.rules.sameSuit)).setCell (show w.heap.size ≤ bl by omega) (.bool D.rules.sameRank)).setCell (show w.heap.size ≤ bl by omega) (.slice pu4 D.rules.wild.length cu4)).setCell (show w.heap.size ≤ bl by omega) (.slice pu5 D.rules.skip.length cu5)).setCell (show w.heap.size ≤ bl by omega) (.int .i64 D.rules.take)).setCell (show w.heap.size ≤ bl by omega) (.int .i64 D.rules.limit))
  have b0 : Below 0 w0 X8 := by rw [hX8]; exact (((((((((Below.refl 0 w0).setCell (Nat.zero_le _) (.int .i64 D.rules.players)).setCell (Nat.zero_le _) (.int .i64 D.rules.each)).setCell (Nat.zero_le _) (.bool D.rules.sameSuit)).setCell (Nat.zero_le _) (.bool D.rules.sameRank)).setCell (Nat.zero_le _) (.slice pu4 D.rules.wild.length cu4)).setCell (Nat.zero_le _) (.slice pu5 D.rules.skip.length cu5)).setCell (Nat.zero_le _) (.int .i64 D.rules.take)).setCell (Nat.zero_le _) (.int .i64 D.rules.limit))
  have tX : Touch (fun k => k = bl) w0 X8 := ⟨b0.os, b0.tape, b0.output, b0.size, fun k _ hn => K8 k hn⟩
  clear b0
  replace G1 := (K8 _ (by omega)).trans G1
  replace G2 := (K8 _ (by omega)).trans G2
  replace hS0 : bl < X8.heap.size := by rw [Z8]; exact hS0
  replace x0 := x0.touch tX (fun b h1 h2 => by have := h1.1; have := l0; omega)
  have HZ8 := Lib.hid Z8
  rw [← hX8]
  clear hX8 B G3 K8 Z8 tX c1_8 c3_0 z3_0 c3_1 z3_1 c3_2 z3_2 c3_3 z3_3 c3_4 z3_4 c3_5 z3_5 c3_6 z3_6 c3_7 z3_7
  have G3 := N3
  have B := NB
  clear N3 NB
  simp only [List.setIfInBounds_toArray, List.set_cons_zero, List.set_cons_succ] at G3
  refine (toIntSS_any _ _ X8 (h8.below B) f8 fs8).mono ?_
  rintro e w8 ⟨u8, rfl, y8, bb⟩
  have x8 := y8.ss
  clear y8
  obtain ⟨pu8, cu8, eu⟩ := x8.shape
  subst eu
  have l8 : bl < X8.heap.size := hS0
  have HQ8 : Hid (X8.heap.size ≤ w8.heap.size) := Lib.hid bb.size
  have HB8 : Hid (w.heap.size ≤ X8.heap.size) := Lib.hid B.size
  replace B := B.trans (bb.mono B.size)
  replace G1 := (bb.block _ (by omega)).trans G1
  replace G2 := (bb.block _ (by omega)).trans G2
  replace G3 := (bb.block _ (by omega)).trans G3
  replace hS0 := Nat.lt_of_lt_of_le hS0 bb.size
  replace x0 := x0.touch (Below.touch (S := fun _ => False) bb) (fun _ _ hx => hx)
  clear bb
  have c1_9 := box_cell G1 9
  have c3_8 := box_cell G3 8
  have z3_8 := box_free G3 8
  simp at c1_9 c3_8
  go_wp2_with fail
  obtain ⟨X9, hX9⟩ : ∃ X, X = (w8.setCell ⟨bl, 8, none⟩ (.slice pu8 D.hands.length cu8)) := ⟨_, rfl⟩
  have N3 := (box_set G3 8 (.slice pu8 D.hands.length cu8))
  rw [← hX9] at N3
  have K9 : ∀ i, i ≠ bl → X9.heap[i]? = w8.heap[i]? := fun i hi => by rw [hX9]; rw [Below.heap_setCell _ _ _ _ hi]
  have Z9 : X9.heap.size = w8.heap.size := by rw [hX9]; simp [World.setCell]
  have NB : Below w.heap.size w X9 := by rw [hX9]; exact (B.setCell (show w.heap.size ≤ bl by omega) (.slice pu8 D.hands.length cu8))
  have b0 : Below 0 w8 X9 := by rw [hX9]; exact ((Below.refl 0 w8).setCell (Nat.zero_le _) (.slice pu8 D.hands.length cu8))
  have tX : Touch (fun k => k = bl) w8 X9 := ⟨b0.os, b0.tape, b0.output, b0.size, fun k _ hn => K9 k hn⟩
  clear b0
  replace G1 := (K9 _ (by omega)).trans G1
  replace G2 := (K9 _ (by omega)).trans G2
  replace hS0 : bl < X9.heap.size := by rw [Z9]; exact hS0
  replace x0 := x0.touch tX (fun b h1 h2 => by have := h1.1; have := l0; omega)
  replace x8 := x8.touch tX (fun b h1 h2 => by have := h1.1; have := l8; omega)
  have HZ9 := Lib.hid Z9
  rw [← hX9]
  clear hX9 B G3 K9 Z9 tX c1_9 c3_8 z3_8
  have G3 := N3
  have B := NB
  clear N3 NB
  simp only [List.setIfInBounds_toArray, List.set_cons_zero, List.set_cons_succ] at G3
  refine (toIntS_any _ _ _ X9 (h9.below B) (by omega)).mono ?_
  rintro e w9 ⟨u9, rfl, y9, bb, -⟩
  have x9 := WrIn.of (lo := X9.heap.size) y9 (Nat.le_refl _)
  clear y9
  obtain ⟨pu9, cu9, eu⟩ := x9.shape
  subst eu
  have l9 : bl < X9.heap.size := hS0
  have HQ9 : Hid (X9.heap.size ≤ w9.heap.size) := Lib.hid bb.size
  have HB9 : Hid (w.heap.size ≤ X9.heap.size) := Lib.hid B.size
  replace B := B.trans (bb.mono B.size)
  replace G1 := (bb.block _ (by omega)).trans G1
  replace G2 := (bb.block _ (by omega)).trans G2
  replace G3 := (bb.block _ (by omega)).trans G3
  replace hS0 := Nat.lt_of_lt_of_le hS0 bb.size
  replace x0 := x0.touch (Below.touch (S := fun _ => False) bb) (fun _ _ hx => hx)
  replace x8 := x8.touch (Below.touch (S := fun _ => False) bb) (fun _ _ hx => hx)
  clear bb
  have c1_10 := box_cell G1 10
  have c3_9 := box_cell G3 9
  have z3_9 := box_free G3 9
  simp at c1_10 c3_9
  go_wp2_with fail
  obtain ⟨X10, hX10⟩ : ∃ X, X = (w9.setCell ⟨bl, 9, none⟩ (.slice pu9 D.stock.length cu9)) := ⟨_, rfl⟩
  have N3 := (box_set G3 9 (.slice pu9 D.stock.length cu9))
  rw [← hX10] at N3
  have K10 : ∀ i, i ≠ bl → X10.heap[i]? = w9.heap[i]? := fun i hi => by rw [hX10]; rw [Below.heap_setCell _ _ _ _ hi]
  have Z10 : X10.heap.size = w9.heap.size := by rw [hX10]; simp [World.setCell]
  have NB : Below w.heap.size w X10 := by rw [hX10]; exact (B.setCell (show w.heap.size ≤ bl by omega) (.slice pu9 D.stock.length cu9))
  have b0 : Below 0 w9 X10 := by rw [hX10]; exact ((Below.refl 0 w9).setCell (Nat.zero_le _) (.slice pu9 D.stock.length cu9))
  have tX : Touch (fun k => k = bl) w9 X10 := ⟨b0.os, b0.tape, b0.output, b0.size, fun k _ hn => K10 k hn⟩
  clear b0
  replace G1 := (K10 _ (by omega)).trans G1
  replace G2 := (K10 _ (by omega)).trans G2
  replace hS0 : bl < X10.heap.size := by rw [Z10]; exact hS0
  replace x0 := x0.touch tX (fun b h1 h2 => by have := h1.1; have := l0; omega)
  replace x8 := x8.touch tX (fun b h1 h2 => by have := h1.1; have := l8; omega)
  replace x9 := x9.touch tX (fun b h1 h2 => by have := h1.1; have := l9; omega)
  have HZ10 := Lib.hid Z10
  rw [← hX10]
  clear hX10 B G3 K10 Z10 tX c1_10 c3_9 z3_9
  have G3 := N3
  have B := NB
  clear N3 NB
  simp only [List.setIfInBounds_toArray, List.set_cons_zero, List.set_cons_succ] at G3
  refine (toIntS_any _ _ _ X10 (h10.below B) (by omega)).mono ?_
  rintro e w10 ⟨u10, rfl, y10, bb, -⟩
  have x10 := WrIn.of (lo := X10.heap.size) y10 (Nat.le_refl _)
  clear y10
  obtain ⟨pu10, cu10, eu⟩ := x10.shape
  subst eu
  have l10 : bl < X10.heap.size := hS0
  have HQ10 : Hid (X10.heap.size ≤ w10.heap.size) := Lib.hid bb.size
  have HB10 : Hid (w.heap.size ≤ X10.heap.size) := Lib.hid B.size
  replace B := B.trans (bb.mono B.size)
  replace G1 := (bb.block _ (by omega)).trans G1
  replace G2 := (bb.block _ (by omega)).trans G2
  replace G3 := (bb.block _ (by omega)).trans G3
  replace hS0 := Nat.lt_of_lt_of_le hS0 bb.size
  replace x0 := x0.touch (Below.touch (S := fun _ => False) bb) (fun _ _ hx => hx)
  replace x8 := x8.touch (Below.touch (S := fun _ => False) bb) (fun _ _ hx => hx)
  replace x9 := x9.touch (Below.touch (S := fun _ => False) bb) (fun _ _ hx => hx)
  clear bb
  have c1_11 := box_cell G1 11
  have c1_12 := box_cell G1 12
  have c1_13 := box_cell G1 13
  have c3_10 := box_cell G3 10
  have z3_10 := box_free G3 10
  have c3_11 := box_cell G3 11
  have z3_11 := box_free G3 11
  have c3_12 := box_cell G3 12
  have z3_12 := box_free G3 12
  have c3_13 := box_cell G3 13
  have z3_13 := box_free G3 13
  simp at c1_11 c1_12 c1_13 c3_10 c3_11 c3_12 c3_13
  have G3f := (box_set (box_set (box_set (box_set G3 10 (.slice pu10 D.heap.length cu10)) 11 (.int .i64 D.turn)) 12 (.int .i64 D.moves)) 13 (.int .i64 D.passes))
  simp only [List.setIfInBounds_toArray, List.set_cons_zero, List.set_cons_succ] at G3f
  have G2a : ((((w10.setCell ⟨bl, 10, none⟩ (.slice pu10 D.heap.length cu10)).setCell ⟨bl, 11, none⟩ (.int .i64 D.turn)).setCell ⟨bl, 12, none⟩ (.int .i64 D.moves)).setCell ⟨bl, 13, none⟩ (.int .i64 D.passes)).heap[br]? = some (.cells #[.int .i64 0, .int .i64 0, .bool false, .bool false, .slice none 0 0, .slice none 0 0, .int .i64 0, .int .i64 0, .slice none 0 0, .slice none 0 0, .slice none 0 0, .int .i64 0, .int .i64 0, .int .i64 0] 32 (0, 0)) := by
    rw [Below.heap_setCell _ _ _ _ (show br ≠ bl by omega), Below.heap_setCell _ _ _ _ (show br ≠ bl by omega), Below.heap_setCell _ _ _ _ (show br ≠ bl by omega), Below.heap_setCell _ _ _ _ (show br ≠ bl by omega)]; exact G2
  obtain ⟨X0, hX0⟩ : ∃ X, X = ((((w10.setCell ⟨bl, 10, none⟩ (.slice pu10 D.heap.length cu10)).setCell ⟨bl, 11, none⟩ (.int .i64 D.turn)).setCell ⟨bl, 12, none⟩ (.int .i64 D.moves)).setCell ⟨bl, 13, none⟩ (.int .i64 D.passes)) := ⟨_, rfl⟩
  have G3x : X0.heap[bl]? = some (.cells #[.int .i64 D.rules.players, .int .i64 D.rules.each, .bool D.rules.sameSuit, .bool D.rules.sameRank, .slice pu4 D.rules.wild.length cu4, .slice pu5 D.rules.skip.length cu5, .int .i64 D.rules.take, .int .i64 D.rules.limit, .slice pu8 D.hands.length cu8, .slice pu9 D.stock.length cu9, .slice pu10 D.heap.length cu10, .int .i64 D.turn, .int .i64 D.moves, .int .i64 D.passes] 32 (0, 0)) := by rw [hX0]; exact G3f
  have G2x : X0.heap[br]? = some (.cells #[.int .i64 0, .int .i64 0, .bool false, .bool false, .slice none 0 0, .slice none 0 0, .int .i64 0, .int .i64 0, .slice none 0 0, .slice none 0 0, .slice none 0 0, .int .i64 0, .int .i64 0, .int .i64 0] 32 (0, 0)) := by rw [hX0]; exact G2a
  have HX0 := Lib.hid hX0
  clear G3f G2a hX0
  go_upto_region 9 with fail
  rw [← HX0.out]
  clear c1_11 c1_12 c1_13 c3_10 z3_10 c3_11 z3_11 c3_12 z3_12 c3_13 z3_13
  refine wp_region_lit ?_
  refine wpList_load_row rfl 32 _ rfl bl rfl 32 _ _ _ G3x Tryz.underlying32 rfl (by kernel_rfl) ?_
  refine wpList_store_row rfl 32 _ _ rfl br #[.int .i64 D.rules.players, .int .i64 D.rules.each, .bool D.rules.sameSuit, .bool D.rules.sameRank, .slice pu4 D.rules.wild.length cu4, .slice pu5 D.rules.skip.length cu5, .int .i64 D.rules.take, .int .i64 D.rules.limit, .slice pu8 D.hands.length cu8, .slice pu9 D.stock.length cu9, .slice pu10 D.heap.length cu10, .int .i64 D.turn, .int .i64 D.moves, .int .i64 D.passes] rfl rfl 32 _ G2x (by kernel_rfl) rfl (by simp [Value.oneCell']) ?_
  go_wp2_with fail
  obtain ⟨X, hX⟩ : ∃ X, X = (X0.setRow br #[.int .i64 D.rules.players, .int .i64 D.rules.each, .bool D.rules.sameSuit, .bool D.rules.sameRank, .slice pu4 D.rules.wild.length cu4, .slice pu5 D.rules.skip.length cu5, .int .i64 D.rules.take, .int .i64 D.rules.limit, .slice pu8 D.hands.length cu8, .slice pu9 D.stock.length cu9, .slice pu10 D.heap.length cu10, .int .i64 D.turn, .int .i64 D.moves, .int .i64 D.passes]) := ⟨_, rfl⟩
  have N2 := setRow_heap X0 br _ #[.int .i64 D.rules.players, .int .i64 D.rules.each, .bool D.rules.sameSuit, .bool D.rules.sameRank, .slice pu4 D.rules.wild.length cu4, .slice pu5 D.rules.skip.length cu5, .int .i64 D.rules.take, .int .i64 D.rules.limit, .slice pu8 D.hands.length cu8, .slice pu9 D.stock.length cu9, .slice pu10 D.heap.length cu10, .int .i64 D.turn, .int .i64 D.moves, .int .i64 D.passes] _ _ G2x
  rw [← hX] at N2
  have K : ∀ i, i ≠ bl → i ≠ br → X.heap[i]? = w10.heap[i]? := fun i hi hr => by rw [hX, HX0.out]; rw [setRow_other _ _ _ _ hr, Below.heap_setCell _ _ _ _ hi, Below.heap_setCell _ _ _ _ hi, Below.heap_setCell _ _ _ _ hi, Below.heap_setCell _ _ _ _ hi]
  have Z : X.heap.size = w10.heap.size := by rw [hX, HX0.out]; simp [World.setCell]
  have NB : Below w.heap.size w X := by rw [hX, HX0.out]; exact below_setRow ((((B.setCell (show w.heap.size ≤ bl by omega) (.slice pu10 D.heap.length cu10)).setCell (show w.heap.size ≤ bl by omega) (.int .i64 D.turn)).setCell (show w.heap.size ≤ bl by omega) (.int .i64 D.moves)).setCell (show w.heap.size ≤ bl by omega) (.int .i64 D.passes)) (by omega) _
  have b0 : Below 0 w10 X := by rw [hX, HX0.out]; exact below_setRow (((((Below.refl 0 w10).setCell (Nat.zero_le _) (.slice pu10 D.heap.length cu10)).setCell (Nat.zero_le _) (.int .i64 D.turn)).setCell (Nat.zero_le _) (.int .i64 D.moves)).setCell (Nat.zero_le _) (.int .i64 D.passes)) (Nat.zero_le _) _
  have tX : Touch (fun k => k = bl ∨ k = br) w10 X := ⟨b0.os, b0.tape, b0.output, b0.size, fun k _ hn => K k (fun e => hn (.inl e)) (fun e => hn (.inr e))⟩
  clear b0
  rw [← hX]
  replace x0 := x0.touch tX (fun b h1 h2 => by have := h1.1; have := l0; omega)
  replace x8 := x8.touch tX (fun b h1 h2 => by have := h1.1; have := l8; omega)
  replace x9 := x9.touch tX (fun b h1 h2 => by have := h1.1; have := l9; omega)
  replace x10 := x10.touch tX (fun b h1 h2 => by have := h1.1; have := l10; omega)
  have q0 := HQ0.out
  have qb0 := HB0.out
  have q8 := HQ8.out
  have qb8 := HB8.out
  have q9 := HQ9.out
  have qb9 := HB9.out
  have q10 := HQ10.out
  have qb10 := HB10.out
  have qz8 := HZ8.out
  have qz9 := HZ9.out
  have qz10 := HZ10.out
  have HWr : WrGame (In w.heap.size X.heap.size) X (.agg #[.int .i64 D.rules.players, .int .i64 D.rules.each, .bool D.rules.sameSuit, .bool D.rules.sameRank, .slice pu4 D.rules.wild.length cu4, .slice pu5 D.rules.skip.length cu5, .int .i64 D.rules.take, .int .i64 D.rules.limit, .slice pu8 D.hands.length cu8, .slice pu9 D.stock.length cu9, .slice pu10 D.heap.length cu10, .int .i64 D.turn, .int .i64 D.moves, .int .i64 D.passes]) D := ⟨pu4, pu5, pu8, pu9, pu10, cu4, cu5, cu8, cu9, cu10, (In W0.heap.size w0.heap.size), (In X8.heap.size w8.heap.size), (In X9.heap.size w9.heap.size), (In X10.heap.size w10.heap.size), rfl, x0, x8, x9, x10, (fun b hb => by obtain ⟨h1, h2⟩ := hb; constructor <;> omega), (fun b hb => by obtain ⟨h1, h2⟩ := hb; constructor <;> omega), (fun b hb => by obtain ⟨h1, h2⟩ := hb; constructor <;> omega), (fun b hb => by obtain ⟨h1, h2⟩ := hb; constructor <;> omega), (fun b h1 h2 => by obtain ⟨a1, a2⟩ := h1; obtain ⟨a3, a4⟩ := h2; omega), (fun b h1 h2 => by obtain ⟨a1, a2⟩ := h1; obtain ⟨a3, a4⟩ := h2; omega), (fun b h1 h2 => by obtain ⟨a1, a2⟩ := h1; obtain ⟨a3, a4⟩ := h2; omega), (fun b h1 h2 => by obtain ⟨a1, a2⟩ := h1; obtain ⟨a3, a4⟩ := h2; omega), (fun b h1 h2 => by obtain ⟨a1, a2⟩ := h1; obtain ⟨a3, a4⟩ := h2; omega), (fun b h1 h2 => by obtain ⟨a1, a2⟩ := h1; obtain ⟨a3, a4⟩ := h2; omega), wf0, wf1, wf2⟩
  (try simp only [Exit.inBlock, Exit.then]); refine bodyPost_ret (results_cell_row rfl _ _ br _ _ _ _ rfl N2 Tryz.underlying32 rfl (by kernel_rfl)) rfl ?_
  exact ⟨_, rfl, HWr, NB⟩
theorem toGame_any (v : Value) (D : MGame) (w : World) (h : RdGame w v D) (hf : D.Few) :
    Calls Tryz.prog 6 #[v] w fun e w' => ∃ v', e = .returned v' ∧ RdGame w' v' D ∧ Below w.heap.size w w' :=
  (toGame_w v D w h hf).mono (by rintro e w' ⟨v', rfl, hw, hb⟩; exact ⟨v', rfl, hw.rd, hb⟩)

set_option maxRecDepth 100000 in
set_option maxHeartbeats 1000000 in
theorem eqGame_t (va vb : Value) (D : MGame) (w : World) (ha : RdGame w va D) (hb : RdGame w vb D) (hf : D.Few) :
    Calls Tryz.prog 8 #[va, vb] w fun e w' => e = .returned (.bool true) ∧ Below w.heap.size w w' := by
  obtain ⟨p4, p5, p8, p9, p10, c4, c5, c8, c9, c10, b9, b10, rfl, h0, h8, h9, h10, wf0, wf1, wf2⟩ := ha
  obtain ⟨pu4, pu5, pu8, pu9, pu10, cu4, cu5, cu8, cu9, cu10, bu9, bu10, rfl, y0, y8, y9, y10, -, -, -⟩ := hb
  obtain ⟨f0, f8, fs8, f9, f10⟩ := hf
  obtain ⟨W0, hW0⟩ : ∃ W0, W0 = ((w.alloc (.cells #[.int .i64 D.rules.players, .int .i64 D.rules.each, .bool D.rules.sameSuit, .bool D.rules.sameRank, .slice p4 D.rules.wild.length c4, .slice p5 D.rules.skip.length c5, .int .i64 D.rules.take, .int .i64 D.rules.limit, .slice p8 D.hands.length c8, .slice p9 D.stock.length c9, .slice p10 D.heap.length c10, .int .i64 D.turn, .int .i64 D.moves, .int .i64 D.passes] 32)).alloc (.cells #[.int .i64 D.rules.players, .int .i64 D.rules.each, .bool D.rules.sameSuit, .bool D.rules.sameRank, .slice pu4 D.rules.wild.length cu4, .slice pu5 D.rules.skip.length cu5, .int .i64 D.rules.take, .int .i64 D.rules.limit, .slice pu8 D.hands.length cu8, .slice pu9 D.stock.length cu9, .slice pu10 D.heap.length cu10, .int .i64 D.turn, .int .i64 D.moves, .int .i64 D.passes] 32)) := ⟨_, rfl⟩
  have B : Below w.heap.size w W0 := by rw [hW0]; exact ((Below.refl _ _).alloc (Nat.le_refl _) _).alloc (by simp) _
  have G1 : W0.heap[w.heap.size]? = some (.cells #[.int .i64 D.rules.players, .int .i64 D.rules.each, .bool D.rules.sameSuit, .bool D.rules.sameRank, .slice p4 D.rules.wild.length c4, .slice p5 D.rules.skip.length c5, .int .i64 D.rules.take, .int .i64 D.rules.limit, .slice p8 D.hands.length c8, .slice p9 D.stock.length c9, .slice p10 D.heap.length c10, .int .i64 D.turn, .int .i64 D.moves, .int .i64 D.passes] 32 (0, 0)) := by
    rw [hW0]; show ((w.heap.push _).push _)[_]? = _
    rw [Array.getElem?_push, if_neg (by simp), Array.getElem?_push, if_pos rfl]
  have G2 : W0.heap[w.heap.size + 1]? = some (.cells #[.int .i64 D.rules.players, .int .i64 D.rules.each, .bool D.rules.sameSuit, .bool D.rules.sameRank, .slice pu4 D.rules.wild.length cu4, .slice pu5 D.rules.skip.length cu5, .int .i64 D.rules.take, .int .i64 D.rules.limit, .slice pu8 D.hands.length cu8, .slice pu9 D.stock.length cu9, .slice pu10 D.heap.length cu10, .int .i64 D.turn, .int .i64 D.moves, .int .i64 D.passes] 32 (0, 0)) := by
    rw [hW0]; show ((w.heap.push _).push _)[_]? = _
    rw [Array.getElem?_push, if_pos (by simp)]
  have hS0 : w.heap.size + 2 ≤ W0.heap.size := by rw [hW0]; simp
  have HW := Lib.hid hW0
  clear hW0
  go_enter Tryz.func8, Tryz.ntmps8
  go_wp2_with fail
  rw [← HW.out]
  refine (eqRules_t _ _ _ W0 (h0.below B) (y0.below B) f0).mono ?_
  rintro e w0 ⟨rfl, bb⟩
  replace B := B.trans (bb.mono B.size)
  replace G1 := (bb.block _ (by omega)).trans G1
  replace G2 := (bb.block _ (by omega)).trans G2
  replace hS0 := Nat.le_trans hS0 bb.size
  clear bb
  have c1_8 := box_cell G1 8
  have c2_8 := box_cell G2 8
  simp at c1_8 c2_8
  go_wp2_with fail
  refine (eqIntSS_t _ _ _ w0 (h8.below B) (y8.below B) f8 fs8).mono ?_
  rintro e w8 ⟨rfl, bb⟩
  replace B := B.trans (bb.mono B.size)
  replace G1 := (bb.block _ (by omega)).trans G1
  replace G2 := (bb.block _ (by omega)).trans G2
  replace hS0 := Nat.le_trans hS0 bb.size
  clear bb c1_8 c2_8
  have c1_9 := box_cell G1 9
  have c2_9 := box_cell G2 9
  simp at c1_9 c2_9
  go_wp2_with fail
  refine (eqIntS_t _ _ _ _ _ w8 (h9.below B) (y9.below B) (by omega)).mono ?_
  rintro e w9 ⟨rfl, bb⟩
  replace B := B.trans (bb.mono B.size)
  replace G1 := (bb.block _ (by omega)).trans G1
  replace G2 := (bb.block _ (by omega)).trans G2
  replace hS0 := Nat.le_trans hS0 bb.size
  clear bb c1_9 c2_9
  have c1_10 := box_cell G1 10
  have c2_10 := box_cell G2 10
  simp at c1_10 c2_10
  go_wp2_with fail
  refine (eqIntS_t _ _ _ _ _ w9 (h10.below B) (y10.below B) (by omega)).mono ?_
  rintro e w10 ⟨rfl, bb⟩
  replace B := B.trans (bb.mono B.size)
  replace G1 := (bb.block _ (by omega)).trans G1
  replace G2 := (bb.block _ (by omega)).trans G2
  replace hS0 := Nat.le_trans hS0 bb.size
  clear bb c1_10 c2_10
  have c1_11 := box_cell G1 11
  have c2_11 := box_cell G2 11
  have c1_12 := box_cell G1 12
  have c2_12 := box_cell G2 12
  have c1_13 := box_cell G1 13
  have c2_13 := box_cell G2 13
  simp at c1_11 c2_11 c1_12 c2_12 c1_13 c2_13
  go_wp2_with fail
  go_ret
  exact ⟨rfl, B⟩
def MGame.total (D : MGame) : Nat := D.rules.total + sumLen D.hands + D.stock.length + D.heap.length
def MGame.marked (D : MGame) (k : Int) : MGame := { D with rules := D.rules.marked (k), hands := marksII (k + (D.rules.total : Nat)) D.hands, stock := marksI (k + (D.rules.total : Nat) + (sumLen D.hands : Nat)) D.stock.length, heap := marksI (k + (D.rules.total : Nat) + (sumLen D.hands : Nat) + (D.stock.length : Nat)) D.heap.length }
theorem MGame.total_le {D : MGame} (hf : D.Few) : D.total ≤ 5242880 := by
  obtain ⟨f0, f8, fs8, f9, f10⟩ := hf
  have t0 := MRules.total_le f0
  unfold MGame.total
  omega

end Go.Proofs.YtmhbonbjnpcpeaaGreatDoor
namespace Go.Proofs.YtmhbonbjnpcpeaaGreatDoor
open Go.RowKit

def isCard (c : Int) : Bool := decide (0 ≤ c ∧ c ≤ 51)
def suitOf (c : Int) : Int := if isCard c then c / 13 else -1
def rankOf (c : Int) : Int := if isCard c then c % 13 else -1
theorem isCard_t {c : Int} (h : isCard c = true) : 0 ≤ c ∧ c ≤ 51 := by unfold isCard at h; simpa using h
theorem isCard_f {c : Int} (h : isCard c = false) : c < 0 ∨ 51 < c := by unfold isCard at h; simp at h; omega
theorem suit_in {c : Int} (h : isCard c = true) : suitOf c = c / 13 := by unfold suitOf; rw [h]; rfl
theorem rank_in {c : Int} (h : isCard c = true) : rankOf c = c % 13 := by unfold rankOf; rw [h]; rfl
theorem suit_out {c : Int} (h : isCard c = false) : suitOf c = -1 := by unfold suitOf; rw [h]; rfl
theorem rank_out {c : Int} (h : isCard c = false) : rankOf c = -1 := by unfold rankOf; rw [h]; rfl
theorem isCard_yes {c : Int} (h : 0 ≤ c ∧ c ≤ 51) : isCard c = true := by unfold isCard; simpa using h
theorem isCard_no {c : Int} (h : ¬ (0 ≤ c ∧ c ≤ 51)) : isCard c = false := by unfold isCard; simp; omega
theorem sIsCard_r (c : Int) (w : World) (r : Bool) (hr : isCard c = r) :
    Calls Tryz.prog 29 #[.int .i64 c] w fun e w' => e = .returned (.bool r) ∧ w = w' := by
  subst hr
  by_cases h0 : 0 ≤ c
  · by_cases h1 : c ≤ 51
    · have e : isCard c = true := by exact isCard_yes ⟨h0, h1⟩
      rw [e]; clear e
      go_enter Tryz.func29, Tryz.ntmps29
      go_wp2
      go_ret
      exact ⟨rfl, rfl⟩
    · have e : isCard c = false := by exact isCard_no (by omega)
      have hd : decide (c ≤ 51) = false := by simp; omega
      rw [e]; clear e
      go_enter Tryz.func29, Tryz.ntmps29
      go_wp2
      go_ret
      exact ⟨rfl, rfl⟩
  · have e : isCard c = false := by exact isCard_no (by omega)
    rw [e]; clear e
    go_enter Tryz.func29, Tryz.ntmps29
    go_wp2
    go_ret
    exact ⟨rfl, rfl⟩
theorem sSuitOf_r (c : Int) (w : World) (r : Int) (hr : suitOf c = r) :
    Calls Tryz.prog 14 #[.int .i64 c] w fun e w' => e = .returned (.int .i64 r) ∧ w = w' := by
  subst hr
  by_cases h0 : 0 ≤ c
  · by_cases h1 : c ≤ 51
    · have e : suitOf c = c / 13 := by exact suit_in (isCard_yes ⟨h0, h1⟩)
      rw [e]; clear e
      go_enter Tryz.func14, Tryz.ntmps14
      go_wp2
      go_ret
      exact ⟨rfl, rfl⟩
    · have e : suitOf c = -1 := by exact suit_out (isCard_no (by omega))
      have hd : decide (c ≤ 51) = false := by simp; omega
      rw [e]; clear e
      go_enter Tryz.func14, Tryz.ntmps14
      go_wp2
      go_ret
      exact ⟨rfl, rfl⟩
  · have e : suitOf c = -1 := by exact suit_out (isCard_no (by omega))
    rw [e]; clear e
    go_enter Tryz.func14, Tryz.ntmps14
    go_wp2
    go_ret
    exact ⟨rfl, rfl⟩
theorem sRankOf_r (c : Int) (w : World) (r : Int) (hr : rankOf c = r) :
    Calls Tryz.prog 39 #[.int .i64 c] w fun e w' => e = .returned (.int .i64 r) ∧ w = w' := by
  subst hr
  by_cases h0 : 0 ≤ c
  · by_cases h1 : c ≤ 51
    · have e : rankOf c = c % 13 := by exact rank_in (isCard_yes ⟨h0, h1⟩)
      rw [e]; clear e
      go_enter Tryz.func39, Tryz.ntmps39
      go_wp2
      go_ret
      exact ⟨rfl, rfl⟩
    · have e : rankOf c = -1 := by exact rank_out (isCard_no (by omega))
      have hd : decide (c ≤ 51) = false := by simp; omega
      rw [e]; clear e
      go_enter Tryz.func39, Tryz.ntmps39
      go_wp2
      go_ret
      exact ⟨rfl, rfl⟩
  · have e : rankOf c = -1 := by exact rank_out (isCard_no (by omega))
    rw [e]; clear e
    go_enter Tryz.func39, Tryz.ntmps39
    go_wp2
    go_ret
    exact ⟨rfl, rfl⟩
theorem isCard_r (c : Int) (w : World) (r : Bool) (hr : isCard c = r) :
    Calls Tryz.prog 60 #[.int .i64 c] w fun e w' => e = .returned (.bool r) ∧ w = w' := by
  subst hr
  by_cases h0 : 0 ≤ c
  · by_cases h1 : c ≤ 51
    · have e : isCard c = true := by exact isCard_yes ⟨h0, h1⟩
      rw [e]; clear e
      go_enter Tryz.func60, Tryz.ntmps60
      go_wp2
      go_ret
      exact ⟨rfl, rfl⟩
    · have e : isCard c = false := by exact isCard_no (by omega)
      have hd : decide (c ≤ 51) = false := by simp; omega
      rw [e]; clear e
      go_enter Tryz.func60, Tryz.ntmps60
      go_wp2
      go_ret
      exact ⟨rfl, rfl⟩
  · have e : isCard c = false := by exact isCard_no (by omega)
    rw [e]; clear e
    go_enter Tryz.func60, Tryz.ntmps60
    go_wp2
    go_ret
    exact ⟨rfl, rfl⟩
theorem suitOf_r (c : Int) (w : World) (r : Int) (hr : suitOf c = r) :
    Calls Tryz.prog 50 #[.int .i64 c] w fun e w' => e = .returned (.int .i64 r) ∧ w = w' := by
  subst hr
  by_cases h0 : 0 ≤ c
  · by_cases h1 : c ≤ 51
    · have e : suitOf c = c / 13 := by exact suit_in (isCard_yes ⟨h0, h1⟩)
      rw [e]; clear e
      go_enter Tryz.func50, Tryz.ntmps50
      go_wp2
      go_ret
      exact ⟨rfl, rfl⟩
    · have e : suitOf c = -1 := by exact suit_out (isCard_no (by omega))
      have hd : decide (c ≤ 51) = false := by simp; omega
      rw [e]; clear e
      go_enter Tryz.func50, Tryz.ntmps50
      go_wp2
      go_ret
      exact ⟨rfl, rfl⟩
  · have e : suitOf c = -1 := by exact suit_out (isCard_no (by omega))
    rw [e]; clear e
    go_enter Tryz.func50, Tryz.ntmps50
    go_wp2
    go_ret
    exact ⟨rfl, rfl⟩
theorem sIsCard_any (c : Int) (w : World) :
    Calls Tryz.prog 29 #[.int .i64 c] w fun e w' => e = .returned (.bool (isCard c)) ∧ w = w' := sIsCard_r c w _ rfl
end Go.Proofs.YtmhbonbjnpcpeaaGreatDoor
namespace Go.Proofs.YtmhbonbjnpcpeaaGreatDoor
open Go.RowKit

def hasI (zs : List Int) (c : Int) : Bool := decide (c ∈ zs)
/-- All are cards, and none is there twice: told from the front, as the model looks. -/
def isHand (zs : List Int) : Bool := decide (∀ j (h : j < zs.length), isCard zs[j] = true ∧ zs[j] ∉ zs.take j)


set_option maxRecDepth 100000 in
theorem sHasCard_any (v : Value) (zs : List Int) (b : Nat) (c : Int) (w : World) (h : RdAt .i64 w v zs b) (hl : zs.length ≤ 1099511627776) :
    Calls Tryz.prog 53 #[v, .int .i64 c] w fun e w' => e = .returned (.bool (hasI zs c)) ∧ w = w' := by
  obtain ⟨a, cap, rfl, -, -, hcell⟩ := h
  obtain ⟨n, hn⟩ : ∃ n, n = zs.length := ⟨_, rfl⟩
  have Hn := Lib.hid hn
  rw [← hn] at hl ⊢
  clear hn
  obtain ⟨r, hr⟩ : ∃ r, r = hasI zs c := ⟨_, rfl⟩
  have Hr := Lib.hid hr
  rw [← hr]
  clear hr
  go_enter Tryz.func53, Tryz.ntmps53
  go_wp2_with fail
  go_loop [5] (fun i => ∃ k : Nat, k ≤ n ∧ i = .int .i64 k ∧ Hid (∀ j (hj : j < zs.length), j < k → zs[j] ≠ c)) (fun i => n - (intOf i).toNat)
  case atStart => exact ⟨0, Nat.zero_le _, rfl, Lib.hid (fun j _ h => by omega)⟩
  case round =>
    obtain ⟨k, hk, rfl, hno⟩ := hrel
    by_cases hlt : k < n
    · have hz : k < zs.length := by rw [← Hn.out]; exact hlt
      rcases hcell with h0 | ⟨off, rfl, hc⟩
      · subst h0; simp at hz
      obtain ⟨y, hy⟩ : ∃ y, Hid (y = zs[k]) := ⟨_, Lib.hid rfl⟩
      have h1 : w.cell? ⟨b, off + k, none⟩ = some (.int .i64 y) := by rw [hc k hz, hy.out]
      clear hc
      by_cases hyc : y = c
      · subst hyc
        have hr1 : Hid (r = true) := Lib.hid (by rw [Hr.out]; unfold hasI; rw [hy.out]; simp)
        go_wp2_with fail
        go_ret
        exact ⟨by rw [hr1.out]; rfl, rfl⟩
      · have hq : (y == c) = false := by simpa using hyc
        have hno2 : Hid (∀ j (hj : j < zs.length), j < k + 1 → zs[j] ≠ c) := Lib.hid (fun j hj h => by
          by_cases e : j = k
          · subst e; rw [← hy.out]; exact hyc
          · exact hno.out j hj (by omega))
        clear hyc
        go_wp2_with fail
        go_round
        case rel => exact ⟨k + 1, by omega, by go_num, hno2⟩
        case measure => simp [intOf]; omega
    · obtain rfl : k = n := by omega
      have hr1 : Hid (r = false) := Lib.hid (by
        rw [Hr.out]; unfold hasI
        simp only [decide_eq_false_iff_not]
        intro hm
        obtain ⟨j, hj, e⟩ := List.getElem_of_mem hm
        exact hno.out j hj (by rw [Hn.out]; exact hj) e)
      go_wp2_with fail
      go_ret
      exact ⟨by rw [hr1.out]; rfl, rfl⟩

theorem isHand_no {zs : List Int} {k : Nat} (hk : k < zs.length) (h : isCard zs[k] = false ∨ hasI (zs.take k) zs[k] = true) : isHand zs = false := by
  unfold isHand
  simp only [decide_eq_false_iff_not]
  intro ha
  obtain ⟨h1, h2⟩ := ha k hk
  rcases h with h | h
  · rw [h] at h1; cases h1
  · unfold hasI at h; simp only [decide_eq_true_eq] at h; exact h2 h
theorem isHand_yes {zs : List Int} (h : ∀ j (hj : j < zs.length), isCard zs[j] = true ∧ hasI (zs.take j) zs[j] = false) : isHand zs = true := by
  unfold isHand
  simp only [decide_eq_true_eq]
  intro j hj
  refine ⟨(h j hj).1, ?_⟩
  have := (h j hj).2
  unfold hasI at this
  simpa using this

set_option maxRecDepth 100000 in
set_option maxHeartbeats 1000000 in
theorem sIsHand_any (v : Value) (zs : List Int) (b : Nat) (w : World) (h : RdAt .i64 w v zs b) (hl : zs.length ≤ 1099511627776) :
    Calls Tryz.prog 37 #[v] w fun e w' => e = .returned (.bool (isHand zs)) ∧ Below w.heap.size w w' := by
  obtain ⟨a, cap, rfl, hcap, hwf, hcell⟩ := h
  obtain ⟨n, hn⟩ : ∃ n, n = zs.length := ⟨_, rfl⟩
  have Hn := Lib.hid hn
  have Hcap := Lib.hid (show zs.length ≤ cap ∧ cap ≤ maxLen from ⟨hcap.1, hcap.2.1⟩)
  have hcap1 : n ≤ cap := by omega
  have hcap2 : cap ≤ 9223372036854775807 := by have := hcap.2.1; unfold maxLen at this; omega
  rw [← hn] at hl ⊢
  clear hn hcap
  obtain ⟨r, hr⟩ : ∃ r, r = isHand zs := ⟨_, rfl⟩
  have Hr := Lib.hid hr
  rw [← hr]
  clear hr
  go_enter Tryz.func37, Tryz.ntmps37
  go_wp2_with fail
  go_loopw [3] (fun i wr => ∃ k : Nat, k ≤ n ∧ i = .int .i64 k ∧ (∃ q, wr = w.drewN q) ∧ Hid (∀ j (hj : j < zs.length), j < k → isCard zs[j] = true ∧ hasI (zs.take j) zs[j] = false)) (fun i _ => n - (intOf i).toNat)
  case atStart => exact ⟨0, Nat.zero_le _, rfl, ⟨0, rfl⟩, Lib.hid (fun j _ h => by omega)⟩
  case round =>
    obtain ⟨k, hk, rfl, hq, hok⟩ := hrel
    have Hq := Lib.hid hq
    clear hq
    by_cases hlt : k < n
    · have hz : k < zs.length := by rw [← Hn.out]; exact hlt
      rcases hcell with h0 | ⟨off, rfl, hc⟩
      · subst h0; simp at hz
      have hrd : ∀ m, RdAt .i64 (wr.drewN m) (.slice (some ⟨b, off, none⟩) k cap) (zs.take k) b := fun m => by
        obtain ⟨q, e⟩ := Hq.out
        subst e
        exact RdAt.take (w := (w.drewN q).drewN m) Hcap.out hwf (fun j hj => hc j hj) k (by omega)
      have Hrd := Lib.hid hrd
      obtain ⟨y, hy⟩ : ∃ y, Hid (y = zs[k]) := ⟨_, Lib.hid rfl⟩
      have h1 : wr.cell? ⟨b, off + k, none⟩ = some (.int .i64 y) := by
        obtain ⟨q, e⟩ := Hq.out
        subst e
        show w.cell? _ = _
        rw [hc k hz, hy.out]
      have hlk : (zs.take k).length ≤ 1099511627776 := by rw [List.length_take]; omega
      clear hc hrd
      cases e1 : isCard y with
      | false =>
        have hr1 : Hid (r = false) := Lib.hid (by rw [Hr.out]; exact isHand_no hz (.inl (by rw [← hy.out]; exact e1)))
        go_wp2_with fail
        go_quiet ((go_at_call 29; exact Calls.quiet_of_same (flip_same (sIsCard_any _ _) (congrArg Value.bool e1))))
        go_wp2_with fail
        go_ret
        exact ⟨by rw [hr1.out]; rfl, by obtain ⟨q, e⟩ := Hq.out; subst e; exact _root_.Go.below_drewN (_root_.Go.below_drewN (Below.refl _ _) _) _⟩
      | true =>
        cases e2 : hasI (zs.take k) y with
        | true =>
          have hr1 : Hid (r = false) := Lib.hid (by rw [Hr.out]; exact isHand_no hz (.inr (by rw [← hy.out]; exact e2)))
          go_wp2_with fail
          go_quiet (first | (go_at_call 29; exact Calls.quiet_of_same (flip_same (sIsCard_any _ _) (congrArg Value.bool e1))) | (go_at_call 53; exact Calls.quiet_of_same (flip_same (sHasCard_any _ _ _ _ _ (Hrd.out _) hlk) (congrArg Value.bool e2))))
          go_wp2_with fail
          go_ret
          exact ⟨by rw [hr1.out]; rfl, by obtain ⟨q, e⟩ := Hq.out; subst e; exact _root_.Go.below_drewN (_root_.Go.below_drewN (Below.refl _ _) _) _⟩
        | false =>
          have hok2 : Hid (∀ j (hj : j < zs.length), j < k + 1 → isCard zs[j] = true ∧ hasI (zs.take j) zs[j] = false) := Lib.hid (fun j hj h => by
            by_cases e : j = k
            · subst e; rw [← hy.out]; exact ⟨e1, e2⟩
            · exact hok.out j hj (by omega))
          go_wp2_with fail
          go_quiet (first | (go_at_call 29; exact Calls.quiet_of_same (flip_same (sIsCard_any _ _) (congrArg Value.bool e1))) | (go_at_call 53; exact Calls.quiet_of_same (flip_same (sHasCard_any _ _ _ _ _ (Hrd.out _) hlk) (congrArg Value.bool e2))))
          go_wp2_with fail
          go_roundw
          case rel => exact ⟨k + 1, by omega, by go_num, by obtain ⟨q, e⟩ := Hq.out; subst e; exact ⟨_, World.drewN_drewN _ _ _⟩, hok2⟩
          case measure => simp [intOf]; omega
    · obtain rfl : k = n := by omega
      have hr1 : Hid (r = true) := Lib.hid (by rw [Hr.out]; exact isHand_yes (fun j hj => hok.out j hj (by rw [Hn.out]; exact hj)))
      go_wp2_with fail
      go_ret
      exact ⟨by rw [hr1.out]; rfl, by obtain ⟨q, e⟩ := Hq.out; subst e; exact _root_.Go.below_drewN (Below.refl _ _) _⟩

end Go.Proofs.YtmhbonbjnpcpeaaGreatDoor
namespace Go.Proofs.YtmhbonbjnpcpeaaGreatDoor
open Go.RowKit

def bitN (c : Int) : Nat := if isCard c then 2 ^ c.toNat else 0
theorem bitN_in {c : Int} (h : isCard c = true) : bitN c = 2 ^ c.toNat := by unfold bitN; rw [h]; rfl
theorem bitN_out {c : Int} (h : isCard c = false) : bitN c = 0 := by unfold bitN; rw [h]; rfl
theorem pow_lt52 {m : Nat} (h : m ≤ 51) : (2 : Nat) ^ m < 2 ^ 52 := Nat.pow_lt_pow_right (by omega) (by omega)
theorem bitN_lt (c : Int) : bitN c < 2 ^ 52 := by
  cases h : isCard c with
  | true =>
    rw [bitN_in h]
    have := isCard_t h
    exact pow_lt52 (by omega)
  | false => rw [bitN_out h]; exact Nat.pos_of_ne_zero (by decide)
theorem u64_nat {n : Nat} (h : n < 2 ^ 52) : IntKind.u64.wrap (n : Int) = (n : Int) := by
  rw [IntKind.wrap_u64]
  have : (2 : Nat) ^ 52 = 4503599627370496 := by decide
  omega
theorem ofInt_nat {a : Nat} (ha : a < 2 ^ 52) : (BitVec.ofInt 64 (a : Int)).toNat = a := by
  rw [BitVec.toNat_ofInt]
  have : (2 : Nat) ^ 52 = 4503599627370496 := by decide
  have h2 : ((2 ^ 64 : Nat) : Int) = 18446744073709551616 := by decide
  rw [h2]; omega
theorem bits_and {a b : Nat} (ha : a < 2 ^ 52) (hb : b < 2 ^ 52) : bits .and .u64 (a : Int) (b : Int) = ((a &&& b : Nat) : Int) := by
  show IntKind.u64.wrap ((BitVec.ofInt 64 (a : Int) &&& BitVec.ofInt 64 (b : Int)).toNat : Nat) = _
  rw [BitVec.toNat_and, ofInt_nat ha, ofInt_nat hb]
  exact u64_nat (Nat.lt_of_le_of_lt Nat.and_le_left ha)
theorem bits_or {a b : Nat} (ha : a < 2 ^ 52) (hb : b < 2 ^ 52) : bits .or .u64 (a : Int) (b : Int) = ((a ||| b : Nat) : Int) := by
  show IntKind.u64.wrap ((BitVec.ofInt 64 (a : Int) ||| BitVec.ofInt 64 (b : Int)).toNat : Nat) = _
  rw [BitVec.toNat_or, ofInt_nat ha, ofInt_nat hb]
  exact u64_nat (Nat.or_lt_two_pow ha hb)
theorem bitOf_any (c : Int) (w : World) :
    Calls Tryz.prog 110 #[.int .i64 c] w fun e w' => e = .returned (.int .u64 (bitN c : Nat)) ∧ w = w' := by
  by_cases h0 : 0 ≤ c
  · by_cases h1 : c ≤ 51
    · have Hr : Hid (((bitN c : Nat) : Int) = IntKind.u64.wrap (2 ^ c.toNat)) := Lib.hid (by
        have e : ((2 : Int) ^ c.toNat) = ((2 ^ c.toNat : Nat) : Int) := by simp
        rw [e, u64_nat (pow_lt52 (by omega)), bitN_in (by unfold isCard; simp; omega)])
      go_enter Tryz.func110, Tryz.ntmps110
      go_wp2
      go_ret
      exact ⟨by rw [Hr.out]; rfl, rfl⟩
    · have Hr : Hid (bitN c = 0) := Lib.hid (bitN_out (by unfold isCard; simp; omega))
      have hd : decide (c ≤ 51) = false := by simp; omega
      go_enter Tryz.func110, Tryz.ntmps110
      go_wp2
      go_ret
      exact ⟨by rw [Hr.out]; rfl, rfl⟩
  · have Hr : Hid (bitN c = 0) := Lib.hid (bitN_out (by unfold isCard; simp; omega))
    go_enter Tryz.func110, Tryz.ntmps110
    go_wp2
    go_ret
    exact ⟨by rw [Hr.out]; rfl, rfl⟩
theorem bitN_ne (c : Int) : ((((bitN c : Nat) : Int)) != 0) = isCard c := by
  cases h : isCard c with
  | true =>
    rw [bitN_in h]
    have : 0 < 2 ^ c.toNat := Nat.pow_pos (by omega)
    simp only [bne_iff_ne, ne_eq]; omega
  | false => rw [bitN_out h]; rfl
theorem hasPlace_any (s c : Int) (w : World) :
    Calls Tryz.prog 108 #[.int .u64 s, .int .i64 c] w fun e w' => e = .returned (.bool (isCard c)) ∧ w = w' := by
  have Hb := Lib.hid (bitOf_any c w)
  have Hn := Lib.hid (bitN_ne c)
  generalize bitN c = m at *
  go_enter Tryz.func108, Tryz.ntmps108
  go_wp2_with fail
  refine Hb.out.mono ?_
  rintro e _w ⟨rfl, rfl⟩
  go_wp2_with fail
  go_ret
  exact ⟨by rw [← Hn.out]; rfl, rfl⟩
theorem lacks_any (m : Nat) (c : Int) (w : World) (hm : m < 2 ^ 52) :
    Calls Tryz.prog 109 #[.int .u64 (m : Nat), .int .i64 c] w fun e w' => e = .returned (.bool (decide (m &&& bitN c = 0))) ∧ w = w' := by
  have Hb := Lib.hid (bitOf_any c w)
  have hand := bits_and hm (bitN_lt c)
  have Hr : Hid (decide (m &&& bitN c = 0) = ((((m &&& bitN c : Nat) : Int)) == 0)) := Lib.hid (by
    by_cases h : m &&& bitN c = 0
    · rw [h]; rfl
    · rw [decide_eq_false h]
      symm
      rw [beq_eq_false_iff_ne]
      intro e; exact h (by omega))
  generalize m &&& bitN c = p at *
  generalize bitN c = q at *
  clear hm
  go_enter Tryz.func109, Tryz.ntmps109
  go_wp2_with fail
  refine Hb.out.mono ?_
  rintro e _w ⟨rfl, rfl⟩
  go_wp2_with fail
  go_ret
  exact ⟨by rw [Hr.out]; rfl, rfl⟩
theorem has_take (zs : List Int) (k : Nat) (h : k < zs.length) (c : Int) : hasI (zs.take (k + 1)) c = (hasI (zs.take k) c || decide (zs[k] = c)) := by
  unfold hasI
  rw [List.take_succ_eq_append_getElem h]
  have e : (c ∈ zs.take k ++ [zs[k]]) ↔ (c ∈ zs.take k ∨ zs[k] = c) := by
    rw [List.mem_append, List.mem_singleton]; exact or_congr Iff.rfl eq_comm
  rw [decide_eq_decide.2 e, Bool.decide_or]
theorem and_bit (m : Nat) {c : Int} (hc : isCard c = true) : decide (m &&& bitN c = 0) = !m.testBit c.toNat := by
  rw [bitN_in hc]
  cases h : m.testBit c.toNat with
  | true =>
    rw [Bool.not_true, decide_eq_false_iff_not]
    intro e
    have h2 : (m &&& 2 ^ c.toNat).testBit c.toNat = true := by
      rw [Nat.testBit_and, h, Nat.testBit_two_pow]; simp
    rw [e, Nat.zero_testBit] at h2
    cases h2
  | false =>
    rw [Bool.not_false, decide_eq_true_eq]
    refine Nat.eq_of_testBit_eq fun j => ?_
    rw [Nat.testBit_and, Nat.testBit_two_pow, Nat.zero_testBit]
    by_cases e : c.toNat = j
    · subst e; rw [h]; rfl
    · simp [e]

set_option maxRecDepth 100000 in
set_option maxHeartbeats 1000000 in
theorem isHand_any (v : Value) (zs : List Int) (b : Nat) (w : World) (h : RdAt .i64 w v zs b) (hl : zs.length ≤ 1099511627776) :
    Calls Tryz.prog 81 #[v] w fun e w' => e = .returned (.bool (isHand zs)) ∧ Below w.heap.size w w' := by
  obtain ⟨a, cap, rfl, -, -, hcell⟩ := h
  obtain ⟨n, hn⟩ : ∃ n, n = zs.length := ⟨_, rfl⟩
  have Hn := Lib.hid hn
  rw [← hn] at hl ⊢
  clear hn
  obtain ⟨r, hr⟩ : ∃ r, r = isHand zs := ⟨_, rfl⟩
  have Hr := Lib.hid hr
  rw [← hr]
  clear hr
  go_enter Tryz.func81, Tryz.ntmps81
  go_wp2_with fail
  go_loopw [3, 10] (fun s i wr => ∃ k m : Nat, k ≤ n ∧ i = .int .i64 k ∧ s = .int .u64 (m : Nat) ∧ Hid (m < 2 ^ 52) ∧ Hid (∀ c : Nat, c < 52 → m.testBit c = hasI (zs.take k) (c : Int)) ∧ Below w.heap.size w wr ∧ Hid (∀ j (hj : j < zs.length), j < k → isCard zs[j] = true ∧ hasI (zs.take j) zs[j] = false)) (fun _ i _ => n - (intOf i).toNat)
  case atStart => exact ⟨0, 0, Nat.zero_le _, rfl, rfl, Lib.hid (by decide), Lib.hid (fun c _ => by simp [hasI]), Below.refl _ _, Lib.hid (fun j _ h => by omega)⟩
  case round =>
    obtain ⟨k, m, hk, rfl, rfl, hm, hbits, hB, hok⟩ := hrel
    by_cases hlt : k < n
    · have hz : k < zs.length := by rw [← Hn.out]; exact hlt
      rcases hcell with h0 | ⟨off, rfl, hc⟩
      · subst h0; simp at hz
      obtain ⟨y, hy⟩ : ∃ y, Hid (y = zs[k]) := ⟨_, Lib.hid rfl⟩
      have h1 : wr.cell? ⟨b, off + k, none⟩ = some (.int .i64 y) := by
        have h1 := hc k hz
        rw [hB.cell (World.block_lt_of_cell? _ _ h1), h1, hy.out]
      clear hc
      have P1 : Hid (∀ W, Calls Tryz.prog 108 #[.int .u64 (m : Nat), .int .i64 y] W fun e w' => e = .returned (.bool (isCard y)) ∧ W = w') := Lib.hid (fun W => hasPlace_any _ y W)
      have P2 : Hid (∀ W, Calls Tryz.prog 109 #[.int .u64 (m : Nat), .int .i64 y] W fun e w' => e = .returned (.bool (decide (m &&& bitN y = 0))) ∧ W = w') := Lib.hid (fun W => lacks_any m y W hm.out)
      have P3 : Hid (∀ W, Calls Tryz.prog 110 #[.int .i64 y] W fun e w' => e = .returned (.int .u64 (bitN y : Nat)) ∧ W = w') := Lib.hid (fun W => bitOf_any y W)
      have hsz := hB.size
      cases e1 : isCard y with
      | false =>
        have hr1 : Hid (r = false) := Lib.hid (by rw [Hr.out]; exact isHand_no hz (.inl (by rw [← hy.out]; exact e1)))
        have E1 := Lib.hid e1
        clear e1
        go_wp2_with fail
        refine wp_loop_rounds 3 ?_
        rw [rounds_succ]
        go_wp2_with fail
        refine (P1.out _).mono ?_
        rintro e _w ⟨rfl, rfl⟩
        rw [E1.out]
        go_wp2_with fail
        go_ret
        exact ⟨by rw [hr1.out]; rfl, hB.alloc hsz _⟩
      | true =>
        have hyb := isCard_t e1
        have E1 := Lib.hid e1
        have HA := Lib.hid (and_bit m e1)
        have Hbn := Lib.hid (bitN_in e1)
        have hbt : m.testBit y.toNat = hasI (zs.take k) y := by
          have := hbits.out y.toNat (by omega)
          rw [show ((y.toNat : Nat) : Int) = y by omega] at this
          exact this
        clear e1
        cases e2 : hasI (zs.take k) y with
        | true =>
          have hr1 : Hid (r = false) := Lib.hid (by rw [Hr.out]; exact isHand_no hz (.inr (by rw [← hy.out]; exact e2)))
          have HA2 : Hid (decide (m &&& bitN y = 0) = false) := Lib.hid (by rw [HA.out, hbt, e2]; rfl)
          clear e2 hbt hyb
          go_wp2_with fail
          refine wp_loop_rounds 3 ?_
          rw [rounds_succ]
          go_wp2_with fail
          refine (P1.out _).mono ?_
          rintro e _w ⟨rfl, rfl⟩
          rw [E1.out]
          go_wp2_with fail
          rw [rounds_succ]
          go_wp2_with fail
          refine (P2.out _).mono ?_
          rintro e _w ⟨rfl, rfl⟩
          rw [HA2.out]
          go_wp2_with fail
          go_ret
          exact ⟨by rw [hr1.out]; rfl, hB.alloc hsz _⟩
        | false =>
          have HA2 : Hid (decide (m &&& bitN y = 0) = true) := Lib.hid (by rw [HA.out, hbt, e2]; rfl)
          have hok2 : Hid (∀ j (hj : j < zs.length), j < k + 1 → isCard zs[j] = true ∧ hasI (zs.take j) zs[j] = false) := Lib.hid (fun j hj h => by
            by_cases e : j = k
            · subst e; rw [← hy.out]; exact ⟨E1.out, e2⟩
            · exact hok.out j hj (by omega))
          have hor := bits_or hm.out (bitN_lt y)
          have hm2 : Hid (m ||| bitN y < 2 ^ 52) := Lib.hid (Nat.or_lt_two_pow hm.out (bitN_lt y))
          have hb2 : Hid (∀ c : Nat, c < 52 → (m ||| bitN y).testBit c = hasI (zs.take (k + 1)) (c : Int)) := Lib.hid (fun c hc => by
            rw [Nat.testBit_or, hbits.out c hc, has_take zs k hz, ← hy.out, Hbn.out, Nat.testBit_two_pow]
            congr 1
            by_cases e : y = (c : Int)
            · subst e; simp
            · simp only [e, decide_false, decide_eq_false_iff_not]; omega)
          clear e2 hbt hyb
          generalize m ||| bitN y = m2 at *
          go_wp2_with fail
          refine wp_loop_rounds 3 ?_
          rw [rounds_succ]
          go_wp2_with fail
          refine (P1.out _).mono ?_
          rintro e _w ⟨rfl, rfl⟩
          rw [E1.out]
          go_wp2_with fail
          rw [rounds_succ]
          go_wp2_with fail
          refine (P2.out _).mono ?_
          rintro e _w ⟨rfl, rfl⟩
          rw [HA2.out]
          go_wp2_with fail
          rw [rounds_succ]
          go_wp2_with fail
          refine (P3.out _).mono ?_
          rintro e _w ⟨rfl, rfl⟩
          generalize bitN y = q at *
          go_wp2_with fail
          go_roundw
          case rel => exact ⟨k + 1, m2, by omega, by go_num, rfl, hm2, hb2, hB.alloc hsz _, hok2⟩
          case measure => simp [intOf]; omega
    · obtain rfl : k = n := by omega
      have hr1 : Hid (r = true) := Lib.hid (by rw [Hr.out]; exact isHand_yes (fun j hj => hok.out j hj (by rw [Hn.out]; exact hj)))
      go_wp2_with fail
      go_ret
      exact ⟨by rw [hr1.out]; rfl, hB⟩
end Go.Proofs.YtmhbonbjnpcpeaaGreatDoor
namespace Go.Proofs.YtmhbonbjnpcpeaaGreatDoor
open Go.RowKit

def setN (zs : List Int) : Nat := zs.foldl (fun s c => s ||| bitN c) 0
theorem setN_snoc (zs : List Int) (c : Int) : setN (zs ++ [c]) = setN zs ||| bitN c := by simp [setN]
theorem setN_lt (zs : List Int) : setN zs < 2 ^ 52 := by
  suffices h : ∀ (l : List Int) (m : Nat), m < 2 ^ 52 → l.foldl (fun s c => s ||| bitN c) m < 2 ^ 52 from h zs 0 (by decide)
  intro l
  induction l with
  | nil => exact fun m h => h
  | cons x l ih => exact fun m h => ih _ (Nat.or_lt_two_pow h (bitN_lt x))
theorem bitN_bit (c : Int) (j : Nat) : (bitN c).testBit j = decide (isCard c = true ∧ c = (j : Int)) := by
  cases h : isCard c with
  | true =>
    have hc := isCard_t h
    rw [bitN_in h, Nat.testBit_two_pow]
    by_cases e : c = (j : Int)
    · simp [e]
    · have : c.toNat ≠ j := by omega
      simp [e, this]
  | false => rw [bitN_out h, Nat.zero_testBit]; simp
theorem foldl_bit (l : List Int) (m j : Nat) : (l.foldl (fun s c => s ||| bitN c) m).testBit j = (m.testBit j || decide (isCard (j : Int) = true ∧ (j : Int) ∈ l)) := by
  induction l generalizing m with
  | nil => simp
  | cons x l ih =>
    rw [List.foldl_cons, ih, Nat.testBit_or, bitN_bit]
    by_cases e : x = (j : Int)
    · subst e
      cases h : isCard (j : Int) <;> simp
    · have e2 : ¬ (j : Int) = x := fun h => e h.symm
      simp [e, e2]
theorem setN_bit (zs : List Int) (j : Nat) : (setN zs).testBit j = decide (isCard (j : Int) = true ∧ (j : Int) ∈ zs) := by
  unfold setN; rw [foldl_bit]; simp
theorem setN_app (A B : List Int) : setN (A ++ B) = setN A ||| setN B := by
  refine Nat.eq_of_testBit_eq fun j => ?_
  rw [Nat.testBit_or, setN_bit, setN_bit, setN_bit]
  cases h : isCard (j : Int) <;> simp
theorem isHand_iff (zs : List Int) : isHand zs = true ↔ (∀ x ∈ zs, isCard x = true) ∧ zs.Nodup := by
  unfold isHand
  simp only [decide_eq_true_eq]
  constructor
  · intro h
    refine ⟨fun x hx => ?_, ?_⟩
    · obtain ⟨j, hj, rfl⟩ := List.getElem_of_mem hx
      exact (h j hj).1
    · rw [List.nodup_iff_pairwise_ne, List.pairwise_iff_getElem]
      intro i j hi hj hij e
      refine (h j hj).2 ?_
      rw [← e]
      exact List.mem_take_iff_getElem.2 ⟨i, by omega, rfl⟩
  · rintro ⟨h1, h2⟩ j hj
    refine ⟨h1 _ (List.getElem_mem hj), fun hm => ?_⟩
    obtain ⟨i, hi, e⟩ := List.mem_take_iff_getElem.1 hm
    rw [List.nodup_iff_pairwise_ne, List.pairwise_iff_getElem] at h2
    exact h2 i j (by omega) hj (by omega) e
theorem isHand_app {A B : List Int} (hA : isHand A = true) : isHand (A ++ B) = (isHand B && decide (setN A &&& setN B = 0)) := by
  obtain ⟨a1, a2⟩ := (isHand_iff A).1 hA
  have key : (setN A &&& setN B = 0 ∧ isHand B = true) ↔ isHand (A ++ B) = true := by
    rw [isHand_iff, isHand_iff, List.nodup_append]
    constructor
    · rintro ⟨h, b1, b2⟩
      refine ⟨fun x hx => (List.mem_append.1 hx).elim (a1 x) (b1 x), a2, b2, fun x hx y hy e => ?_⟩
      subst e
      have hc := isCard_t (a1 x hx)
      have h3 : (setN A &&& setN B).testBit x.toNat = true := by
        have e2 : ((x.toNat : Nat) : Int) = x := by omega
        rw [Nat.testBit_and, setN_bit, setN_bit, e2]; simp [a1 x hx, hx, hy]
      rw [h, Nat.zero_testBit] at h3
      cases h3
    · rintro ⟨h1, -, h3, h4⟩
      refine ⟨?_, fun x hx => h1 x (List.mem_append_right _ hx), h3⟩
      refine Nat.eq_of_testBit_eq fun j => ?_
      rw [Nat.testBit_and, setN_bit, setN_bit, Nat.zero_testBit]
      by_cases hj : (j : Int) ∈ A
      · by_cases hj2 : (j : Int) ∈ B
        · exact absurd rfl (h4 _ hj _ hj2)
        · simp [hj2]
      · simp [hj]
  cases h : isHand (A ++ B) with
  | true =>
    obtain ⟨h1, h2⟩ := key.2 h
    rw [h1, h2]; rfl
  | false =>
    cases h2 : isHand B with
    | false => rfl
    | true =>
      have : ¬ setN A &&& setN B = 0 := fun e => by
        have := key.1 ⟨e, h2⟩
        rw [h] at this; cases this
      simp [this]
theorem isHand_pre {A B : List Int} (hA : isHand A = false) : isHand (A ++ B) = false := by
  cases h : isHand (A ++ B) with
  | false => rfl
  | true =>
    exfalso
    obtain ⟨h1, h2⟩ := (isHand_iff _).1 h
    have : isHand A = true := (isHand_iff A).2 ⟨fun x hx => h1 x (List.mem_append_left _ hx), (List.nodup_append.1 h2).1⟩
    rw [hA] at this; cases this

end Go.Proofs.YtmhbonbjnpcpeaaGreatDoor
namespace Go.Proofs.YtmhbonbjnpcpeaaGreatDoor
open Go.RowKit

def apart (zss : List (List Int)) : Bool := isHand zss.flatten
theorem flat_take (zss : List (List Int)) (k : Nat) (h : k < zss.length) : (zss.take (k + 1)).flatten = (zss.take k).flatten ++ zss[k] := by
  rw [List.take_succ_eq_append_getElem h, List.flatten_append]; simp
theorem flat_pre (zss : List (List Int)) (k : Nat) : zss.flatten = (zss.take k).flatten ++ (zss.drop k).flatten := by
  rw [← List.flatten_append, List.take_append_drop]
theorem flat_len (zss : List (List Int)) : zss.flatten.length = sumLen zss := by unfold sumLen; rw [List.length_flatten]
theorem apart_no {zss : List (List Int)} {k : Nat} (h : isHand (zss.take k).flatten = false) : apart zss = false := by
  unfold apart; rw [flat_pre zss k]; exact isHand_pre h

end Go.Proofs.YtmhbonbjnpcpeaaGreatDoor
namespace Go.Proofs.YtmhbonbjnpcpeaaGreatDoor
set_option linter.unusedVariables false
set_option linter.unusedSimpArgs false

def leafF (s : Int) : Option (Int → Bool) :=
  if 100 ≤ s ∧ s ≤ 103 then some fun c => decide (c / 13 = s - 100)
  else if 200 ≤ s ∧ s ≤ 212 then some fun c => decide (c % 13 = s - 200)
  else if 300 ≤ s ∧ s ≤ 312 then some fun c => decide (s - 300 ≤ c % 13)
  else if s = 400 then some fun c => decide (c / 13 = 1) || decide (c / 13 = 2)
  else none
def getF (st : List (Int → Bool)) (i : Nat) : Int → Bool := st.getD i fun _ => false
def notF (f : Int → Bool) : Int → Bool := fun c => !f c
def andF (f g : Int → Bool) : Int → Bool := fun c => f c && g c
def orF (f g : Int → Bool) : Int → Bool := fun c => f c || g c
def stepP (st : List (Int → Bool)) (s : Int) : Option (List (Int → Bool)) :=
  match leafF s with
  | some f => some (st ++ [f])
  | none =>
    if s = -1 ∧ 1 ≤ st.length then some (st.take (st.length - 1) ++ [notF (getF st (st.length - 1))])
    else if s = -2 ∧ 2 ≤ st.length then some (st.take (st.length - 2) ++ [andF (getF st (st.length - 2)) (getF st (st.length - 1))])
    else if s = -3 ∧ 2 ≤ st.length then some (st.take (st.length - 2) ++ [orF (getF st (st.length - 2)) (getF st (st.length - 1))])
    else none
def workP (st : List (Int → Bool)) : List Int → Option (List (Int → Bool))
  | [] => some st
  | s :: p => match stepP st s with
    | none => none
    | some st' => workP st' p
theorem workP_append (p q : List Int) : ∀ st, workP st (p ++ q) = (workP st p).bind fun st' => workP st' q := by
  induction p with
  | nil => intro st; rfl
  | cons s p ih =>
    intro st
    simp only [List.cons_append, workP]
    cases stepP st s with
    | none => rfl
    | some st' => exact ih st'
def isPat (p : List Int) : Bool := match workP [] p with
  | some [_] => decide (p.length ≤ 20)
  | _ => false
def patF (p : List Int) : Int → Bool := match workP [] p with
  | some [f] => f
  | _ => fun _ => false
theorem work_next (p : List Int) (k : Nat) (h : k < p.length) (st : List (Int → Bool)) (hs : workP [] (p.take k) = some st) : workP [] (p.take (k + 1)) = stepP st p[k] := by
  rw [List.take_succ_eq_append_getElem h, workP_append, hs]
  show workP st [p[k]] = _
  simp only [workP]
  cases stepP st p[k] <;> rfl
theorem work_none (p : List Int) (k : Nat) (h : workP [] (p.take k) = none) : workP [] p = none := by
  rw [← List.take_append_drop k p, workP_append, h]; rfl
theorem pat_none (p : List Int) (h : workP [] p = none) : isPat p = false := by unfold isPat; rw [h]
theorem pat_bad (p : List Int) (k : Nat) (h : k < p.length) (st : List (Int → Bool)) (hs : workP [] (p.take k) = some st) (hn : stepP st p[k] = none) : isPat p = false :=
  pat_none p (work_none p (k + 1) (by rw [work_next p k h st hs, hn]))
theorem pat_end (p : List Int) (st : List (Int → Bool)) (hs : workP [] p = some st) : isPat p = (decide (st.length = 1) && decide (p.length ≤ 20)) := by
  unfold isPat
  rw [hs]
  match st with
  | [] => rfl
  | [f] => rfl
  | f :: g :: l => simp
theorem pat_some (p : List Int) (h : isPat p = true) : ∃ f, workP [] p = some [f] ∧ patF p = f ∧ p.length ≤ 20 := by
  unfold isPat at h
  unfold patF
  split at h
  · rename_i f e; exact ⟨f, e, rfl, by simpa using h⟩
  · cases h
/-- What a sign does: by its kind. -/
def leaf (s : Int) : Bool := (leafF s).isSome
theorem leaf_iff (s : Int) : leaf s = decide ((100 ≤ s ∧ s ≤ 103) ∨ (200 ≤ s ∧ s ≤ 212) ∨ (300 ≤ s ∧ s ≤ 312) ∨ s = 400) := by
  unfold leaf leafF
  by_cases h1 : 100 ≤ s ∧ s ≤ 103
  · simp [h1]
  by_cases h2 : 200 ≤ s ∧ s ≤ 212
  · simp [h1, h2]
  by_cases h3 : 300 ≤ s ∧ s ≤ 312
  · simp [h1, h2, h3]
  by_cases h4 : s = 400
  · simp [h1, h2, h3, h4]
  · simp [h1, h2, h3, h4]
theorem step_leaf (st : List (Int → Bool)) (s : Int) (f : Int → Bool) (h : leafF s = some f) : stepP st s = some (st ++ [f]) := by unfold stepP; rw [h]
theorem leaf_none (s : Int) (h : leaf s = false) : leafF s = none := by
  unfold leaf at h
  cases e : leafF s with
  | none => rfl
  | some f => rw [e] at h; cases h
theorem leaf_some (s : Int) (h : leaf s = true) : ∃ f, leafF s = some f := by
  unfold leaf at h
  cases e : leafF s with
  | none => rw [e] at h; cases h
  | some f => exact ⟨f, rfl⟩
theorem leafF_neg (s : Int) (h : s < 0) : leafF s = none := by
  unfold leafF
  rw [if_neg (by omega), if_neg (by omega), if_neg (by omega), if_neg (by omega)]
theorem step_not (st : List (Int → Bool)) (h : 1 ≤ st.length) : stepP st (-1) = some (st.take (st.length - 1) ++ [notF (getF st (st.length - 1))]) := by
  unfold stepP; rw [leafF_neg _ (by omega)]; dsimp only; rw [if_pos ⟨rfl, h⟩]
theorem step_and (st : List (Int → Bool)) (h : 2 ≤ st.length) : stepP st (-2) = some (st.take (st.length - 2) ++ [andF (getF st (st.length - 2)) (getF st (st.length - 1))]) := by
  unfold stepP; rw [leafF_neg _ (by omega)]; dsimp only; rw [if_neg (by omega), if_pos ⟨rfl, h⟩]
theorem step_or (st : List (Int → Bool)) (h : 2 ≤ st.length) : stepP st (-3) = some (st.take (st.length - 2) ++ [orF (getF st (st.length - 2)) (getF st (st.length - 1))]) := by
  unfold stepP; rw [leafF_neg _ (by omega)]; dsimp only; rw [if_neg (by omega), if_neg (by omega), if_pos ⟨rfl, h⟩]
theorem step_bad (st : List (Int → Bool)) (s : Int) (hl : leaf s = false) (h1 : ¬ (s = -1 ∧ 1 ≤ st.length)) (h2 : ¬ (s = -2 ∧ 2 ≤ st.length)) (h3 : ¬ (s = -3 ∧ 2 ≤ st.length)) : stepP st s = none := by
  unfold stepP; rw [leaf_none _ hl]; dsimp only; rw [if_neg h1, if_neg h2, if_neg h3]
theorem step_len (st st' : List (Int → Bool)) (s : Int) (h : stepP st s = some st') : st'.length ≤ st.length + 1 := by
  unfold stepP at h
  split at h
  · cases h; simp
  · split at h
    · cases h; simp <;> omega
    · split at h
      · cases h; simp <;> omega
      · split at h
        · cases h; simp <;> omega
        · cases h

end Go.Proofs.YtmhbonbjnpcpeaaGreatDoor
