/-
  The struct Table: what can be read of it, what may be written and in which blocks; the laws' helpers over it.
-/
import Derived.Test.YtmfammgdcdlceaaDoorFr
import Derived.Test.YtmfammgdcdlceaaDoorSetR
import Derived.Test.YtmfammgdcdlceaaDoorNGame
import Derived.Test.YtmfammgdcdlceaaDoorNRules
import Derived.Deep.Cut
namespace Go.Proofs.YtmfammgdcdlceaaDoor
open Go.RowKit
set_option linter.unusedVariables false
set_option linter.unusedSimpArgs false

structure MTable where
  rules : MRules
  seals : List Int
  on : Bool
  deck : List Int
  game : MGame
  record : List Int
  sheet : List (List Int)
/-- The value v is such a struct, with the numbers D. -/
def RdTable (w : World) (v : Value) (D : MTable) : Prop :=
  ∃ (p4 p5 p8 p10 p15 p16 p19 p20 p21 p25 p26 : Option Addr) (c4 c5 c8 c10 c15 c16 c19 c20 c21 c25 c26 b8 b10 b25 : Nat), v = .agg #[.int .i64 D.rules.players, .int .i64 D.rules.each, .bool D.rules.sameSuit, .bool D.rules.sameRank, .slice p4 D.rules.wild.length c4, .slice p5 D.rules.skip.length c5, .int .i64 D.rules.take, .int .i64 D.rules.limit, .slice p8 D.seals.length c8, .bool D.on, .slice p10 D.deck.length c10, .int .i64 D.game.rules.players, .int .i64 D.game.rules.each, .bool D.game.rules.sameSuit, .bool D.game.rules.sameRank, .slice p15 D.game.rules.wild.length c15, .slice p16 D.game.rules.skip.length c16, .int .i64 D.game.rules.take, .int .i64 D.game.rules.limit, .slice p19 D.game.hands.length c19, .slice p20 D.game.stock.length c20, .slice p21 D.game.heap.length c21, .int .i64 D.game.turn, .int .i64 D.game.moves, .int .i64 D.game.passes, .slice p25 D.record.length c25, .slice p26 D.sheet.length c26] ∧ RdRules w (.agg #[.int .i64 D.rules.players, .int .i64 D.rules.each, .bool D.rules.sameSuit, .bool D.rules.sameRank, .slice p4 D.rules.wild.length c4, .slice p5 D.rules.skip.length c5, .int .i64 D.rules.take, .int .i64 D.rules.limit]) D.rules ∧ RdAt .i64 w (.slice p8 D.seals.length c8) D.seals b8 ∧ RdAt .i64 w (.slice p10 D.deck.length c10) D.deck b10 ∧ RdGame w (.agg #[.int .i64 D.game.rules.players, .int .i64 D.game.rules.each, .bool D.game.rules.sameSuit, .bool D.game.rules.sameRank, .slice p15 D.game.rules.wild.length c15, .slice p16 D.game.rules.skip.length c16, .int .i64 D.game.rules.take, .int .i64 D.game.rules.limit, .slice p19 D.game.hands.length c19, .slice p20 D.game.stock.length c20, .slice p21 D.game.heap.length c21, .int .i64 D.game.turn, .int .i64 D.game.moves, .int .i64 D.game.passes]) D.game ∧ RdAt .i64 w (.slice p25 D.record.length c25) D.record b25 ∧ RdRows .i64 w (.slice p26 D.sheet.length c26) D.sheet
theorem RdTable.below {w w' : World} {v : Value} {D : MTable} (h : RdTable w v D) (hb : Below w.heap.size w w') : RdTable w' v D := by
  obtain ⟨p4, p5, p8, p10, p15, p16, p19, p20, p21, p25, p26, c4, c5, c8, c10, c15, c16, c19, c20, c21, c25, c26, b8, b10, b25, e, h0, h8, h10, h11, h25, h26⟩ := h
  exact ⟨p4, p5, p8, p10, p15, p16, p19, p20, p21, p25, p26, c4, c5, c8, c10, c15, c16, c19, c20, c21, c25, c26, b8, b10, b25, e, h0.below hb, h8.below hb, h10.below hb, h11.below hb, h25.below hb, h26.below hb⟩
def MTable.Few (D : MTable) : Prop := D.rules.Few ∧ D.seals.length ≤ 1048576 ∧ D.deck.length ≤ 1048576 ∧ D.game.Few ∧ D.record.length ≤ 1048576 ∧ D.sheet.length ≤ 1048576 ∧ sumLen D.sheet ≤ 1048576
theorem RdTable.shape {w : World} {v : Value} {D : MTable} (h : RdTable w v D) : ∃ (p4 p5 p8 p10 p15 p16 p19 p20 p21 p25 p26 : Option Addr) (c4 c5 c8 c10 c15 c16 c19 c20 c21 c25 c26 : Nat), v = .agg #[.int .i64 D.rules.players, .int .i64 D.rules.each, .bool D.rules.sameSuit, .bool D.rules.sameRank, .slice p4 D.rules.wild.length c4, .slice p5 D.rules.skip.length c5, .int .i64 D.rules.take, .int .i64 D.rules.limit, .slice p8 D.seals.length c8, .bool D.on, .slice p10 D.deck.length c10, .int .i64 D.game.rules.players, .int .i64 D.game.rules.each, .bool D.game.rules.sameSuit, .bool D.game.rules.sameRank, .slice p15 D.game.rules.wild.length c15, .slice p16 D.game.rules.skip.length c16, .int .i64 D.game.rules.take, .int .i64 D.game.rules.limit, .slice p19 D.game.hands.length c19, .slice p20 D.game.stock.length c20, .slice p21 D.game.heap.length c21, .int .i64 D.game.turn, .int .i64 D.game.moves, .int .i64 D.game.passes, .slice p25 D.record.length c25, .slice p26 D.sheet.length c26] := by
  obtain ⟨p4, p5, p8, p10, p15, p16, p19, p20, p21, p25, p26, c4, c5, c8, c10, c15, c16, c19, c20, c21, c25, c26, b8, b10, b25, e, h0, h8, h10, h11, h25, h26⟩ := h
  exact ⟨p4, p5, p8, p10, p15, p16, p19, p20, p21, p25, p26, c4, c5, c8, c10, c15, c16, c19, c20, c21, c25, c26, e⟩
theorem STable_cells {w : World} {b : Nat} {a0 a1 a2 a3 a4 a5 a6 a7 a8 a9 a10 a11 a12 a13 a14 a15 a16 a17 a18 a19 a20 a21 a22 a23 a24 a25 a26 : Value} {t : TypeId} {fr : Nat × Nat} (h : w.heap[b]? = some (.cells #[a0, a1, a2, a3, a4, a5, a6, a7, a8, a9, a10, a11, a12, a13, a14, a15, a16, a17, a18, a19, a20, a21, a22, a23, a24, a25, a26] t fr)) : w.cell? ⟨b, 0, none⟩ = some a0 ∧ w.cell? ⟨b, 1, none⟩ = some a1 ∧ w.cell? ⟨b, 2, none⟩ = some a2 ∧ w.cell? ⟨b, 3, none⟩ = some a3 ∧ w.cell? ⟨b, 4, none⟩ = some a4 ∧ w.cell? ⟨b, 5, none⟩ = some a5 ∧ w.cell? ⟨b, 6, none⟩ = some a6 ∧ w.cell? ⟨b, 7, none⟩ = some a7 ∧ w.cell? ⟨b, 8, none⟩ = some a8 ∧ w.cell? ⟨b, 9, none⟩ = some a9 ∧ w.cell? ⟨b, 10, none⟩ = some a10 ∧ w.cell? ⟨b, 11, none⟩ = some a11 ∧ w.cell? ⟨b, 12, none⟩ = some a12 ∧ w.cell? ⟨b, 13, none⟩ = some a13 ∧ w.cell? ⟨b, 14, none⟩ = some a14 ∧ w.cell? ⟨b, 15, none⟩ = some a15 ∧ w.cell? ⟨b, 16, none⟩ = some a16 ∧ w.cell? ⟨b, 17, none⟩ = some a17 ∧ w.cell? ⟨b, 18, none⟩ = some a18 ∧ w.cell? ⟨b, 19, none⟩ = some a19 ∧ w.cell? ⟨b, 20, none⟩ = some a20 ∧ w.cell? ⟨b, 21, none⟩ = some a21 ∧ w.cell? ⟨b, 22, none⟩ = some a22 ∧ w.cell? ⟨b, 23, none⟩ = some a23 ∧ w.cell? ⟨b, 24, none⟩ = some a24 ∧ w.cell? ⟨b, 25, none⟩ = some a25 ∧ w.cell? ⟨b, 26, none⟩ = some a26 := by
  simp [World.cell?, h]
/-- .. and its lists may be written, each in blocks of its own out of S. -/
def WrTable (S : Nat → Prop) (w : World) (v : Value) (D : MTable) : Prop :=
  ∃ (p4 p5 p8 p10 p15 p16 p19 p20 p21 p25 p26 : Option Addr) (c4 c5 c8 c10 c15 c16 c19 c20 c21 c25 c26 : Nat) (S0 S8 S10 S11 S25 S26 : Nat → Prop), v = .agg #[.int .i64 D.rules.players, .int .i64 D.rules.each, .bool D.rules.sameSuit, .bool D.rules.sameRank, .slice p4 D.rules.wild.length c4, .slice p5 D.rules.skip.length c5, .int .i64 D.rules.take, .int .i64 D.rules.limit, .slice p8 D.seals.length c8, .bool D.on, .slice p10 D.deck.length c10, .int .i64 D.game.rules.players, .int .i64 D.game.rules.each, .bool D.game.rules.sameSuit, .bool D.game.rules.sameRank, .slice p15 D.game.rules.wild.length c15, .slice p16 D.game.rules.skip.length c16, .int .i64 D.game.rules.take, .int .i64 D.game.rules.limit, .slice p19 D.game.hands.length c19, .slice p20 D.game.stock.length c20, .slice p21 D.game.heap.length c21, .int .i64 D.game.turn, .int .i64 D.game.moves, .int .i64 D.game.passes, .slice p25 D.record.length c25, .slice p26 D.sheet.length c26] ∧ WrRules S0 w (.agg #[.int .i64 D.rules.players, .int .i64 D.rules.each, .bool D.rules.sameSuit, .bool D.rules.sameRank, .slice p4 D.rules.wild.length c4, .slice p5 D.rules.skip.length c5, .int .i64 D.rules.take, .int .i64 D.rules.limit]) D.rules ∧ WrIn .i64 S8 w (.slice p8 D.seals.length c8) D.seals ∧ WrIn .i64 S10 w (.slice p10 D.deck.length c10) D.deck ∧ WrGame S11 w (.agg #[.int .i64 D.game.rules.players, .int .i64 D.game.rules.each, .bool D.game.rules.sameSuit, .bool D.game.rules.sameRank, .slice p15 D.game.rules.wild.length c15, .slice p16 D.game.rules.skip.length c16, .int .i64 D.game.rules.take, .int .i64 D.game.rules.limit, .slice p19 D.game.hands.length c19, .slice p20 D.game.stock.length c20, .slice p21 D.game.heap.length c21, .int .i64 D.game.turn, .int .i64 D.game.moves, .int .i64 D.game.passes]) D.game ∧ WrIn .i64 S25 w (.slice p25 D.record.length c25) D.record ∧ WrSS .i64 S26 w (.slice p26 D.sheet.length c26) D.sheet ∧ (∀ b, S0 b → S b) ∧ (∀ b, S8 b → S b) ∧ (∀ b, S10 b → S b) ∧ (∀ b, S11 b → S b) ∧ (∀ b, S25 b → S b) ∧ (∀ b, S26 b → S b) ∧ (∀ b, S0 b → ¬ S8 b) ∧ (∀ b, S0 b → ¬ S10 b) ∧ (∀ b, S0 b → ¬ S11 b) ∧ (∀ b, S0 b → ¬ S25 b) ∧ (∀ b, S0 b → ¬ S26 b) ∧ (∀ b, S8 b → ¬ S10 b) ∧ (∀ b, S8 b → ¬ S11 b) ∧ (∀ b, S8 b → ¬ S25 b) ∧ (∀ b, S8 b → ¬ S26 b) ∧ (∀ b, S10 b → ¬ S11 b) ∧ (∀ b, S10 b → ¬ S25 b) ∧ (∀ b, S10 b → ¬ S26 b) ∧ (∀ b, S11 b → ¬ S25 b) ∧ (∀ b, S11 b → ¬ S26 b) ∧ (∀ b, S25 b → ¬ S26 b)
theorem WrTable.rd {S : Nat → Prop} {w : World} {v : Value} {D : MTable} (h : WrTable S w v D) : RdTable w v D := by
  obtain ⟨p4, p5, p8, p10, p15, p16, p19, p20, p21, p25, p26, c4, c5, c8, c10, c15, c16, c19, c20, c21, c25, c26, S0, S8, S10, S11, S25, S26, e, h0, h8, h10, h11, h25, h26, s0, s8, s10, s11, s25, s26, d0_1, d0_2, d0_3, d0_4, d0_5, d1_2, d1_3, d1_4, d1_5, d2_3, d2_4, d2_5, d3_4, d3_5, d4_5⟩ := h
  have r0 := h0.rd
  obtain ⟨b8, r8⟩ := h8.rd
  obtain ⟨b10, r10⟩ := h10.rd
  have r11 := h11.rd
  obtain ⟨b25, r25⟩ := h25.rd
  have r26 := h26.rd
  exact ⟨p4, p5, p8, p10, p15, p16, p19, p20, p21, p25, p26, c4, c5, c8, c10, c15, c16, c19, c20, c21, c25, c26, b8, b10, b25, e, r0, r8, r10, r11, r25, r26⟩
theorem WrTable.touch {S U : Nat → Prop} {w w' : World} {v : Value} {D : MTable} (h : WrTable S w v D) (t : Touch U w w') (hd : ∀ b, S b → ¬ U b) : WrTable S w' v D := by
  obtain ⟨p4, p5, p8, p10, p15, p16, p19, p20, p21, p25, p26, c4, c5, c8, c10, c15, c16, c19, c20, c21, c25, c26, S0, S8, S10, S11, S25, S26, e, h0, h8, h10, h11, h25, h26, s0, s8, s10, s11, s25, s26, d0_1, d0_2, d0_3, d0_4, d0_5, d1_2, d1_3, d1_4, d1_5, d2_3, d2_4, d2_5, d3_4, d3_5, d4_5⟩ := h
  exact ⟨p4, p5, p8, p10, p15, p16, p19, p20, p21, p25, p26, c4, c5, c8, c10, c15, c16, c19, c20, c21, c25, c26, S0, S8, S10, S11, S25, S26, e, h0.touch t (fun b hb => hd b (s0 b hb)), h8.touch t (fun b hb => hd b (s8 b hb)), h10.touch t (fun b hb => hd b (s10 b hb)), h11.touch t (fun b hb => hd b (s11 b hb)), h25.touch t (fun b hb => hd b (s25 b hb)), h26.touch t (fun b hb => hd b (s26 b hb)), s0, s8, s10, s11, s25, s26, d0_1, d0_2, d0_3, d0_4, d0_5, d1_2, d1_3, d1_4, d1_5, d2_3, d2_4, d2_5, d3_4, d3_5, d4_5⟩
theorem WrTable.below {S : Nat → Prop} {w w' : World} {v : Value} {D : MTable} (h : WrTable S w v D) (b : Below w.heap.size w w') : WrTable S w' v D := h.touch (Below.touch (S := fun _ => False) b) (fun _ _ hx => hx)
theorem WrTable.mono {S U : Nat → Prop} {w : World} {v : Value} {D : MTable} (h : WrTable S w v D) (hs : ∀ b, S b → U b) : WrTable U w v D := by
  obtain ⟨p4, p5, p8, p10, p15, p16, p19, p20, p21, p25, p26, c4, c5, c8, c10, c15, c16, c19, c20, c21, c25, c26, S0, S8, S10, S11, S25, S26, e, h0, h8, h10, h11, h25, h26, s0, s8, s10, s11, s25, s26, d0_1, d0_2, d0_3, d0_4, d0_5, d1_2, d1_3, d1_4, d1_5, d2_3, d2_4, d2_5, d3_4, d3_5, d4_5⟩ := h
  exact ⟨p4, p5, p8, p10, p15, p16, p19, p20, p21, p25, p26, c4, c5, c8, c10, c15, c16, c19, c20, c21, c25, c26, S0, S8, S10, S11, S25, S26, e, h0, h8, h10, h11, h25, h26, fun b hb => hs b (s0 b hb), fun b hb => hs b (s8 b hb), fun b hb => hs b (s10 b hb), fun b hb => hs b (s11 b hb), fun b hb => hs b (s25 b hb), fun b hb => hs b (s26 b hb), d0_1, d0_2, d0_3, d0_4, d0_5, d1_2, d1_3, d1_4, d1_5, d2_3, d2_4, d2_5, d3_4, d3_5, d4_5⟩
theorem WrTable.shape {S : Nat → Prop} {w : World} {v : Value} {D : MTable} (h : WrTable S w v D) : ∃ (p4 p5 p8 p10 p15 p16 p19 p20 p21 p25 p26 : Option Addr) (c4 c5 c8 c10 c15 c16 c19 c20 c21 c25 c26 : Nat), v = .agg #[.int .i64 D.rules.players, .int .i64 D.rules.each, .bool D.rules.sameSuit, .bool D.rules.sameRank, .slice p4 D.rules.wild.length c4, .slice p5 D.rules.skip.length c5, .int .i64 D.rules.take, .int .i64 D.rules.limit, .slice p8 D.seals.length c8, .bool D.on, .slice p10 D.deck.length c10, .int .i64 D.game.rules.players, .int .i64 D.game.rules.each, .bool D.game.rules.sameSuit, .bool D.game.rules.sameRank, .slice p15 D.game.rules.wild.length c15, .slice p16 D.game.rules.skip.length c16, .int .i64 D.game.rules.take, .int .i64 D.game.rules.limit, .slice p19 D.game.hands.length c19, .slice p20 D.game.stock.length c20, .slice p21 D.game.heap.length c21, .int .i64 D.game.turn, .int .i64 D.game.moves, .int .i64 D.game.passes, .slice p25 D.record.length c25, .slice p26 D.sheet.length c26] := by
  obtain ⟨p4, p5, p8, p10, p15, p16, p19, p20, p21, p25, p26, c4, c5, c8, c10, c15, c16, c19, c20, c21, c25, c26, S0, S8, S10, S11, S25, S26, e, h0, h8, h10, h11, h25, h26, s0, s8, s10, s11, s25, s26, d0_1, d0_2, d0_3, d0_4, d0_5, d1_2, d1_3, d1_4, d1_5, d2_3, d2_4, d2_5, d3_4, d3_5, d4_5⟩ := h
  exact ⟨p4, p5, p8, p10, p15, p16, p19, p20, p21, p25, p26, c4, c5, c8, c10, c15, c16, c19, c20, c21, c25, c26, e⟩

set_option maxRecDepth 100000 in
set_option maxHeartbeats 1000000 in
theorem szTable_any (v : Value) (D : MTable) (left : Int) (w : World) (h : RdTable w v D) (hl0 : 0 ≤ left) (hl1 : left ≤ 1048576) :
    Calls Tryd.prog 25 #[v, .int .i64 left] w fun e w' => (∃ r : Int, e = .returned (.int .i64 r) ∧ -1 ≤ r ∧ r ≤ 1048576 ∧ (0 ≤ r → D.Few)) ∧ Below w.heap.size w w' := by
  obtain ⟨p4, p5, p8, p10, p15, p16, p19, p20, p21, p25, p26, c4, c5, c8, c10, c15, c16, c19, c20, c21, c25, c26, b8, b10, b25, rfl, h0, h8, h10, h11, h25, h26⟩ := h
  obtain ⟨W0, hW0⟩ : ∃ W, W = w.alloc (.cells #[.int .i64 D.rules.players, .int .i64 D.rules.each, .bool D.rules.sameSuit, .bool D.rules.sameRank, .slice p4 D.rules.wild.length c4, .slice p5 D.rules.skip.length c5, .int .i64 D.rules.take, .int .i64 D.rules.limit, .slice p8 D.seals.length c8, .bool D.on, .slice p10 D.deck.length c10, .int .i64 D.game.rules.players, .int .i64 D.game.rules.each, .bool D.game.rules.sameSuit, .bool D.game.rules.sameRank, .slice p15 D.game.rules.wild.length c15, .slice p16 D.game.rules.skip.length c16, .int .i64 D.game.rules.take, .int .i64 D.game.rules.limit, .slice p19 D.game.hands.length c19, .slice p20 D.game.stock.length c20, .slice p21 D.game.heap.length c21, .int .i64 D.game.turn, .int .i64 D.game.moves, .int .i64 D.game.passes, .slice p25 D.record.length c25, .slice p26 D.sheet.length c26] 52) := ⟨_, rfl⟩
  have G1 : W0.heap[w.heap.size]? = some (.cells #[.int .i64 D.rules.players, .int .i64 D.rules.each, .bool D.rules.sameSuit, .bool D.rules.sameRank, .slice p4 D.rules.wild.length c4, .slice p5 D.rules.skip.length c5, .int .i64 D.rules.take, .int .i64 D.rules.limit, .slice p8 D.seals.length c8, .bool D.on, .slice p10 D.deck.length c10, .int .i64 D.game.rules.players, .int .i64 D.game.rules.each, .bool D.game.rules.sameSuit, .bool D.game.rules.sameRank, .slice p15 D.game.rules.wild.length c15, .slice p16 D.game.rules.skip.length c16, .int .i64 D.game.rules.take, .int .i64 D.game.rules.limit, .slice p19 D.game.hands.length c19, .slice p20 D.game.stock.length c20, .slice p21 D.game.heap.length c21, .int .i64 D.game.turn, .int .i64 D.game.moves, .int .i64 D.game.passes, .slice p25 D.record.length c25, .slice p26 D.sheet.length c26] 52 (0, 0)) := by rw [hW0]; exact heap_alloc_new _ _
  have B : Below w.heap.size w W0 := by rw [hW0]; exact (Below.refl _ _).alloc (Nat.le_refl _) _
  have l1 : w.heap.size < W0.heap.size := by rw [hW0]; simp
  have HW := Lib.hid hW0
  clear hW0
  go_enter Tryd.func25, Tryd.ntmps25
  go_wp2_with fail
  rw [← HW.out]
  refine (szRules_any _ _ left _ (h0.below B) (by omega) (by omega)).mono ?_
  rintro e w0 ⟨⟨r0, rfl, rn0, rm0, hr0⟩, bb0⟩
  replace B := B.trans (bb0.mono B.size)
  replace G1 := (bb0.block _ l1).trans G1
  replace l1 := Nat.lt_of_lt_of_le l1 bb0.size
  clear bb0
  by_cases hneg0 : r0 < 0
  · go_wp2_with fail
    go_ret
    exact ⟨⟨-1, rfl, by omega, by omega, fun h => by omega⟩, B⟩
  have g0 : D.rules.Few := hr0 (by omega)
  clear hr0
  have k8 := box_cell G1 8
  simp at k8
  go_wp2_with fail
  have hm8 : D.seals.length ≤ 9223372036854775807 := by have := h8.len; unfold maxLen at this; omega
  have HC8 := Lib.hid (fun wx => szIntS_any p8 D.seals.length c8 (r0) wx (by omega) (by omega) hm8)
  by_cases hx8 : (r0) < D.seals.length
  · rw [if_pos hx8] at HC8
    refine (HC8.out _).mono ?_
    rintro e _w ⟨rfl, rfl⟩
    go_wp2_with fail
    go_ret
    exact ⟨⟨-1, rfl, by omega, by omega, fun h => by omega⟩, B⟩
  rw [if_neg hx8] at HC8
  obtain ⟨r8, hr8⟩ : ∃ r, r = (r0) - (D.seals.length : Int) := ⟨_, rfl⟩
  rw [← hr8] at HC8
  have g8 : D.seals.length ≤ 1048576 := by omega
  have ra8 : 0 ≤ r8 := by omega
  have rb8 : r8 ≤ 1048576 := by omega
  clear hr8 hx8 hm8
  refine (HC8.out _).mono ?_
  rintro e _w ⟨rfl, rfl⟩
  clear HC8
  have k10 := box_cell G1 10
  simp at k10
  go_wp2_with fail
  have hm10 : D.deck.length ≤ 9223372036854775807 := by have := h10.len; unfold maxLen at this; omega
  have HC10 := Lib.hid (fun wx => szIntS_any p10 D.deck.length c10 (r8) wx (by omega) (by omega) hm10)
  by_cases hx10 : (r8) < D.deck.length
  · rw [if_pos hx10] at HC10
    refine (HC10.out _).mono ?_
    rintro e _w ⟨rfl, rfl⟩
    go_wp2_with fail
    go_ret
    exact ⟨⟨-1, rfl, by omega, by omega, fun h => by omega⟩, B⟩
  rw [if_neg hx10] at HC10
  obtain ⟨r10, hr10⟩ : ∃ r, r = (r8) - (D.deck.length : Int) := ⟨_, rfl⟩
  rw [← hr10] at HC10
  have g10 : D.deck.length ≤ 1048576 := by omega
  have ra10 : 0 ≤ r10 := by omega
  have rb10 : r10 ≤ 1048576 := by omega
  clear hr10 hx10 hm10
  refine (HC10.out _).mono ?_
  rintro e _w ⟨rfl, rfl⟩
  clear HC10
  have k11 := box_cell G1 11
  have k12 := box_cell G1 12
  have k13 := box_cell G1 13
  have k14 := box_cell G1 14
  have k15 := box_cell G1 15
  have k16 := box_cell G1 16
  have k17 := box_cell G1 17
  have k18 := box_cell G1 18
  have k19 := box_cell G1 19
  have k20 := box_cell G1 20
  have k21 := box_cell G1 21
  have k22 := box_cell G1 22
  have k23 := box_cell G1 23
  have k24 := box_cell G1 24
  simp at k11 k12 k13 k14 k15 k16 k17 k18 k19 k20 k21 k22 k23 k24
  go_wp2_with fail
  refine (szGame_any _ _ r10 _ (h11.below B) (by omega) (by omega)).mono ?_
  rintro e w11 ⟨⟨r11, rfl, rn11, rm11, hr11⟩, bb11⟩
  replace B := B.trans (bb11.mono B.size)
  replace G1 := (bb11.block _ l1).trans G1
  replace l1 := Nat.lt_of_lt_of_le l1 bb11.size
  clear bb11
  by_cases hneg11 : r11 < 0
  · go_wp2_with fail
    go_ret
    exact ⟨⟨-1, rfl, by omega, by omega, fun h => by omega⟩, B⟩
  have g11 : D.game.Few := hr11 (by omega)
  clear hr11
  have k25 := box_cell G1 25
  simp at k25
  go_wp2_with fail
  have hm25 : D.record.length ≤ 9223372036854775807 := by have := h25.len; unfold maxLen at this; omega
  have HC25 := Lib.hid (fun wx => szIntS_any p25 D.record.length c25 (r11) wx (by omega) (by omega) hm25)
  by_cases hx25 : (r11) < D.record.length
  · rw [if_pos hx25] at HC25
    refine (HC25.out _).mono ?_
    rintro e _w ⟨rfl, rfl⟩
    go_wp2_with fail
    go_ret
    exact ⟨⟨-1, rfl, by omega, by omega, fun h => by omega⟩, B⟩
  rw [if_neg hx25] at HC25
  obtain ⟨r25, hr25⟩ : ∃ r, r = (r11) - (D.record.length : Int) := ⟨_, rfl⟩
  rw [← hr25] at HC25
  have g25 : D.record.length ≤ 1048576 := by omega
  have ra25 : 0 ≤ r25 := by omega
  have rb25 : r25 ≤ 1048576 := by omega
  clear hr25 hx25 hm25
  refine (HC25.out _).mono ?_
  rintro e _w ⟨rfl, rfl⟩
  clear HC25
  have k26 := box_cell G1 26
  simp at k26
  go_wp2_with fail
  refine (szIntSS_any _ _ r25 _ (h26.below B) (by omega) (by omega)).mono ?_
  rintro e _w ⟨⟨r26, rfl, rn26, rm26, hr26⟩, rfl⟩
  by_cases hneg26 : r26 < 0
  · go_wp2_with fail
    go_ret
    exact ⟨⟨-1, rfl, by omega, by omega, fun h => by omega⟩, B⟩
  have g26 : D.sheet.length ≤ 1048576 := by have := hr26 (by omega); omega
  have gs26 : sumLen D.sheet ≤ 1048576 := by have := hr26 (by omega); omega
  clear hr26
  go_wp2_with fail
  go_ret
  exact ⟨⟨r26, rfl, by omega, by omega, fun _ => ⟨g0, g8, g10, g11, g25, g26, gs26⟩⟩, B⟩

set_option maxRecDepth 100000 in
set_option maxHeartbeats 1000000 in
theorem toTable_w (v : Value) (D : MTable) (w : World) (h : RdTable w v D) (hf : D.Few) :
    Calls Tryd.prog 27 #[v] w fun e w' => ∃ v', e = .returned v' ∧ WrTable (In w.heap.size w'.heap.size) w' v' D ∧ Below w.heap.size w w' := by
  obtain ⟨p4, p5, p8, p10, p15, p16, p19, p20, p21, p25, p26, c4, c5, c8, c10, c15, c16, c19, c20, c21, c25, c26, b8, b10, b25, rfl, h0, h8, h10, h11, h25, h26⟩ := h
  obtain ⟨f0, f8, f10, f11, f25, f26, fs26⟩ := hf
  have Q := Lib.hid (threeBoxes w (.cells #[.int .i64 D.rules.players, .int .i64 D.rules.each, .bool D.rules.sameSuit, .bool D.rules.sameRank, .slice p4 D.rules.wild.length c4, .slice p5 D.rules.skip.length c5, .int .i64 D.rules.take, .int .i64 D.rules.limit, .slice p8 D.seals.length c8, .bool D.on, .slice p10 D.deck.length c10, .int .i64 D.game.rules.players, .int .i64 D.game.rules.each, .bool D.game.rules.sameSuit, .bool D.game.rules.sameRank, .slice p15 D.game.rules.wild.length c15, .slice p16 D.game.rules.skip.length c16, .int .i64 D.game.rules.take, .int .i64 D.game.rules.limit, .slice p19 D.game.hands.length c19, .slice p20 D.game.stock.length c20, .slice p21 D.game.heap.length c21, .int .i64 D.game.turn, .int .i64 D.game.moves, .int .i64 D.game.passes, .slice p25 D.record.length c25, .slice p26 D.sheet.length c26] 52) (.cells #[.int .i64 0, .int .i64 0, .bool false, .bool false, .slice none 0 0, .slice none 0 0, .int .i64 0, .int .i64 0, .slice none 0 0, .bool false, .slice none 0 0, .int .i64 0, .int .i64 0, .bool false, .bool false, .slice none 0 0, .slice none 0 0, .int .i64 0, .int .i64 0, .slice none 0 0, .slice none 0 0, .slice none 0 0, .int .i64 0, .int .i64 0, .int .i64 0, .slice none 0 0, .slice none 0 0] 56) (.cells #[.int .i64 0, .int .i64 0, .bool false, .bool false, .slice none 0 0, .slice none 0 0, .int .i64 0, .int .i64 0, .slice none 0 0, .bool false, .slice none 0 0, .int .i64 0, .int .i64 0, .bool false, .bool false, .slice none 0 0, .slice none 0 0, .int .i64 0, .int .i64 0, .slice none 0 0, .slice none 0 0, .slice none 0 0, .int .i64 0, .int .i64 0, .int .i64 0, .slice none 0 0, .slice none 0 0] 56))
  obtain ⟨W0, hW0⟩ : ∃ W0, W0 = (((w.alloc (.cells #[.int .i64 D.rules.players, .int .i64 D.rules.each, .bool D.rules.sameSuit, .bool D.rules.sameRank, .slice p4 D.rules.wild.length c4, .slice p5 D.rules.skip.length c5, .int .i64 D.rules.take, .int .i64 D.rules.limit, .slice p8 D.seals.length c8, .bool D.on, .slice p10 D.deck.length c10, .int .i64 D.game.rules.players, .int .i64 D.game.rules.each, .bool D.game.rules.sameSuit, .bool D.game.rules.sameRank, .slice p15 D.game.rules.wild.length c15, .slice p16 D.game.rules.skip.length c16, .int .i64 D.game.rules.take, .int .i64 D.game.rules.limit, .slice p19 D.game.hands.length c19, .slice p20 D.game.stock.length c20, .slice p21 D.game.heap.length c21, .int .i64 D.game.turn, .int .i64 D.game.moves, .int .i64 D.game.passes, .slice p25 D.record.length c25, .slice p26 D.sheet.length c26] 52)).alloc (.cells #[.int .i64 0, .int .i64 0, .bool false, .bool false, .slice none 0 0, .slice none 0 0, .int .i64 0, .int .i64 0, .slice none 0 0, .bool false, .slice none 0 0, .int .i64 0, .int .i64 0, .bool false, .bool false, .slice none 0 0, .slice none 0 0, .int .i64 0, .int .i64 0, .slice none 0 0, .slice none 0 0, .slice none 0 0, .int .i64 0, .int .i64 0, .int .i64 0, .slice none 0 0, .slice none 0 0] 56)).alloc (.cells #[.int .i64 0, .int .i64 0, .bool false, .bool false, .slice none 0 0, .slice none 0 0, .int .i64 0, .int .i64 0, .slice none 0 0, .bool false, .slice none 0 0, .int .i64 0, .int .i64 0, .bool false, .bool false, .slice none 0 0, .slice none 0 0, .int .i64 0, .int .i64 0, .slice none 0 0, .slice none 0 0, .slice none 0 0, .int .i64 0, .int .i64 0, .int .i64 0, .slice none 0 0, .slice none 0 0] 56)) := ⟨_, rfl⟩
  have B : Below w.heap.size w W0 := by rw [hW0]; exact (((Below.refl _ _).alloc (Nat.le_refl _) _).alloc (by simp) _).alloc (by simp; omega) _
  obtain ⟨bl, hbl⟩ : ∃ b, b = w.heap.size + 1 + 1 := ⟨_, rfl⟩
  obtain ⟨br, hbr⟩ : ∃ b, b = w.heap.size + 1 := ⟨_, rfl⟩
  have hS0 : bl < W0.heap.size := by rw [hW0, hbl]; simp
  rw [← hW0] at Q
  have HW := Lib.hid hW0
  clear hW0
  obtain ⟨G1, G2, G3⟩ := Q.out
  clear Q
  have e3 : w.heap.size + 2 = bl := by omega
  rw [← hbr] at G2
  rw [e3] at G3
  have hd1 : w.heap.size < br := by omega
  have hd2 : br < bl := by omega
  have Hbl := Lib.hid hbl
  have Hbr := Lib.hid hbr
  clear hbl hbr e3
  go_enter Tryd.func27, Tryd.ntmps27
  go_wp2_with fail
  rw [← HW.out, ← Hbl.out, ← Hbr.out]
  refine (toRules_w _ _ W0 (h0.below B) f0).mono ?_
  rintro e w0 ⟨u0, rfl, x0, bb⟩
  obtain ⟨pu4, pu5, cu4, cu5, eu⟩ := x0.shape
  subst eu
  have l0 : bl < W0.heap.size := hS0
  have HQ0 : Hid (W0.heap.size ≤ w0.heap.size) := Lib.hid bb.size
  have HB0 : Hid (w.heap.size ≤ W0.heap.size) := Lib.hid B.size
  replace B := B.trans (bb.mono B.size)
  replace G1 := (bb.block _ (by omega)).trans G1
  replace G2 := (bb.block _ (by omega)).trans G2
  replace G3 := (bb.block _ (by omega)).trans G3
  replace hS0 := Nat.lt_of_lt_of_le hS0 bb.size
  clear bb
  have c1_8 := box_cell G1 8
  have c3_0 := box_cell G3 0
  have z3_0 := box_free G3 0
  have c3_1 := box_cell G3 1
  have z3_1 := box_free G3 1
  have c3_2 := box_cell G3 2
  have z3_2 := box_free G3 2
  have c3_3 := box_cell G3 3
  have z3_3 := box_free G3 3
  have c3_4 := box_cell G3 4
  have z3_4 := box_free G3 4
  have c3_5 := box_cell G3 5
  have z3_5 := box_free G3 5
  have c3_6 := box_cell G3 6
  have z3_6 := box_free G3 6
  have c3_7 := box_cell G3 7
  have z3_7 := box_free G3 7
  simp at c1_8 c3_0 c3_1 c3_2 c3_3 c3_4 c3_5 c3_6 c3_7
  go_wp2_with fail
  obtain ⟨X8, hX8⟩ : ∃ X, X = ((((((((w0.setCell ⟨bl, 0, none⟩ (.int .i64 D.rules.players)).setCell ⟨bl, 1, none⟩ (.int .i64 D.rules.each)).setCell ⟨bl, 2, none⟩ (.bool D.rules.sameSuit)).setCell ⟨bl, 3, none⟩ (.bool D.rules.sameRank)).setCell ⟨bl, 4, none⟩ (.slice pu4 D.rules.wild.length cu4)).setCell ⟨bl, 5, none⟩ (.slice pu5 D.rules.skip.length cu5)).setCell ⟨bl, 6, none⟩ (.int .i64 D.rules.take)).setCell ⟨bl, 7, none⟩ (.int .i64 D.rules.limit)) := ⟨_, rfl⟩
  have N3 := (box_set (box_set (box_set (box_set (box_set (box_set (box_set (box_set G3 0 (.int .i64 D.rules.players)) 1 (.int .i64 D.rules.each)) 2 (.bool D.rules.sameSuit)) 3 (.bool D.rules.sameRank)) 4 (.slice pu4 D.rules.wild.length cu4)) 5 (.slice pu5 D.rules.skip.length cu5)) 6 (.int .i64 D.rules.take)) 7 (.int .i64 D.rules.limit))
  rw [← hX8] at N3
  have K8 : ∀ i, i ≠ bl → X8.heap[i]? = w0.heap[i]? := fun i hi => by rw [hX8]; rw [Below.heap_setCell _ _ _ _ hi, Below.heap_setCell _ _ _ _ hi, Below.heap_setCell _ _ _ _ hi, Below.heap_setCell _ _ _ _ hi, Below.heap_setCell _ _ _ _ hi, Below.heap_setCell _ _ _ _ hi, Below.heap_setCell _ _ _ _ hi, Below.heap_setCell _ _ _ _ hi]
  have Z8 : X8.heap.size = w0.heap.size := by rw [hX8]; simp [World.setCell]
  have NB : Below w.heap.size w X8 := by rw [hX8]; exact ((((((((B.setCell (show w.heap.size ≤ bl by omega) (.int .i64 D.rules.players)).setCell (show w.heap.size ≤ bl by omega) (.int .i64 D.rules.each)).setCell (show w.heap.size ≤ bl by omega) (.bool D.rules.sameSuit)).setCell (show w.heap.size ≤ bl by omega) (.bool D.rules.sameRank)).setCell (show w.heap.size ≤ bl by omega) (.slice pu4 D.rules.wild.length cu4)).setCell (show w.heap.size ≤ bl by omega) (.slice pu5 D.rules.skip.length cu5)).setCell (show w.heap.size ≤ bl by omega) (.int .i64 D.rules.take)).setCell (show w.heap.size ≤ bl by omega) (.int .i64 D.rules.limit))
  have b0 : Below 0 w0 X8 := by rw [hX8]; exact (((((((((Below.refl 0 w0).setCell (Nat.zero_le _) (.int .i64 D.rules.players)).setCell (Nat.zero_le _) (.int .i64 D.rules.each)).setCell (Nat.zero_le _) (.bool D.rules.sameSuit)).setCell (Nat.zero_le _) (.bool D.rules.sameRank)).setCell (Nat.zero_le _) (.slice pu4 D.rules.wild.length cu4)).setCell (Nat.zero_le _) (.slice pu5 D.rules.skip.length cu5)).setCell (Nat.zero_le _) (.int .i64 D.rules.take)).setCell (Nat.zero_le _) (.int .i64 D.rules.limit))
  have tX : Touch (fun k => k = bl) w0 X8 := ⟨b0.os, b0.tape, b0.output, b0.size, fun k _ hn => K8 k hn⟩
  clear b0
  replace G1 := (K8 _ (by omega)).trans G1
  replace G2 := (K8 _ (by omega)).trans G2
  replace hS0 : bl < X8.heap.size := by rw [Z8]; exact hS0
  replace x0 := x0.touch tX (fun b h1 h2 => by have := h1.1; have := l0; omega)
  have HZ8 := Lib.hid Z8
  rw [← hX8]
  clear hX8 B G3 K8 Z8 tX c1_8 c3_0 z3_0 c3_1 z3_1 c3_2 z3_2 c3_3 z3_3 c3_4 z3_4 c3_5 z3_5 c3_6 z3_6 c3_7 z3_7
  have G3 := N3
  have B := NB
  clear N3 NB
  simp only [List.setIfInBounds_toArray, List.set_cons_zero, List.set_cons_succ] at G3
  refine (toIntS_any _ _ _ X8 (h8.below B) (by omega)).mono ?_
  rintro e w8 ⟨u8, rfl, y8, bb, -⟩
  have x8 := WrIn.of (lo := X8.heap.size) y8 (Nat.le_refl _)
  clear y8
  obtain ⟨pu8, cu8, eu⟩ := x8.shape
  subst eu
  have l8 : bl < X8.heap.size := hS0
  have HQ8 : Hid (X8.heap.size ≤ w8.heap.size) := Lib.hid bb.size
  have HB8 : Hid (w.heap.size ≤ X8.heap.size) := Lib.hid B.size
  replace B := B.trans (bb.mono B.size)
  replace G1 := (bb.block _ (by omega)).trans G1
  replace G2 := (bb.block _ (by omega)).trans G2
  replace G3 := (bb.block _ (by omega)).trans G3
  replace hS0 := Nat.lt_of_lt_of_le hS0 bb.size
  replace x0 := x0.touch (Below.touch (S := fun _ => False) bb) (fun _ _ hx => hx)
  clear bb
  have c1_9 := box_cell G1 9
  have c1_10 := box_cell G1 10
  have c3_8 := box_cell G3 8
  have z3_8 := box_free G3 8
  have c3_9 := box_cell G3 9
  have z3_9 := box_free G3 9
  simp at c1_9 c1_10 c3_8 c3_9
  go_wp2_with fail
  obtain ⟨X10, hX10⟩ : ∃ X, X = ((w8.setCell ⟨bl, 8, none⟩ (.slice pu8 D.seals.length cu8)).setCell ⟨bl, 9, none⟩ (.bool D.on)) := ⟨_, rfl⟩
  have N3 := (box_set (box_set G3 8 (.slice pu8 D.seals.length cu8)) 9 (.bool D.on))
  rw [← hX10] at N3
  have K10 : ∀ i, i ≠ bl → X10.heap[i]? = w8.heap[i]? := fun i hi => by rw [hX10]; rw [Below.heap_setCell _ _ _ _ hi, Below.heap_setCell _ _ _ _ hi]
  have Z10 : X10.heap.size = w8.heap.size := by rw [hX10]; simp [World.setCell]
  have NB : Below w.heap.size w X10 := by rw [hX10]; exact ((B.setCell (show w.heap.size ≤ bl by omega) (.slice pu8 D.seals.length cu8)).setCell (show w.heap.size ≤ bl by omega) (.bool D.on))
  have b0 : Below 0 w8 X10 := by rw [hX10]; exact (((Below.refl 0 w8).setCell (Nat.zero_le _) (.slice pu8 D.seals.length cu8)).setCell (Nat.zero_le _) (.bool D.on))
  have tX : Touch (fun k => k = bl) w8 X10 := ⟨b0.os, b0.tape, b0.output, b0.size, fun k _ hn => K10 k hn⟩
  clear b0
  replace G1 := (K10 _ (by omega)).trans G1
  replace G2 := (K10 _ (by omega)).trans G2
  replace hS0 : bl < X10.heap.size := by rw [Z10]; exact hS0
  replace x0 := x0.touch tX (fun b h1 h2 => by have := h1.1; have := l0; omega)
  replace x8 := x8.touch tX (fun b h1 h2 => by have := h1.1; have := l8; omega)
  have HZ10 := Lib.hid Z10
  rw [← hX10]
  clear hX10 B G3 K10 Z10 tX c1_9 c1_10 c3_8 z3_8 c3_9 z3_9
  have G3 := N3
  have B := NB
  clear N3 NB
  simp only [List.setIfInBounds_toArray, List.set_cons_zero, List.set_cons_succ] at G3
  refine (toIntS_any _ _ _ X10 (h10.below B) (by omega)).mono ?_
  rintro e w10 ⟨u10, rfl, y10, bb, -⟩
  have x10 := WrIn.of (lo := X10.heap.size) y10 (Nat.le_refl _)
  clear y10
  obtain ⟨pu10, cu10, eu⟩ := x10.shape
  subst eu
  have l10 : bl < X10.heap.size := hS0
  have HQ10 : Hid (X10.heap.size ≤ w10.heap.size) := Lib.hid bb.size
  have HB10 : Hid (w.heap.size ≤ X10.heap.size) := Lib.hid B.size
  replace B := B.trans (bb.mono B.size)
  replace G1 := (bb.block _ (by omega)).trans G1
  replace G2 := (bb.block _ (by omega)).trans G2
  replace G3 := (bb.block _ (by omega)).trans G3
  replace hS0 := Nat.lt_of_lt_of_le hS0 bb.size
  replace x0 := x0.touch (Below.touch (S := fun _ => False) bb) (fun _ _ hx => hx)
  replace x8 := x8.touch (Below.touch (S := fun _ => False) bb) (fun _ _ hx => hx)
  clear bb
  have c1_11 := box_cell G1 11
  have c1_12 := box_cell G1 12
  have c1_13 := box_cell G1 13
  have c1_14 := box_cell G1 14
  have c1_15 := box_cell G1 15
  have c1_16 := box_cell G1 16
  have c1_17 := box_cell G1 17
  have c1_18 := box_cell G1 18
  have c1_19 := box_cell G1 19
  have c1_20 := box_cell G1 20
  have c1_21 := box_cell G1 21
  have c1_22 := box_cell G1 22
  have c1_23 := box_cell G1 23
  have c1_24 := box_cell G1 24
  have c3_10 := box_cell G3 10
  have z3_10 := box_free G3 10
  simp at c1_11 c1_12 c1_13 c1_14 c1_15 c1_16 c1_17 c1_18 c1_19 c1_20 c1_21 c1_22 c1_23 c1_24 c3_10
  go_wp2_with fail
  obtain ⟨X11, hX11⟩ : ∃ X, X = (w10.setCell ⟨bl, 10, none⟩ (.slice pu10 D.deck.length cu10)) := ⟨_, rfl⟩
  have N3 := (box_set G3 10 (.slice pu10 D.deck.length cu10))
  rw [← hX11] at N3
  have K11 : ∀ i, i ≠ bl → X11.heap[i]? = w10.heap[i]? := fun i hi => by rw [hX11]; rw [Below.heap_setCell _ _ _ _ hi]
  have Z11 : X11.heap.size = w10.heap.size := by rw [hX11]; simp [World.setCell]
  have NB : Below w.heap.size w X11 := by rw [hX11]; exact (B.setCell (show w.heap.size ≤ bl by omega) (.slice pu10 D.deck.length cu10))
  have b0 : Below 0 w10 X11 := by rw [hX11]; exact ((Below.refl 0 w10).setCell (Nat.zero_le _) (.slice pu10 D.deck.length cu10))
  have tX : Touch (fun k => k = bl) w10 X11 := ⟨b0.os, b0.tape, b0.output, b0.size, fun k _ hn => K11 k hn⟩
  clear b0
  replace G1 := (K11 _ (by omega)).trans G1
  replace G2 := (K11 _ (by omega)).trans G2
  replace hS0 : bl < X11.heap.size := by rw [Z11]; exact hS0
  replace x0 := x0.touch tX (fun b h1 h2 => by have := h1.1; have := l0; omega)
  replace x8 := x8.touch tX (fun b h1 h2 => by have := h1.1; have := l8; omega)
  replace x10 := x10.touch tX (fun b h1 h2 => by have := h1.1; have := l10; omega)
  have HZ11 := Lib.hid Z11
  rw [← hX11]
  clear hX11 B G3 K11 Z11 tX c1_11 c1_12 c1_13 c1_14 c1_15 c1_16 c1_17 c1_18 c1_19 c1_20 c1_21 c1_22 c1_23 c1_24 c3_10 z3_10
  have G3 := N3
  have B := NB
  clear N3 NB
  simp only [List.setIfInBounds_toArray, List.set_cons_zero, List.set_cons_succ] at G3
  refine (toGame_w _ _ X11 (h11.below B) f11).mono ?_
  rintro e w11 ⟨u11, rfl, x11, bb⟩
  obtain ⟨pu15, pu16, pu19, pu20, pu21, cu15, cu16, cu19, cu20, cu21, eu⟩ := x11.shape
  subst eu
  have l11 : bl < X11.heap.size := hS0
  have HQ11 : Hid (X11.heap.size ≤ w11.heap.size) := Lib.hid bb.size
  have HB11 : Hid (w.heap.size ≤ X11.heap.size) := Lib.hid B.size
  replace B := B.trans (bb.mono B.size)
  replace G1 := (bb.block _ (by omega)).trans G1
  replace G2 := (bb.block _ (by omega)).trans G2
  replace G3 := (bb.block _ (by omega)).trans G3
  replace hS0 := Nat.lt_of_lt_of_le hS0 bb.size
  replace x0 := x0.touch (Below.touch (S := fun _ => False) bb) (fun _ _ hx => hx)
  replace x8 := x8.touch (Below.touch (S := fun _ => False) bb) (fun _ _ hx => hx)
  replace x10 := x10.touch (Below.touch (S := fun _ => False) bb) (fun _ _ hx => hx)
  clear bb
  have c1_25 := box_cell G1 25
  have c3_11 := box_cell G3 11
  have z3_11 := box_free G3 11
  have c3_12 := box_cell G3 12
  have z3_12 := box_free G3 12
  have c3_13 := box_cell G3 13
  have z3_13 := box_free G3 13
  have c3_14 := box_cell G3 14
  have z3_14 := box_free G3 14
  have c3_15 := box_cell G3 15
  have z3_15 := box_free G3 15
  have c3_16 := box_cell G3 16
  have z3_16 := box_free G3 16
  have c3_17 := box_cell G3 17
  have z3_17 := box_free G3 17
  have c3_18 := box_cell G3 18
  have z3_18 := box_free G3 18
  have c3_19 := box_cell G3 19
  have z3_19 := box_free G3 19
  have c3_20 := box_cell G3 20
  have z3_20 := box_free G3 20
  have c3_21 := box_cell G3 21
  have z3_21 := box_free G3 21
  have c3_22 := box_cell G3 22
  have z3_22 := box_free G3 22
  have c3_23 := box_cell G3 23
  have z3_23 := box_free G3 23
  have c3_24 := box_cell G3 24
  have z3_24 := box_free G3 24
  simp at c1_25 c3_11 c3_12 c3_13 c3_14 c3_15 c3_16 c3_17 c3_18 c3_19 c3_20 c3_21 c3_22 c3_23 c3_24
  go_wp2_with fail
  obtain ⟨X25, hX25⟩ : ∃ X, X = ((((((((((((((w11.setCell ⟨bl, 11, none⟩ (.int .i64 D.game.rules.players)).setCell ⟨bl, 12, none⟩ (.int .i64 D.game.rules.each)).setCell ⟨bl, 13, none⟩ (.bool D.game.rules.sameSuit)).setCell ⟨bl, 14, none⟩ (.bool D.game.rules.sameRank)).setCell ⟨bl, 15, none⟩ (.slice pu15 D.game.rules.wild.length cu15)).setCell ⟨bl, 16, none⟩ (.slice pu16 D.game.rules.skip.length cu16)).setCell ⟨bl, 17, none⟩ (.int .i64 D.game.rules.take)).setCell ⟨bl, 18, none⟩ (.int .i64 D.game.rules.limit)).setCell ⟨bl, 19, none⟩ (.slice pu19 D.game.hands.length cu19)).setCell ⟨bl, 20, none⟩ (.slice pu20 D.game.stock.length cu20)).setCell ⟨bl, 21, none⟩ (.slice pu21 D.game.heap.length cu21)).setCell ⟨bl, 22, none⟩ (.int .i64 D.game.turn)).setCell ⟨bl, 23, none⟩ (.int .i64 D.game.moves)).setCell ⟨bl, 24, none⟩ (.int .i64 D.game.passes)) := ⟨_, rfl⟩
  have N3 := (box_set (box_set (box_set (box_set (box_set (box_set (box_set (box_set (box_set (box_set (box_set (box_set (box_set (box_set G3 11 (.int .i64 D.game.rules.players)) 12 (.int .i64 D.game.rules.each)) 13 (.bool D.game.rules.sameSuit)) 14 (.bool D.game.rules.sameRank)) 15 (.slice pu15 D.game.rules.wild.length cu15)) 16 (.slice pu16 D.game.rules.skip.length cu16)) 17 (.int .i64 D.game.rules.take)) 18 (.int .i64 D.game.rules.limit)) 19 (.slice pu19 D.game.hands.length cu19)) 20 (.slice pu20 D.game.stock.length cu20)) 21 (.slice pu21 D.game.heap.length cu21)) 22 (.int .i64 D.game.turn)) 23 (.int .i64 D.game.moves)) 24 (.int .i64 D.game.passes))
  rw [← hX25] at N3
  have K25 : ∀ i, i ≠ bl → X25.heap[i]? = w11.heap[i]? := fun i hi => by rw [hX25]; rw [Below.heap_setCell _ _ _ _ hi, Below.heap_setCell _ _ _ _ hi, Below.heap_setCell _ _ _ _ hi, Below.heap_setCell _ _ _ _ hi, Below.heap_setCell _ _ _ _ hi, Below.heap_setCell _ _ _ _ hi, Below.heap_setCell _ _ _ _ hi, Below.heap_setCell _ _ _ _ hi, Below.heap_setCell _ _ _ _ hi, Below.heap_setCell _ _ _ _ hi, Below.heap_setCell _ _ _ _ hi, Below.heap_setCell _ _ _ _ hi, Below.heap_setCell _ _ _ _ hi, Below.heap_setCell _ _ _ _ hi]
  have Z25 : X25.heap.size = w11.heap.size := by rw [hX25]; simp [World.setCell]
  have NB : Below w.heap.size w X25 := by rw [hX25]; exact ((((((((((((((B.setCell (show w.heap.size ≤ bl by omega) (.int .i64 D.game.rules.players)).setCell (show w.heap.size ≤ bl by omega) (.int .i64 D.game.rules.each)).setCell (show w.heap.size ≤ bl by omega) (.bool D.game.rules.sameSuit)).setCell (show w.heap.size ≤ bl by omega) (.bool D.game.rules.sameRank)).setCell (show w.heap.size ≤ bl by omega) (.slice pu15 D.game.rules.wild.length cu15)).setCell (show w.heap.size ≤ bl by omega) (.slice pu16 D.game.rules.skip.length cu16)).setCell (show w.heap.size ≤ bl by omega) (.int .i64 D.game.rules.take)).setCell (show w.heap.size ≤ bl by omega) (.int .i64 D.game.rules.limit)).setCell (show w.heap.size ≤ bl by omega) (.slice pu19 D.game.hands.length cu19)).setCell (show w.heap.size ≤ bl by omega) (.slice pu20 D.game.stock.length cu20)).setCell (show w.heap.size ≤ bl by omega) (.slice pu21 D.game.heap.length cu21)).setCell (show w.heap.size ≤ bl by omega) (.int .i64 D.game.turn)).setCell (show w.heap.size ≤ bl by omega) (.int .i64 D.game.moves)).setCell (show w.heap.size ≤ bl by omega) (.int .i64 D.game.passes))
  have b0 : Below 0 w11 X25 := by rw [hX25]; exact (((((((((((((((Below.refl 0 w11).setCell (Nat.zero_le _) (.int .i64 D.game.rules.players)).setCell (Nat.zero_le _) (.int .i64 D.game.rules.each)).setCell (Nat.zero_le _) (.bool D.game.rules.sameSuit)).setCell (Nat.zero_le _) (.bool D.game.rules.sameRank)).setCell (Nat.zero_le _) (.slice pu15 D.game.rules.wild.length cu15)).setCell (Nat.zero_le _) (.slice pu16 D.game.rules.skip.length cu16)).setCell (Nat.zero_le _) (.int .i64 D.game.rules.take)).setCell (Nat.zero_le _) (.int .i64 D.game.rules.limit)).setCell (Nat.zero_le _) (.slice pu19 D.game.hands.length cu19)).setCell (Nat.zero_le _) (.slice pu20 D.game.stock.length cu20)).setCell (Nat.zero_le _) (.slice pu21 D.game.heap.length cu21)).setCell (Nat.zero_le _) (.int .i64 D.game.turn)).setCell (Nat.zero_le _) (.int .i64 D.game.moves)).setCell (Nat.zero_le _) (.int .i64 D.game.passes))
  have tX : Touch (fun k => k = bl) w11 X25 := ⟨b0.os, b0.tape, b0.output, b0.size, fun k _ hn => K25 k hn⟩
  clear b0
  replace G1 := (K25 _ (by omega)).trans G1
  replace G2 := (K25 _ (by omega)).trans G2
  replace hS0 : bl < X25.heap.size := by rw [Z25]; exact hS0
  replace x0 := x0.touch tX (fun b h1 h2 => by have := h1.1; have := l0; omega)
  replace x8 := x8.touch tX (fun b h1 h2 => by have := h1.1; have := l8; omega)
  replace x10 := x10.touch tX (fun b h1 h2 => by have := h1.1; have := l10; omega)
  replace x11 := x11.touch tX (fun b h1 h2 => by have := h1.1; have := l11; omega)
  have HZ25 := Lib.hid Z25
  rw [← hX25]
  clear hX25 B G3 K25 Z25 tX c1_25 c3_11 z3_11 c3_12 z3_12 c3_13 z3_13 c3_14 z3_14 c3_15 z3_15 c3_16 z3_16 c3_17 z3_17 c3_18 z3_18 c3_19 z3_19 c3_20 z3_20 c3_21 z3_21 c3_22 z3_22 c3_23 z3_23 c3_24 z3_24
  have G3 := N3
  have B := NB
  clear N3 NB
  simp only [List.setIfInBounds_toArray, List.set_cons_zero, List.set_cons_succ] at G3
  refine (toIntS_any _ _ _ X25 (h25.below B) (by omega)).mono ?_
  rintro e w25 ⟨u25, rfl, y25, bb, -⟩
  have x25 := WrIn.of (lo := X25.heap.size) y25 (Nat.le_refl _)
  clear y25
  obtain ⟨pu25, cu25, eu⟩ := x25.shape
  subst eu
  have l25 : bl < X25.heap.size := hS0
  have HQ25 : Hid (X25.heap.size ≤ w25.heap.size) := Lib.hid bb.size
  have HB25 : Hid (w.heap.size ≤ X25.heap.size) := Lib.hid B.size
  replace B := B.trans (bb.mono B.size)
  replace G1 := (bb.block _ (by omega)).trans G1
  replace G2 := (bb.block _ (by omega)).trans G2
  replace G3 := (bb.block _ (by omega)).trans G3
  replace hS0 := Nat.lt_of_lt_of_le hS0 bb.size
  replace x0 := x0.touch (Below.touch (S := fun _ => False) bb) (fun _ _ hx => hx)
  replace x8 := x8.touch (Below.touch (S := fun _ => False) bb) (fun _ _ hx => hx)
  replace x10 := x10.touch (Below.touch (S := fun _ => False) bb) (fun _ _ hx => hx)
  replace x11 := x11.touch (Below.touch (S := fun _ => False) bb) (fun _ _ hx => hx)
  clear bb
  have c1_26 := box_cell G1 26
  have c3_25 := box_cell G3 25
  have z3_25 := box_free G3 25
  simp at c1_26 c3_25
  go_wp2_with fail
  obtain ⟨X26, hX26⟩ : ∃ X, X = (w25.setCell ⟨bl, 25, none⟩ (.slice pu25 D.record.length cu25)) := ⟨_, rfl⟩
  have N3 := (box_set G3 25 (.slice pu25 D.record.length cu25))
  rw [← hX26] at N3
  have K26 : ∀ i, i ≠ bl → X26.heap[i]? = w25.heap[i]? := fun i hi => by rw [hX26]; rw [Below.heap_setCell _ _ _ _ hi]
  have Z26 : X26.heap.size = w25.heap.size := by rw [hX26]; simp [World.setCell]
  have NB : Below w.heap.size w X26 := by rw [hX26]; exact (B.setCell (show w.heap.size ≤ bl by omega) (.slice pu25 D.record.length cu25))
  have b0 : Below 0 w25 X26 := by rw [hX26]; exact ((Below.refl 0 w25).setCell (Nat.zero_le _) (.slice pu25 D.record.length cu25))
  have tX : Touch (fun k => k = bl) w25 X26 := ⟨b0.os, b0.tape, b0.output, b0.size, fun k _ hn => K26 k hn⟩
  clear b0
  replace G1 := (K26 _ (by omega)).trans G1
  replace G2 := (K26 _ (by omega)).trans G2
  replace hS0 : bl < X26.heap.size := by rw [Z26]; exact hS0
  replace x0 := x0.touch tX (fun b h1 h2 => by have := h1.1; have := l0; omega)
  replace x8 := x8.touch tX (fun b h1 h2 => by have := h1.1; have := l8; omega)
  replace x10 := x10.touch tX (fun b h1 h2 => by have := h1.1; have := l10; omega)
  replace x11 := x11.touch tX (fun b h1 h2 => by have := h1.1; have := l11; omega)
  replace x25 := x25.touch tX (fun b h1 h2 => by have := h1.1; have := l25; omega)
  have HZ26 := Lib.hid Z26
  rw [← hX26]
  clear hX26 B G3 K26 Z26 tX c1_26 c3_25 z3_25
  have G3 := N3
  have B := NB
  clear N3 NB
  simp only [List.setIfInBounds_toArray, List.set_cons_zero, List.set_cons_succ] at G3
  refine (toIntSS_any _ _ X26 (h26.below B) f26 fs26).mono ?_
  rintro e w26 ⟨u26, rfl, y26, bb⟩
  have x26 := y26.ss
  clear y26
  obtain ⟨pu26, cu26, eu⟩ := x26.shape
  subst eu
  have l26 : bl < X26.heap.size := hS0
  have HQ26 : Hid (X26.heap.size ≤ w26.heap.size) := Lib.hid bb.size
  have HB26 : Hid (w.heap.size ≤ X26.heap.size) := Lib.hid B.size
  replace B := B.trans (bb.mono B.size)
  replace G1 := (bb.block _ (by omega)).trans G1
  replace G2 := (bb.block _ (by omega)).trans G2
  replace G3 := (bb.block _ (by omega)).trans G3
  replace hS0 := Nat.lt_of_lt_of_le hS0 bb.size
  replace x0 := x0.touch (Below.touch (S := fun _ => False) bb) (fun _ _ hx => hx)
  replace x8 := x8.touch (Below.touch (S := fun _ => False) bb) (fun _ _ hx => hx)
  replace x10 := x10.touch (Below.touch (S := fun _ => False) bb) (fun _ _ hx => hx)
  replace x11 := x11.touch (Below.touch (S := fun _ => False) bb) (fun _ _ hx => hx)
  replace x25 := x25.touch (Below.touch (S := fun _ => False) bb) (fun _ _ hx => hx)
  clear bb
  have c3_26 := box_cell G3 26
  have z3_26 := box_free G3 26
  simp at c3_26
  have G3f := (box_set G3 26 (.slice pu26 D.sheet.length cu26))
  simp only [List.setIfInBounds_toArray, List.set_cons_zero, List.set_cons_succ] at G3f
  have G2a : (w26.setCell ⟨bl, 26, none⟩ (.slice pu26 D.sheet.length cu26)).heap[br]? = some (.cells #[.int .i64 0, .int .i64 0, .bool false, .bool false, .slice none 0 0, .slice none 0 0, .int .i64 0, .int .i64 0, .slice none 0 0, .bool false, .slice none 0 0, .int .i64 0, .int .i64 0, .bool false, .bool false, .slice none 0 0, .slice none 0 0, .int .i64 0, .int .i64 0, .slice none 0 0, .slice none 0 0, .slice none 0 0, .int .i64 0, .int .i64 0, .int .i64 0, .slice none 0 0, .slice none 0 0] 56 (0, 0)) := by
    rw [Below.heap_setCell _ _ _ _ (show br ≠ bl by omega)]; exact G2
  obtain ⟨X0, hX0⟩ : ∃ X, X = (w26.setCell ⟨bl, 26, none⟩ (.slice pu26 D.sheet.length cu26)) := ⟨_, rfl⟩
  have G3x : X0.heap[bl]? = some (.cells #[.int .i64 D.rules.players, .int .i64 D.rules.each, .bool D.rules.sameSuit, .bool D.rules.sameRank, .slice pu4 D.rules.wild.length cu4, .slice pu5 D.rules.skip.length cu5, .int .i64 D.rules.take, .int .i64 D.rules.limit, .slice pu8 D.seals.length cu8, .bool D.on, .slice pu10 D.deck.length cu10, .int .i64 D.game.rules.players, .int .i64 D.game.rules.each, .bool D.game.rules.sameSuit, .bool D.game.rules.sameRank, .slice pu15 D.game.rules.wild.length cu15, .slice pu16 D.game.rules.skip.length cu16, .int .i64 D.game.rules.take, .int .i64 D.game.rules.limit, .slice pu19 D.game.hands.length cu19, .slice pu20 D.game.stock.length cu20, .slice pu21 D.game.heap.length cu21, .int .i64 D.game.turn, .int .i64 D.game.moves, .int .i64 D.game.passes, .slice pu25 D.record.length cu25, .slice pu26 D.sheet.length cu26] 56 (0, 0)) := by rw [hX0]; exact G3f
  have G2x : X0.heap[br]? = some (.cells #[.int .i64 0, .int .i64 0, .bool false, .bool false, .slice none 0 0, .slice none 0 0, .int .i64 0, .int .i64 0, .slice none 0 0, .bool false, .slice none 0 0, .int .i64 0, .int .i64 0, .bool false, .bool false, .slice none 0 0, .slice none 0 0, .int .i64 0, .int .i64 0, .slice none 0 0, .slice none 0 0, .slice none 0 0, .int .i64 0, .int .i64 0, .int .i64 0, .slice none 0 0, .slice none 0 0] 56 (0, 0)) := by rw [hX0]; exact G2a
  have HX0 := Lib.hid hX0
  clear G3f G2a hX0
  go_upto_region 9 with fail
  rw [← HX0.out]
  clear c3_26 z3_26
  refine wp_region_lit ?_
  refine wpList_load_row rfl 56 _ rfl bl rfl 56 _ _ _ G3x Tryd.underlying56 rfl (by kernel_rfl) ?_
  refine wpList_store_row rfl 56 _ _ rfl br #[.int .i64 D.rules.players, .int .i64 D.rules.each, .bool D.rules.sameSuit, .bool D.rules.sameRank, .slice pu4 D.rules.wild.length cu4, .slice pu5 D.rules.skip.length cu5, .int .i64 D.rules.take, .int .i64 D.rules.limit, .slice pu8 D.seals.length cu8, .bool D.on, .slice pu10 D.deck.length cu10, .int .i64 D.game.rules.players, .int .i64 D.game.rules.each, .bool D.game.rules.sameSuit, .bool D.game.rules.sameRank, .slice pu15 D.game.rules.wild.length cu15, .slice pu16 D.game.rules.skip.length cu16, .int .i64 D.game.rules.take, .int .i64 D.game.rules.limit, .slice pu19 D.game.hands.length cu19, .slice pu20 D.game.stock.length cu20, .slice pu21 D.game.heap.length cu21, .int .i64 D.game.turn, .int .i64 D.game.moves, .int .i64 D.game.passes, .slice pu25 D.record.length cu25, .slice pu26 D.sheet.length cu26] rfl rfl 56 _ G2x (by kernel_rfl) rfl (by simp [Value.oneCell']) ?_
  go_wp2_with fail
  obtain ⟨X, hX⟩ : ∃ X, X = (X0.setRow br #[.int .i64 D.rules.players, .int .i64 D.rules.each, .bool D.rules.sameSuit, .bool D.rules.sameRank, .slice pu4 D.rules.wild.length cu4, .slice pu5 D.rules.skip.length cu5, .int .i64 D.rules.take, .int .i64 D.rules.limit, .slice pu8 D.seals.length cu8, .bool D.on, .slice pu10 D.deck.length cu10, .int .i64 D.game.rules.players, .int .i64 D.game.rules.each, .bool D.game.rules.sameSuit, .bool D.game.rules.sameRank, .slice pu15 D.game.rules.wild.length cu15, .slice pu16 D.game.rules.skip.length cu16, .int .i64 D.game.rules.take, .int .i64 D.game.rules.limit, .slice pu19 D.game.hands.length cu19, .slice pu20 D.game.stock.length cu20, .slice pu21 D.game.heap.length cu21, .int .i64 D.game.turn, .int .i64 D.game.moves, .int .i64 D.game.passes, .slice pu25 D.record.length cu25, .slice pu26 D.sheet.length cu26]) := ⟨_, rfl⟩
  have N2 := setRow_heap X0 br _ #[.int .i64 D.rules.players, .int .i64 D.rules.each, .bool D.rules.sameSuit, .bool D.rules.sameRank, .slice pu4 D.rules.wild.length cu4, .slice pu5 D.rules.skip.length cu5, .int .i64 D.rules.take, .int .i64 D.rules.limit, .slice pu8 D.seals.length cu8, .bool D.on, .slice pu10 D.deck.length cu10, .int .i64 D.game.rules.players, .int .i64 D.game.rules.each, .bool D.game.rules.sameSuit, .bool D.game.rules.sameRank, .slice pu15 D.game.rules.wild.length cu15, .slice pu16 D.game.rules.skip.length cu16, .int .i64 D.game.rules.take, .int .i64 D.game.rules.limit, .slice pu19 D.game.hands.length cu19, .slice pu20 D.game.stock.length cu20, .slice pu21 D.game.heap.length cu21, .int .i64 D.game.turn, .int .i64 D.game.moves, .int .i64 D.game.passes, .slice pu25 D.record.length cu25, .slice pu26 D.sheet.length cu26] _ _ G2x
  rw [← hX] at N2
  have K : ∀ i, i ≠ bl → i ≠ br → X.heap[i]? = w26.heap[i]? := fun i hi hr => by rw [hX, HX0.out]; rw [setRow_other _ _ _ _ hr, Below.heap_setCell _ _ _ _ hi]
  have Z : X.heap.size = w26.heap.size := by rw [hX, HX0.out]; simp [World.setCell]
  have NB : Below w.heap.size w X := by rw [hX, HX0.out]; exact below_setRow (B.setCell (show w.heap.size ≤ bl by omega) (.slice pu26 D.sheet.length cu26)) (by omega) _
  have b0 : Below 0 w26 X := by rw [hX, HX0.out]; exact below_setRow ((Below.refl 0 w26).setCell (Nat.zero_le _) (.slice pu26 D.sheet.length cu26)) (Nat.zero_le _) _
  have tX : Touch (fun k => k = bl ∨ k = br) w26 X := ⟨b0.os, b0.tape, b0.output, b0.size, fun k _ hn => K k (fun e => hn (.inl e)) (fun e => hn (.inr e))⟩
  clear b0
  rw [← hX]
  replace x0 := x0.touch tX (fun b h1 h2 => by have := h1.1; have := l0; omega)
  replace x8 := x8.touch tX (fun b h1 h2 => by have := h1.1; have := l8; omega)
  replace x10 := x10.touch tX (fun b h1 h2 => by have := h1.1; have := l10; omega)
  replace x11 := x11.touch tX (fun b h1 h2 => by have := h1.1; have := l11; omega)
  replace x25 := x25.touch tX (fun b h1 h2 => by have := h1.1; have := l25; omega)
  replace x26 := x26.touch tX (fun b h1 h2 => by have := h1.1; have := l26; omega)
  have q0 := HQ0.out
  have qb0 := HB0.out
  have q8 := HQ8.out
  have qb8 := HB8.out
  have q10 := HQ10.out
  have qb10 := HB10.out
  have q11 := HQ11.out
  have qb11 := HB11.out
  have q25 := HQ25.out
  have qb25 := HB25.out
  have q26 := HQ26.out
  have qb26 := HB26.out
  have qz8 := HZ8.out
  have qz10 := HZ10.out
  have qz11 := HZ11.out
  have qz25 := HZ25.out
  have qz26 := HZ26.out
  have HWr : WrTable (In w.heap.size X.heap.size) X (.agg #[.int .i64 D.rules.players, .int .i64 D.rules.each, .bool D.rules.sameSuit, .bool D.rules.sameRank, .slice pu4 D.rules.wild.length cu4, .slice pu5 D.rules.skip.length cu5, .int .i64 D.rules.take, .int .i64 D.rules.limit, .slice pu8 D.seals.length cu8, .bool D.on, .slice pu10 D.deck.length cu10, .int .i64 D.game.rules.players, .int .i64 D.game.rules.each, .bool D.game.rules.sameSuit, .bool D.game.rules.sameRank, .slice pu15 D.game.rules.wild.length cu15, .slice pu16 D.game.rules.skip.length cu16, .int .i64 D.game.rules.take, .int .i64 D.game.rules.limit, .slice pu19 D.game.hands.length cu19, .slice pu20 D.game.stock.length cu20, .slice pu21 D.game.heap.length cu21, .int .i64 D.game.turn, .int .i64 D.game.moves, .int .i64 D.game.passes, .slice pu25 D.record.length cu25, .slice pu26 D.sheet.length cu26]) D := ⟨pu4, pu5, pu8, pu10, pu15, pu16, pu19, pu20, pu21, pu25, pu26, cu4, cu5, cu8, cu10, cu15, cu16, cu19, cu20, cu21, cu25, cu26, (In W0.heap.size w0.heap.size), (In X8.heap.size w8.heap.size), (In X10.heap.size w10.heap.size), (In X11.heap.size w11.heap.size), (In X25.heap.size w25.heap.size), (In X26.heap.size w26.heap.size), rfl, x0, x8, x10, x11, x25, x26, (fun b hb => by obtain ⟨h1, h2⟩ := hb; constructor <;> omega), (fun b hb => by obtain ⟨h1, h2⟩ := hb; constructor <;> omega), (fun b hb => by obtain ⟨h1, h2⟩ := hb; constructor <;> omega), (fun b hb => by obtain ⟨h1, h2⟩ := hb; constructor <;> omega), (fun b hb => by obtain ⟨h1, h2⟩ := hb; constructor <;> omega), (fun b hb => by obtain ⟨h1, h2⟩ := hb; constructor <;> omega), (fun b h1 h2 => by obtain ⟨a1, a2⟩ := h1; obtain ⟨a3, a4⟩ := h2; omega), (fun b h1 h2 => by obtain ⟨a1, a2⟩ := h1; obtain ⟨a3, a4⟩ := h2; omega), (fun b h1 h2 => by obtain ⟨a1, a2⟩ := h1; obtain ⟨a3, a4⟩ := h2; omega), (fun b h1 h2 => by obtain ⟨a1, a2⟩ := h1; obtain ⟨a3, a4⟩ := h2; omega), (fun b h1 h2 => by obtain ⟨a1, a2⟩ := h1; obtain ⟨a3, a4⟩ := h2; omega), (fun b h1 h2 => by obtain ⟨a1, a2⟩ := h1; obtain ⟨a3, a4⟩ := h2; omega), (fun b h1 h2 => by obtain ⟨a1, a2⟩ := h1; obtain ⟨a3, a4⟩ := h2; omega), (fun b h1 h2 => by obtain ⟨a1, a2⟩ := h1; obtain ⟨a3, a4⟩ := h2; omega), (fun b h1 h2 => by obtain ⟨a1, a2⟩ := h1; obtain ⟨a3, a4⟩ := h2; omega), (fun b h1 h2 => by obtain ⟨a1, a2⟩ := h1; obtain ⟨a3, a4⟩ := h2; omega), (fun b h1 h2 => by obtain ⟨a1, a2⟩ := h1; obtain ⟨a3, a4⟩ := h2; omega), (fun b h1 h2 => by obtain ⟨a1, a2⟩ := h1; obtain ⟨a3, a4⟩ := h2; omega), (fun b h1 h2 => by obtain ⟨a1, a2⟩ := h1; obtain ⟨a3, a4⟩ := h2; omega), (fun b h1 h2 => by obtain ⟨a1, a2⟩ := h1; obtain ⟨a3, a4⟩ := h2; omega), (fun b h1 h2 => by obtain ⟨a1, a2⟩ := h1; obtain ⟨a3, a4⟩ := h2; omega)⟩
  (try simp only [Exit.inBlock, Exit.then]); refine bodyPost_ret (results_cell_row rfl _ _ br _ _ _ _ rfl N2 Tryd.underlying56 rfl (by kernel_rfl)) rfl ?_
  exact ⟨_, rfl, HWr, NB⟩
theorem toTable_any (v : Value) (D : MTable) (w : World) (h : RdTable w v D) (hf : D.Few) :
    Calls Tryd.prog 27 #[v] w fun e w' => ∃ v', e = .returned v' ∧ RdTable w' v' D ∧ Below w.heap.size w w' :=
  (toTable_w v D w h hf).mono (by rintro e w' ⟨v', rfl, hw, hb⟩; exact ⟨v', rfl, hw.rd, hb⟩)

set_option maxRecDepth 100000 in
set_option maxHeartbeats 1000000 in
theorem eqTable_t (va vb : Value) (D : MTable) (w : World) (ha : RdTable w va D) (hb : RdTable w vb D) (hf : D.Few) :
    Calls Tryd.prog 29 #[va, vb] w fun e w' => e = .returned (.bool true) ∧ Below w.heap.size w w' := by
  obtain ⟨p4, p5, p8, p10, p15, p16, p19, p20, p21, p25, p26, c4, c5, c8, c10, c15, c16, c19, c20, c21, c25, c26, b8, b10, b25, rfl, h0, h8, h10, h11, h25, h26⟩ := ha
  obtain ⟨pu4, pu5, pu8, pu10, pu15, pu16, pu19, pu20, pu21, pu25, pu26, cu4, cu5, cu8, cu10, cu15, cu16, cu19, cu20, cu21, cu25, cu26, bu8, bu10, bu25, rfl, y0, y8, y10, y11, y25, y26⟩ := hb
  obtain ⟨f0, f8, f10, f11, f25, f26, fs26⟩ := hf
  obtain ⟨W0, hW0⟩ : ∃ W0, W0 = ((w.alloc (.cells #[.int .i64 D.rules.players, .int .i64 D.rules.each, .bool D.rules.sameSuit, .bool D.rules.sameRank, .slice p4 D.rules.wild.length c4, .slice p5 D.rules.skip.length c5, .int .i64 D.rules.take, .int .i64 D.rules.limit, .slice p8 D.seals.length c8, .bool D.on, .slice p10 D.deck.length c10, .int .i64 D.game.rules.players, .int .i64 D.game.rules.each, .bool D.game.rules.sameSuit, .bool D.game.rules.sameRank, .slice p15 D.game.rules.wild.length c15, .slice p16 D.game.rules.skip.length c16, .int .i64 D.game.rules.take, .int .i64 D.game.rules.limit, .slice p19 D.game.hands.length c19, .slice p20 D.game.stock.length c20, .slice p21 D.game.heap.length c21, .int .i64 D.game.turn, .int .i64 D.game.moves, .int .i64 D.game.passes, .slice p25 D.record.length c25, .slice p26 D.sheet.length c26] 56)).alloc (.cells #[.int .i64 D.rules.players, .int .i64 D.rules.each, .bool D.rules.sameSuit, .bool D.rules.sameRank, .slice pu4 D.rules.wild.length cu4, .slice pu5 D.rules.skip.length cu5, .int .i64 D.rules.take, .int .i64 D.rules.limit, .slice pu8 D.seals.length cu8, .bool D.on, .slice pu10 D.deck.length cu10, .int .i64 D.game.rules.players, .int .i64 D.game.rules.each, .bool D.game.rules.sameSuit, .bool D.game.rules.sameRank, .slice pu15 D.game.rules.wild.length cu15, .slice pu16 D.game.rules.skip.length cu16, .int .i64 D.game.rules.take, .int .i64 D.game.rules.limit, .slice pu19 D.game.hands.length cu19, .slice pu20 D.game.stock.length cu20, .slice pu21 D.game.heap.length cu21, .int .i64 D.game.turn, .int .i64 D.game.moves, .int .i64 D.game.passes, .slice pu25 D.record.length cu25, .slice pu26 D.sheet.length cu26] 56)) := ⟨_, rfl⟩
  have B : Below w.heap.size w W0 := by rw [hW0]; exact ((Below.refl _ _).alloc (Nat.le_refl _) _).alloc (by simp) _
  have G1 : W0.heap[w.heap.size]? = some (.cells #[.int .i64 D.rules.players, .int .i64 D.rules.each, .bool D.rules.sameSuit, .bool D.rules.sameRank, .slice p4 D.rules.wild.length c4, .slice p5 D.rules.skip.length c5, .int .i64 D.rules.take, .int .i64 D.rules.limit, .slice p8 D.seals.length c8, .bool D.on, .slice p10 D.deck.length c10, .int .i64 D.game.rules.players, .int .i64 D.game.rules.each, .bool D.game.rules.sameSuit, .bool D.game.rules.sameRank, .slice p15 D.game.rules.wild.length c15, .slice p16 D.game.rules.skip.length c16, .int .i64 D.game.rules.take, .int .i64 D.game.rules.limit, .slice p19 D.game.hands.length c19, .slice p20 D.game.stock.length c20, .slice p21 D.game.heap.length c21, .int .i64 D.game.turn, .int .i64 D.game.moves, .int .i64 D.game.passes, .slice p25 D.record.length c25, .slice p26 D.sheet.length c26] 56 (0, 0)) := by
    rw [hW0]; show ((w.heap.push _).push _)[_]? = _
    rw [Array.getElem?_push, if_neg (by simp), Array.getElem?_push, if_pos rfl]
  have G2 : W0.heap[w.heap.size + 1]? = some (.cells #[.int .i64 D.rules.players, .int .i64 D.rules.each, .bool D.rules.sameSuit, .bool D.rules.sameRank, .slice pu4 D.rules.wild.length cu4, .slice pu5 D.rules.skip.length cu5, .int .i64 D.rules.take, .int .i64 D.rules.limit, .slice pu8 D.seals.length cu8, .bool D.on, .slice pu10 D.deck.length cu10, .int .i64 D.game.rules.players, .int .i64 D.game.rules.each, .bool D.game.rules.sameSuit, .bool D.game.rules.sameRank, .slice pu15 D.game.rules.wild.length cu15, .slice pu16 D.game.rules.skip.length cu16, .int .i64 D.game.rules.take, .int .i64 D.game.rules.limit, .slice pu19 D.game.hands.length cu19, .slice pu20 D.game.stock.length cu20, .slice pu21 D.game.heap.length cu21, .int .i64 D.game.turn, .int .i64 D.game.moves, .int .i64 D.game.passes, .slice pu25 D.record.length cu25, .slice pu26 D.sheet.length cu26] 56 (0, 0)) := by
    rw [hW0]; show ((w.heap.push _).push _)[_]? = _
    rw [Array.getElem?_push, if_pos (by simp)]
  have hS0 : w.heap.size + 2 ≤ W0.heap.size := by rw [hW0]; simp
  have HW := Lib.hid hW0
  clear hW0
  go_enter Tryd.func29, Tryd.ntmps29
  go_wp2_with fail
  rw [← HW.out]
  refine (eqRules_t _ _ _ W0 (h0.below B) (y0.below B) f0).mono ?_
  rintro e w0 ⟨rfl, bb⟩
  replace B := B.trans (bb.mono B.size)
  replace G1 := (bb.block _ (by omega)).trans G1
  replace G2 := (bb.block _ (by omega)).trans G2
  replace hS0 := Nat.le_trans hS0 bb.size
  clear bb
  have c1_8 := box_cell G1 8
  have c2_8 := box_cell G2 8
  simp at c1_8 c2_8
  go_wp2_with fail
  refine (eqIntS_t _ _ _ _ _ w0 (h8.below B) (y8.below B) (by omega)).mono ?_
  rintro e w8 ⟨rfl, bb⟩
  replace B := B.trans (bb.mono B.size)
  replace G1 := (bb.block _ (by omega)).trans G1
  replace G2 := (bb.block _ (by omega)).trans G2
  replace hS0 := Nat.le_trans hS0 bb.size
  clear bb c1_8 c2_8
  have c1_9 := box_cell G1 9
  have c2_9 := box_cell G2 9
  have c1_10 := box_cell G1 10
  have c2_10 := box_cell G2 10
  simp at c1_9 c2_9 c1_10 c2_10
  go_wp2_with fail
  refine (eqIntS_t _ _ _ _ _ w8 (h10.below B) (y10.below B) (by omega)).mono ?_
  rintro e w10 ⟨rfl, bb⟩
  replace B := B.trans (bb.mono B.size)
  replace G1 := (bb.block _ (by omega)).trans G1
  replace G2 := (bb.block _ (by omega)).trans G2
  replace hS0 := Nat.le_trans hS0 bb.size
  clear bb c1_9 c2_9 c1_10 c2_10
  have c1_11 := box_cell G1 11
  have c2_11 := box_cell G2 11
  have c1_12 := box_cell G1 12
  have c2_12 := box_cell G2 12
  have c1_13 := box_cell G1 13
  have c2_13 := box_cell G2 13
  have c1_14 := box_cell G1 14
  have c2_14 := box_cell G2 14
  have c1_15 := box_cell G1 15
  have c2_15 := box_cell G2 15
  have c1_16 := box_cell G1 16
  have c2_16 := box_cell G2 16
  have c1_17 := box_cell G1 17
  have c2_17 := box_cell G2 17
  have c1_18 := box_cell G1 18
  have c2_18 := box_cell G2 18
  have c1_19 := box_cell G1 19
  have c2_19 := box_cell G2 19
  have c1_20 := box_cell G1 20
  have c2_20 := box_cell G2 20
  have c1_21 := box_cell G1 21
  have c2_21 := box_cell G2 21
  have c1_22 := box_cell G1 22
  have c2_22 := box_cell G2 22
  have c1_23 := box_cell G1 23
  have c2_23 := box_cell G2 23
  have c1_24 := box_cell G1 24
  have c2_24 := box_cell G2 24
  simp at c1_11 c2_11 c1_12 c2_12 c1_13 c2_13 c1_14 c2_14 c1_15 c2_15 c1_16 c2_16 c1_17 c2_17 c1_18 c2_18 c1_19 c2_19 c1_20 c2_20 c1_21 c2_21 c1_22 c2_22 c1_23 c2_23 c1_24 c2_24
  go_wp2_with fail
  refine (eqGame_t _ _ _ w10 (h11.below B) (y11.below B) f11).mono ?_
  rintro e w11 ⟨rfl, bb⟩
  replace B := B.trans (bb.mono B.size)
  replace G1 := (bb.block _ (by omega)).trans G1
  replace G2 := (bb.block _ (by omega)).trans G2
  replace hS0 := Nat.le_trans hS0 bb.size
  clear bb c1_11 c2_11 c1_12 c2_12 c1_13 c2_13 c1_14 c2_14 c1_15 c2_15 c1_16 c2_16 c1_17 c2_17 c1_18 c2_18 c1_19 c2_19 c1_20 c2_20 c1_21 c2_21 c1_22 c2_22 c1_23 c2_23 c1_24 c2_24
  have c1_25 := box_cell G1 25
  have c2_25 := box_cell G2 25
  simp at c1_25 c2_25
  go_wp2_with fail
  refine (eqIntS_t _ _ _ _ _ w11 (h25.below B) (y25.below B) (by omega)).mono ?_
  rintro e w25 ⟨rfl, bb⟩
  replace B := B.trans (bb.mono B.size)
  replace G1 := (bb.block _ (by omega)).trans G1
  replace G2 := (bb.block _ (by omega)).trans G2
  replace hS0 := Nat.le_trans hS0 bb.size
  clear bb c1_25 c2_25
  have c1_26 := box_cell G1 26
  have c2_26 := box_cell G2 26
  simp at c1_26 c2_26
  go_wp2_with fail
  refine (eqIntSS_t _ _ _ w25 (h26.below B) (y26.below B) f26 fs26).mono ?_
  rintro e w26 ⟨rfl, bb⟩
  replace B := B.trans (bb.mono B.size)
  replace G1 := (bb.block _ (by omega)).trans G1
  replace G2 := (bb.block _ (by omega)).trans G2
  replace hS0 := Nat.le_trans hS0 bb.size
  clear bb c1_26 c2_26
  go_wp2_with fail
  go_ret
  exact ⟨rfl, B⟩
def MTable.total (D : MTable) : Nat := D.rules.total + D.seals.length + D.deck.length + D.game.total + D.record.length + sumLen D.sheet
def MTable.marked (D : MTable) (k : Int) : MTable := { D with rules := D.rules.marked (k), seals := marksI (k + (D.rules.total : Nat)) D.seals.length, deck := marksI (k + (D.rules.total : Nat) + (D.seals.length : Nat)) D.deck.length, game := D.game.marked (k + (D.rules.total : Nat) + (D.seals.length : Nat) + (D.deck.length : Nat)), record := marksI (k + (D.rules.total : Nat) + (D.seals.length : Nat) + (D.deck.length : Nat) + (D.game.total : Nat)) D.record.length, sheet := marksII (k + (D.rules.total : Nat) + (D.seals.length : Nat) + (D.deck.length : Nat) + (D.game.total : Nat) + (D.record.length : Nat)) D.sheet }
theorem MTable.total_le {D : MTable} (hf : D.Few) : D.total ≤ 11534336 := by
  obtain ⟨f0, f8, f10, f11, f25, f26, fs26⟩ := hf
  have t0 := MRules.total_le f0
  have t11 := MGame.total_le f11
  unfold MTable.total
  omega

end Go.Proofs.YtmfammgdcdlceaaDoor
