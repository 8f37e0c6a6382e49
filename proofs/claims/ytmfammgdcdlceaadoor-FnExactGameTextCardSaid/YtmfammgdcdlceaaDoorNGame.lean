/-
  The struct Game: what can be read of it, what may be written and in which blocks; the laws' helpers over it.
-/
import Derived.Test.YtmfammgdcdlceaaDoorFr
import Derived.Test.YtmfammgdcdlceaaDoorSetR
import Derived.Test.YtmfammgdcdlceaaDoorNRules
import Derived.Deep.Cut
namespace Go.Proofs.YtmfammgdcdlceaaDoor
open Go.RowKit
set_option linter.unusedVariables false
set_option linter.unusedSimpArgs false

structure MGame where
  rules : MRules
  hands : List (List Int)
  stock : List Int
  heap : List Int
  turn : Int
  moves : Int
  passes : Int
/-- The value v is such a struct, with the numbers D. -/
def RdGame (w : World) (v : Value) (D : MGame) : Prop :=
  ∃ (p4 p5 p8 p9 p10 : Option Addr) (c4 c5 c8 c9 c10 b9 b10 : Nat), v = .agg #[.int .i64 D.rules.players, .int .i64 D.rules.each, .bool D.rules.sameSuit, .bool D.rules.sameRank, .slice p4 D.rules.wild.length c4, .slice p5 D.rules.skip.length c5, .int .i64 D.rules.take, .int .i64 D.rules.limit, .slice p8 D.hands.length c8, .slice p9 D.stock.length c9, .slice p10 D.heap.length c10, .int .i64 D.turn, .int .i64 D.moves, .int .i64 D.passes] ∧ RdRules w (.agg #[.int .i64 D.rules.players, .int .i64 D.rules.each, .bool D.rules.sameSuit, .bool D.rules.sameRank, .slice p4 D.rules.wild.length c4, .slice p5 D.rules.skip.length c5, .int .i64 D.rules.take, .int .i64 D.rules.limit]) D.rules ∧ RdRows .i64 w (.slice p8 D.hands.length c8) D.hands ∧ RdAt .i64 w (.slice p9 D.stock.length c9) D.stock b9 ∧ RdAt .i64 w (.slice p10 D.heap.length c10) D.heap b10 ∧ (Lit.int .i64 D.turn).wf = true ∧ (Lit.int .i64 D.moves).wf = true ∧ (Lit.int .i64 D.passes).wf = true
theorem RdGame.below {w w' : World} {v : Value} {D : MGame} (h : RdGame w v D) (hb : Below w.heap.size w w') : RdGame w' v D := by
  obtain ⟨p4, p5, p8, p9, p10, c4, c5, c8, c9, c10, b9, b10, e, h0, h8, h9, h10, wf0, wf1, wf2⟩ := h
  exact ⟨p4, p5, p8, p9, p10, c4, c5, c8, c9, c10, b9, b10, e, h0.below hb, h8.below hb, h9.below hb, h10.below hb, wf0, wf1, wf2⟩
def MGame.Few (D : MGame) : Prop := D.rules.Few ∧ D.hands.length ≤ 1048576 ∧ sumLen D.hands ≤ 1048576 ∧ D.stock.length ≤ 1048576 ∧ D.heap.length ≤ 1048576
theorem RdGame.shape {w : World} {v : Value} {D : MGame} (h : RdGame w v D) : ∃ (p4 p5 p8 p9 p10 : Option Addr) (c4 c5 c8 c9 c10 : Nat), v = .agg #[.int .i64 D.rules.players, .int .i64 D.rules.each, .bool D.rules.sameSuit, .bool D.rules.sameRank, .slice p4 D.rules.wild.length c4, .slice p5 D.rules.skip.length c5, .int .i64 D.rules.take, .int .i64 D.rules.limit, .slice p8 D.hands.length c8, .slice p9 D.stock.length c9, .slice p10 D.heap.length c10, .int .i64 D.turn, .int .i64 D.moves, .int .i64 D.passes] := by
  obtain ⟨p4, p5, p8, p9, p10, c4, c5, c8, c9, c10, b9, b10, e, h0, h8, h9, h10, wf0, wf1, wf2⟩ := h
  exact ⟨p4, p5, p8, p9, p10, c4, c5, c8, c9, c10, e⟩
theorem SGame_cells {w : World} {b : Nat} {a0 a1 a2 a3 a4 a5 a6 a7 a8 a9 a10 a11 a12 a13 : Value} {t : TypeId} {fr : Nat × Nat} (h : w.heap[b]? = some (.cells #[a0, a1, a2, a3, a4, a5, a6, a7, a8, a9, a10, a11, a12, a13] t fr)) : w.cell? ⟨b, 0, none⟩ = some a0 ∧ w.cell? ⟨b, 1, none⟩ = some a1 ∧ w.cell? ⟨b, 2, none⟩ = some a2 ∧ w.cell? ⟨b, 3, none⟩ = some a3 ∧ w.cell? ⟨b, 4, none⟩ = some a4 ∧ w.cell? ⟨b, 5, none⟩ = some a5 ∧ w.cell? ⟨b, 6, none⟩ = some a6 ∧ w.cell? ⟨b, 7, none⟩ = some a7 ∧ w.cell? ⟨b, 8, none⟩ = some a8 ∧ w.cell? ⟨b, 9, none⟩ = some a9 ∧ w.cell? ⟨b, 10, none⟩ = some a10 ∧ w.cell? ⟨b, 11, none⟩ = some a11 ∧ w.cell? ⟨b, 12, none⟩ = some a12 ∧ w.cell? ⟨b, 13, none⟩ = some a13 := by
  simp [World.cell?, h]
/-- .. and its lists may be written, each in blocks of its own out of S. -/
def WrGame (S : Nat → Prop) (w : World) (v : Value) (D : MGame) : Prop :=
  ∃ (p4 p5 p8 p9 p10 : Option Addr) (c4 c5 c8 c9 c10 : Nat) (S0 S8 S9 S10 : Nat → Prop), v = .agg #[.int .i64 D.rules.players, .int .i64 D.rules.each, .bool D.rules.sameSuit, .bool D.rules.sameRank, .slice p4 D.rules.wild.length c4, .slice p5 D.rules.skip.length c5, .int .i64 D.rules.take, .int .i64 D.rules.limit, .slice p8 D.hands.length c8, .slice p9 D.stock.length c9, .slice p10 D.heap.length c10, .int .i64 D.turn, .int .i64 D.moves, .int .i64 D.passes] ∧ WrRules S0 w (.agg #[.int .i64 D.rules.players, .int .i64 D.rules.each, .bool D.rules.sameSuit, .bool D.rules.sameRank, .slice p4 D.rules.wild.length c4, .slice p5 D.rules.skip.length c5, .int .i64 D.rules.take, .int .i64 D.rules.limit]) D.rules ∧ WrSS .i64 S8 w (.slice p8 D.hands.length c8) D.hands ∧ WrIn .i64 S9 w (.slice p9 D.stock.length c9) D.stock ∧ WrIn .i64 S10 w (.slice p10 D.heap.length c10) D.heap ∧ (∀ b, S0 b → S b) ∧ (∀ b, S8 b → S b) ∧ (∀ b, S9 b → S b) ∧ (∀ b, S10 b → S b) ∧ (∀ b, S0 b → ¬ S8 b) ∧ (∀ b, S0 b → ¬ S9 b) ∧ (∀ b, S0 b → ¬ S10 b) ∧ (∀ b, S8 b → ¬ S9 b) ∧ (∀ b, S8 b → ¬ S10 b) ∧ (∀ b, S9 b → ¬ S10 b) ∧ (Lit.int .i64 D.turn).wf = true ∧ (Lit.int .i64 D.moves).wf = true ∧ (Lit.int .i64 D.passes).wf = true
theorem WrGame.rd {S : Nat → Prop} {w : World} {v : Value} {D : MGame} (h : WrGame S w v D) : RdGame w v D := by
  obtain ⟨p4, p5, p8, p9, p10, c4, c5, c8, c9, c10, S0, S8, S9, S10, e, h0, h8, h9, h10, s0, s8, s9, s10, d0_1, d0_2, d0_3, d1_2, d1_3, d2_3, wf0, wf1, wf2⟩ := h
  have r0 := h0.rd
  have r8 := h8.rd
  obtain ⟨b9, r9⟩ := h9.rd
  obtain ⟨b10, r10⟩ := h10.rd
  exact ⟨p4, p5, p8, p9, p10, c4, c5, c8, c9, c10, b9, b10, e, r0, r8, r9, r10, wf0, wf1, wf2⟩
theorem WrGame.touch {S U : Nat → Prop} {w w' : World} {v : Value} {D : MGame} (h : WrGame S w v D) (t : Touch U w w') (hd : ∀ b, S b → ¬ U b) : WrGame S w' v D := by
  obtain ⟨p4, p5, p8, p9, p10, c4, c5, c8, c9, c10, S0, S8, S9, S10, e, h0, h8, h9, h10, s0, s8, s9, s10, d0_1, d0_2, d0_3, d1_2, d1_3, d2_3, wf0, wf1, wf2⟩ := h
  exact ⟨p4, p5, p8, p9, p10, c4, c5, c8, c9, c10, S0, S8, S9, S10, e, h0.touch t (fun b hb => hd b (s0 b hb)), h8.touch t (fun b hb => hd b (s8 b hb)), h9.touch t (fun b hb => hd b (s9 b hb)), h10.touch t (fun b hb => hd b (s10 b hb)), s0, s8, s9, s10, d0_1, d0_2, d0_3, d1_2, d1_3, d2_3, wf0, wf1, wf2⟩
theorem WrGame.below {S : Nat → Prop} {w w' : World} {v : Value} {D : MGame} (h : WrGame S w v D) (b : Below w.heap.size w w') : WrGame S w' v D := h.touch (Below.touch (S := fun _ => False) b) (fun _ _ hx => hx)
theorem WrGame.mono {S U : Nat → Prop} {w : World} {v : Value} {D : MGame} (h : WrGame S w v D) (hs : ∀ b, S b → U b) : WrGame U w v D := by
  obtain ⟨p4, p5, p8, p9, p10, c4, c5, c8, c9, c10, S0, S8, S9, S10, e, h0, h8, h9, h10, s0, s8, s9, s10, d0_1, d0_2, d0_3, d1_2, d1_3, d2_3, wf0, wf1, wf2⟩ := h
  exact ⟨p4, p5, p8, p9, p10, c4, c5, c8, c9, c10, S0, S8, S9, S10, e, h0, h8, h9, h10, fun b hb => hs b (s0 b hb), fun b hb => hs b (s8 b hb), fun b hb => hs b (s9 b hb), fun b hb => hs b (s10 b hb), d0_1, d0_2, d0_3, d1_2, d1_3, d2_3, wf0, wf1, wf2⟩
theorem WrGame.shape {S : Nat → Prop} {w : World} {v : Value} {D : MGame} (h : WrGame S w v D) : ∃ (p4 p5 p8 p9 p10 : Option Addr) (c4 c5 c8 c9 c10 : Nat), v = .agg #[.int .i64 D.rules.players, .int .i64 D.rules.each, .bool D.rules.sameSuit, .bool D.rules.sameRank, .slice p4 D.rules.wild.length c4, .slice p5 D.rules.skip.length c5, .int .i64 D.rules.take, .int .i64 D.rules.limit, .slice p8 D.hands.length c8, .slice p9 D.stock.length c9, .slice p10 D.heap.length c10, .int .i64 D.turn, .int .i64 D.moves, .int .i64 D.passes] := by
  obtain ⟨p4, p5, p8, p9, p10, c4, c5, c8, c9, c10, S0, S8, S9, S10, e, h0, h8, h9, h10, s0, s8, s9, s10, d0_1, d0_2, d0_3, d1_2, d1_3, d2_3, wf0, wf1, wf2⟩ := h
  exact ⟨p4, p5, p8, p9, p10, c4, c5, c8, c9, c10, e⟩

set_option maxRecDepth 100000 in
set_option maxHeartbeats 1000000 in
theorem szGame_any (v : Value) (D : MGame) (left : Int) (w : World) (h : RdGame w v D) (hl0 : 0 ≤ left) (hl1 : left ≤ 1048576) :
    Calls Tryd.prog 20 #[v, .int .i64 left] w fun e w' => (∃ r : Int, e = .returned (.int .i64 r) ∧ -1 ≤ r ∧ r ≤ 1048576 ∧ (0 ≤ r → D.Few)) ∧ Below w.heap.size w w' := by
  obtain ⟨p4, p5, p8, p9, p10, c4, c5, c8, c9, c10, b9, b10, rfl, h0, h8, h9, h10, wf0, wf1, wf2⟩ := h
  obtain ⟨W0, hW0⟩ : ∃ W, W = w.alloc (.cells #[.int .i64 D.rules.players, .int .i64 D.rules.each, .bool D.rules.sameSuit, .bool D.rules.sameRank, .slice p4 D.rules.wild.length c4, .slice p5 D.rules.skip.length c5, .int .i64 D.rules.take, .int .i64 D.rules.limit, .slice p8 D.hands.length c8, .slice p9 D.stock.length c9, .slice p10 D.heap.length c10, .int .i64 D.turn, .int .i64 D.moves, .int .i64 D.passes] 42) := ⟨_, rfl⟩
  have G1 : W0.heap[w.heap.size]? = some (.cells #[.int .i64 D.rules.players, .int .i64 D.rules.each, .bool D.rules.sameSuit, .bool D.rules.sameRank, .slice p4 D.rules.wild.length c4, .slice p5 D.rules.skip.length c5, .int .i64 D.rules.take, .int .i64 D.rules.limit, .slice p8 D.hands.length c8, .slice p9 D.stock.length c9, .slice p10 D.heap.length c10, .int .i64 D.turn, .int .i64 D.moves, .int .i64 D.passes] 42 (0, 0)) := by rw [hW0]; exact heap_alloc_new _ _
  have B : Below w.heap.size w W0 := by rw [hW0]; exact (Below.refl _ _).alloc (Nat.le_refl _) _
  have l1 : w.heap.size < W0.heap.size := by rw [hW0]; simp
  have HW := Lib.hid hW0
  clear hW0
  go_enter Tryd.func20, Tryd.ntmps20
  go_wp2_with fail
  rw [← HW.out]
  refine (szRules_any _ _ left _ (h0.below B) (by omega) (by omega)).mono ?_
  rintro e w0 ⟨⟨r0, rfl, rn0, rm0, hr0⟩, bb0⟩
  replace B := B.trans (bb0.mono B.size)
  replace G1 := (bb0.block _ l1).trans G1
  replace l1 := Nat.lt_of_lt_of_le l1 bb0.size
  clear bb0
  by_cases hneg0 : r0 < 0
  · go_wp2_with fail
    go_ret
    exact ⟨⟨-1, rfl, by omega, by omega, fun h => by omega⟩, B⟩
  have g0 : D.rules.Few := hr0 (by omega)
  clear hr0
  have k8 := box_cell G1 8
  simp at k8
  go_wp2_with fail
  refine (szIntSS_any _ _ r0 _ (h8.below B) (by omega) (by omega)).mono ?_
  rintro e _w ⟨⟨r8, rfl, rn8, rm8, hr8⟩, rfl⟩
  by_cases hneg8 : r8 < 0
  · go_wp2_with fail
    go_ret
    exact ⟨⟨-1, rfl, by omega, by omega, fun h => by omega⟩, B⟩
  have g8 : D.hands.length ≤ 1048576 := by have := hr8 (by omega); omega
  have gs8 : sumLen D.hands ≤ 1048576 := by have := hr8 (by omega); omega
  clear hr8
  have k9 := box_cell G1 9
  simp at k9
  go_wp2_with fail
  have hm9 : D.stock.length ≤ 9223372036854775807 := by have := h9.len; unfold maxLen at this; omega
  have HC9 := Lib.hid (fun wx => szIntS_any p9 D.stock.length c9 (r8) wx (by omega) (by omega) hm9)
  by_cases hx9 : (r8) < D.stock.length
  · rw [if_pos hx9] at HC9
    refine (HC9.out _).mono ?_
    rintro e _w ⟨rfl, rfl⟩
    go_wp2_with fail
    go_ret
    exact ⟨⟨-1, rfl, by omega, by omega, fun h => by omega⟩, B⟩
  rw [if_neg hx9] at HC9
  obtain ⟨r9, hr9⟩ : ∃ r, r = (r8) - (D.stock.length : Int) := ⟨_, rfl⟩
  rw [← hr9] at HC9
  have g9 : D.stock.length ≤ 1048576 := by omega
  have ra9 : 0 ≤ r9 := by omega
  have rb9 : r9 ≤ 1048576 := by omega
  clear hr9 hx9 hm9
  refine (HC9.out _).mono ?_
  rintro e _w ⟨rfl, rfl⟩
  clear HC9
  have k10 := box_cell G1 10
  simp at k10
  go_wp2_with fail
  have hm10 : D.heap.length ≤ 9223372036854775807 := by have := h10.len; unfold maxLen at this; omega
  have HC10 := Lib.hid (fun wx => szIntS_any p10 D.heap.length c10 (r9) wx (by omega) (by omega) hm10)
  by_cases hx10 : (r9) < D.heap.length
  · rw [if_pos hx10] at HC10
    refine (HC10.out _).mono ?_
    rintro e _w ⟨rfl, rfl⟩
    go_wp2_with fail
    go_ret
    exact ⟨⟨-1, rfl, by omega, by omega, fun h => by omega⟩, B⟩
  rw [if_neg hx10] at HC10
  obtain ⟨r10, hr10⟩ : ∃ r, r = (r9) - (D.heap.length : Int) := ⟨_, rfl⟩
  rw [← hr10] at HC10
  have g10 : D.heap.length ≤ 1048576 := by omega
  have ra10 : 0 ≤ r10 := by omega
  have rb10 : r10 ≤ 1048576 := by omega
  clear hr10 hx10 hm10
  refine (HC10.out _).mono ?_
  rintro e _w ⟨rfl, rfl⟩
  clear HC10
  go_wp2_with fail
  go_ret
  exact ⟨⟨r10, rfl, by omega, by omega, fun _ => ⟨g0, g8, gs8, g9, g10⟩⟩, B⟩

set_option maxRecDepth 100000 in
set_option maxHeartbeats 1000000 in
theorem toGame_w (v : Value) (D : MGame) (w : World) (h : RdGame w v D) (hf : D.Few) :
    Calls Tryd.prog 22 #[v] w fun e w' => ∃ v', e = .returned v' ∧ WrGame (In w.heap.size w'.heap.size) w' v' D ∧ Below w.heap.size w w' := by
  obtain ⟨p4, p5, p8, p9, p10, c4, c5, c8, c9, c10, b9, b10, rfl, h0, h8, h9, h10, wf0, wf1, wf2⟩ := h
  obtain ⟨f0, f8, fs8, f9, f10⟩ := hf
  have Q := Lib.hid (threeBoxes w (.cells #[.int .i64 D.rules.players, .int .i64 D.rules.each, .bool D.rules.sameSuit, .bool D.rules.sameRank, .slice p4 D.rules.wild.length c4, .slice p5 D.rules.skip.length c5, .int .i64 D.rules.take, .int .i64 D.rules.limit, .slice p8 D.hands.length c8, .slice p9 D.stock.length c9, .slice p10 D.heap.length c10, .int .i64 D.turn, .int .i64 D.moves, .int .i64 D.passes] 42) (.cells #[.int .i64 0, .int .i64 0, .bool false, .bool false, .slice none 0 0, .slice none 0 0, .int .i64 0, .int .i64 0, .slice none 0 0, .slice none 0 0, .slice none 0 0, .int .i64 0, .int .i64 0, .int .i64 0] 47) (.cells #[.int .i64 0, .int .i64 0, .bool false, .bool false, .slice none 0 0, .slice none 0 0, .int .i64 0, .int .i64 0, .slice none 0 0, .slice none 0 0, .slice none 0 0, .int .i64 0, .int .i64 0, .int .i64 0] 47))
  obtain ⟨W0, hW0⟩ : ∃ W0, W0 = (((w.alloc (.cells #[.int .i64 D.rules.players, .int .i64 D.rules.each, .bool D.rules.sameSuit, .bool D.rules.sameRank, .slice p4 D.rules.wild.length c4, .slice p5 D.rules.skip.length c5, .int .i64 D.rules.take, .int .i64 D.rules.limit, .slice p8 D.hands.length c8, .slice p9 D.stock.length c9, .slice p10 D.heap.length c10, .int .i64 D.turn, .int .i64 D.moves, .int .i64 D.passes] 42)).alloc (.cells #[.int .i64 0, .int .i64 0, .bool false, .bool false, .slice none 0 0, .slice none 0 0, .int .i64 0, .int .i64 0, .slice none 0 0, .slice none 0 0, .slice none 0 0, .int .i64 0, .int .i64 0, .int .i64 0] 47)).alloc (.cells #[.int .i64 0, .int .i64 0, .bool false, .bool false, .slice none 0 0, .slice none 0 0, .int .i64 0, .int .i64 0, .slice none 0 0, .slice none 0 0, .slice none 0 0, .int .i64 0, .int .i64 0, .int .i64 0] 47)) := ⟨_, rfl⟩
  have B : Below w.heap.size w W0 := by rw [hW0]; exact (((Below.refl _ _).alloc (Nat.le_refl _) _).alloc (by simp) _).alloc (by simp; omega) _
  obtain ⟨bl, hbl⟩ : ∃ b, b = w.heap.size + 1 + 1 := ⟨_, rfl⟩
  obtain ⟨br, hbr⟩ : ∃ b, b = w.heap.size + 1 := ⟨_, rfl⟩
  have hS0 : bl < W0.heap.size := by rw [hW0, hbl]; simp
  rw [← hW0] at Q
  have HW := Lib.hid hW0
  clear hW0
  obtain ⟨G1, G2, G3⟩ := Q.out
  clear Q
  have e3 : w.heap.size + 2 = bl := by omega
  rw [← hbr] at G2
  rw [e3] at G3
  have hd1 : w.heap.size < br := by omega
  have hd2 : br < bl := by omega
  have Hbl := Lib.hid hbl
  have Hbr := Lib.hid hbr
  clear hbl hbr e3
  go_enter Tryd.func22, Tryd.ntmps22
  go_wp2_with fail
  rw [← HW.out, ← Hbl.out, ← Hbr.out]
  refine (toRules_w _ _ W0 (h0.below B) f0).mono ?_
  rintro e w0 ⟨u0, rfl, x0, bb⟩
  obtain ⟨pu4, pu5, cu4, cu5, eu⟩ := x0.shape
  subst eu
  have l0 : bl < W0.heap.size := hS0
  have HQ0 : Hid (W0.heap.size ≤ w0.heap.size) := Lib.hid bb.size
  have HB0 : Hid (w.heap.size ≤ W0.heap.size) := Lib.hid B.size
  replace B := B.trans (bb.mono B.size)
  replace G1 := (bb.block _ (by omega)).trans G1
  replace G2 := (bb.block _ (by omega)).trans G2
  replace G3 := (bb.block _ (by omega)).trans G3
  replace hS0 := Nat.lt_of_lt_of_le hS0 bb.size
  clear bb
  have c1_8 := box_cell G1 8
  have c3_0 := box_cell G3 0
  have z3_0 := box_free G3 0
  have c3_1 := box_cell G3 1
  have z3_1 := box_free G3 1
  have c3_2 := box_cell G3 2
  have z3_2 := box_free G3 2
  have c3_3 := box_cell G3 3
  have z3_3 := box_free G3 3
  have c3_4 := box_cell G3 4
  have z3_4 := box_free G3 4
  have c3_5 := box_cell G3 5
  have z3_5 := box_free G3 5
  have c3_6 := box_cell G3 6
  have z3_6 := box_free G3 6
  have c3_7 := box_cell G3 7
  have z3_7 := box_free G3 7
  simp at c1_8 c3_0 c3_1 c3_2 c3_3 c3_4 c3_5 c3_6 c3_7
  go_wp2_with fail
  obtain ⟨X8, hX8⟩ : ∃ X, X = ((((((((w0.setCell ⟨bl, 0, none⟩ (.int .i64 D.rules.players)).setCell ⟨bl, 1, none⟩ (.int .i64 D.rules.each)).setCell ⟨bl, 2, none⟩ (.bool D.rules.sameSuit)).setCell ⟨bl, 3, none⟩ (.bool D.rules.sameRank)).setCell ⟨bl, 4, none⟩ (.slice pu4 D.rules.wild.length cu4)).setCell ⟨bl, 5, none⟩ (.slice pu5 D.rules.skip.length cu5)).setCell ⟨bl, 6, none⟩ (.int .i64 D.rules.take)).setCell ⟨bl, 7, none⟩ (.int .i64 D.rules.limit)) := ⟨_, rfl⟩
  have N3 := (box_set (box_set (box_set (box_set (box_set (box_set (box_set (box_set G3 0 (.int .i64 D.rules.players)) 1 (.int .i64 D.rules.each)) 2 (.bool D.rules.sameSuit)) 3 (.bool D.rules.sameRank)) 4 (.slice pu4 D.rules.wild.length cu4)) 5 (.slice pu5 D.rules.skip.length cu5)) 6 (.int .i64 D.rules.take)) 7 (.int .i64 D.rules.limit))
  rw [← hX8] at N3
  have K8 : ∀ i, i ≠ bl → X8.heap[i]? = w0.heap[i]? := fun i hi => by rw [hX8]; rw [Below.heap_setCell _ _ _ _ hi, Below.heap_setCell _ _ _ _ hi, Below.heap_setCell _ _ _ _ hi, Below.heap_setCell _ _ _ _ hi, Below.heap_setCell _ _ _ _ hi, Below.heap_setCell _ _ _ _ hi, Below.heap_setCell _ _ _ _ hi, Below.heap_setCell _ _ _ _ hi]
  have Z8 : X8.heap.size = w0.heap.size := by rw [hX8]; simp [World.setCell]
  have NB : Below w.heap.size w X8 := by rw [hX8]; exact ((((((((B.setCell (show w.heap.size ≤ bl by omega) (.int .i64 D.rules.players)).setCell (show w.heap.size ≤ bl by omega) (.int .i64 D.rules.each)).setCell (show w.heap.size ≤ bl by omega) (.bool D.rules.sameSuit)).setCell (show w.heap.size ≤ bl by omega) (.bool D.rules.sameRank)).setCell (show w.heap.size ≤ bl by omega) (.slice pu4 D.rules.wild.length cu4)).setCell (show w.heap.size ≤ bl by omega) (.slice pu5 D.rules.skip.length cu5)).setCell (show w.heap.size ≤ bl by omega) (.int .i64 D.rules.take)).setCell (show w.heap.size ≤ bl by omega) (.int .i64 D.rules.limit))
  have b0 : Below 0 w0 X8 := by rw [hX8]; exact (((((((((Below.refl 0 w0).setCell (Nat.zero_le _) (.int .i64 D.rules.players)).setCell (Nat.zero_le _) (.int .i64 D.rules.each)).setCell (Nat.zero_le _) (.bool D.rules.sameSuit)).setCell (Nat.zero_le _) (.bool D.rules.sameRank)).setCell (Nat.zero_le _) (.slice pu4 D.rules.wild.length cu4)).setCell (Nat.zero_le _) (.slice pu5 D.rules.skip.length cu5)).setCell (Nat.zero_le _) (.int .i64 D.rules.take)).setCell (Nat.zero_le _) (.int .i64 D.rules.limit))
  have tX : Touch (fun k => k = bl) w0 X8 := ⟨b0.os, b0.tape, b0.output, b0.size, fun k _ hn => K8 k hn⟩
  clear b0
  replace G1 := (K8 _ (by omega)).trans G1
  replace G2 := (K8 _ (by omega)).trans G2
  replace hS0 : bl < X8.heap.size := by rw [Z8]; exact hS0
  replace x0 := x0.touch tX (fun b h1 h2 => by have := h1.1; have := l0; omega)
  have HZ8 := Lib.hid Z8
  rw [← hX8]
  clear hX8 B G3 K8 Z8 tX c1_8 c3_0 z3_0 c3_1 z3_1 c3_2 z3_2 c3_3 z3_3 c3_4 z3_4 c3_5 z3_5 c3_6 z3_6 c3_7 z3_7
  have G3 := N3
  have B := NB
  clear N3 NB
  simp only [List.setIfInBounds_toArray, List.set_cons_zero, List.set_cons_succ] at G3
  refine (toIntSS_any _ _ X8 (h8.below B) f8 fs8).mono ?_
  rintro e w8 ⟨u8, rfl, y8, bb⟩
  have x8 := y8.ss
  clear y8
  obtain ⟨pu8, cu8, eu⟩ := x8.shape
  subst eu
  have l8 : bl < X8.heap.size := hS0
  have HQ8 : Hid (X8.heap.size ≤ w8.heap.size) := Lib.hid bb.size
  have HB8 : Hid (w.heap.size ≤ X8.heap.size) := Lib.hid B.size
  replace B := B.trans (bb.mono B.size)
  replace G1 := (bb.block _ (by omega)).trans G1
  replace G2 := (bb.block _ (by omega)).trans G2
  replace G3 := (bb.block _ (by omega)).trans G3
  replace hS0 := Nat.lt_of_lt_of_le hS0 bb.size
  replace x0 := x0.touch (Below.touch (S := fun _ => False) bb) (fun _ _ hx => hx)
  clear bb
  have c1_9 := box_cell G1 9
  have c3_8 := box_cell G3 8
  have z3_8 := box_free G3 8
  simp at c1_9 c3_8
  go_wp2_with fail
  obtain ⟨X9, hX9⟩ : ∃ X, X = (w8.setCell ⟨bl, 8, none⟩ (.slice pu8 D.hands.length cu8)) := ⟨_, rfl⟩
  have N3 := (box_set G3 8 (.slice pu8 D.hands.length cu8))
  rw [← hX9] at N3
  have K9 : ∀ i, i ≠ bl → X9.heap[i]? = w8.heap[i]? := fun i hi => by rw [hX9]; rw [Below.heap_setCell _ _ _ _ hi]
  have Z9 : X9.heap.size = w8.heap.size := by rw [hX9]; simp [World.setCell]
  have NB : Below w.heap.size w X9 := by rw [hX9]; exact (B.setCell (show w.heap.size ≤ bl by omega) (.slice pu8 D.hands.length cu8))
  have b0 : Below 0 w8 X9 := by rw [hX9]; exact ((Below.refl 0 w8).setCell (Nat.zero_le _) (.slice pu8 D.hands.length cu8))
  have tX : Touch (fun k => k = bl) w8 X9 := ⟨b0.os, b0.tape, b0.output, b0.size, fun k _ hn => K9 k hn⟩
  clear b0
  replace G1 := (K9 _ (by omega)).trans G1
  replace G2 := (K9 _ (by omega)).trans G2
  replace hS0 : bl < X9.heap.size := by rw [Z9]; exact hS0
  replace x0 := x0.touch tX (fun b h1 h2 => by have := h1.1; have := l0; omega)
  replace x8 := x8.touch tX (fun b h1 h2 => by have := h1.1; have := l8; omega)
  have HZ9 := Lib.hid Z9
  rw [← hX9]
  clear hX9 B G3 K9 Z9 tX c1_9 c3_8 z3_8
  have G3 := N3
  have B := NB
  clear N3 NB
  simp only [List.setIfInBounds_toArray, List.set_cons_zero, List.set_cons_succ] at G3
  refine (toIntS_any _ _ _ X9 (h9.below B) (by omega)).mono ?_
  rintro e w9 ⟨u9, rfl, y9, bb, -⟩
  have x9 := WrIn.of (lo := X9.heap.size) y9 (Nat.le_refl _)
  clear y9
  obtain ⟨pu9, cu9, eu⟩ := x9.shape
  subst eu
  have l9 : bl < X9.heap.size := hS0
  have HQ9 : Hid (X9.heap.size ≤ w9.heap.size) := Lib.hid bb.size
  have HB9 : Hid (w.heap.size ≤ X9.heap.size) := Lib.hid B.size
  replace B := B.trans (bb.mono B.size)
  replace G1 := (bb.block _ (by omega)).trans G1
  replace G2 := (bb.block _ (by omega)).trans G2
  replace G3 := (bb.block _ (by omega)).trans G3
  replace hS0 := Nat.lt_of_lt_of_le hS0 bb.size
  replace x0 := x0.touch (Below.touch (S := fun _ => False) bb) (fun _ _ hx => hx)
  replace x8 := x8.touch (Below.touch (S := fun _ => False) bb) (fun _ _ hx => hx)
  clear bb
  have c1_10 := box_cell G1 10
  have c3_9 := box_cell G3 9
  have z3_9 := box_free G3 9
  simp at c1_10 c3_9
  go_wp2_with fail
  obtain ⟨X10, hX10⟩ : ∃ X, X = (w9.setCell ⟨bl, 9, none⟩ (.slice pu9 D.stock.length cu9)) := ⟨_, rfl⟩
  have N3 := (box_set G3 9 (.slice pu9 D.stock.length cu9))
  rw [← hX10] at N3
  have K10 : ∀ i, i ≠ bl → X10.heap[i]? = w9.heap[i]? := fun i hi => by rw [hX10]; rw [Below.heap_setCell _ _ _ _ hi]
  have Z10 : X10.heap.size = w9.heap.size := by rw [hX10]; simp [World.setCell]
  have NB : Below w.heap.size w X10 := by rw [hX10]; exact (B.setCell (show w.heap.size ≤ bl by omega) (.slice pu9 D.stock.length cu9))
  have b0 : Below 0 w9 X10 := by rw [hX10]; exact ((Below.refl 0 w9).setCell (Nat.zero_le _) (.slice pu9 D.stock.length cu9))
  have tX : Touch (fun k => k = bl) w9 X10 := ⟨b0.os, b0.tape, b0.output, b0.size, fun k _ hn => K10 k hn⟩
  clear b0
  replace G1 := (K10 _ (by omega)).trans G1
  replace G2 := (K10 _ (by omega)).trans G2
  replace hS0 : bl < X10.heap.size := by rw [Z10]; exact hS0
  replace x0 := x0.touch tX (fun b h1 h2 => by have := h1.1; have := l0; omega)
  replace x8 := x8.touch tX (fun b h1 h2 => by have := h1.1; have := l8; omega)
  replace x9 := x9.touch tX (fun b h1 h2 => by have := h1.1; have := l9; omega)
  have HZ10 := Lib.hid Z10
  rw [← hX10]
  clear hX10 B G3 K10 Z10 tX c1_10 c3_9 z3_9
  have G3 := N3
  have B := NB
  clear N3 NB
  simp only [List.setIfInBounds_toArray, List.set_cons_zero, List.set_cons_succ] at G3
  refine (toIntS_any _ _ _ X10 (h10.below B) (by omega)).mono ?_
  rintro e w10 ⟨u10, rfl, y10, bb, -⟩
  have x10 := WrIn.of (lo := X10.heap.size) y10 (Nat.le_refl _)
  clear y10
  obtain ⟨pu10, cu10, eu⟩ := x10.shape
  subst eu
  have l10 : bl < X10.heap.size := hS0
  have HQ10 : Hid (X10.heap.size ≤ w10.heap.size) := Lib.hid bb.size
  have HB10 : Hid (w.heap.size ≤ X10.heap.size) := Lib.hid B.size
  replace B := B.trans (bb.mono B.size)
  replace G1 := (bb.block _ (by omega)).trans G1
  replace G2 := (bb.block _ (by omega)).trans G2
  replace G3 := (bb.block _ (by omega)).trans G3
  replace hS0 := Nat.lt_of_lt_of_le hS0 bb.size
  replace x0 := x0.touch (Below.touch (S := fun _ => False) bb) (fun _ _ hx => hx)
  replace x8 := x8.touch (Below.touch (S := fun _ => False) bb) (fun _ _ hx => hx)
  replace x9 := x9.touch (Below.touch (S := fun _ => False) bb) (fun _ _ hx => hx)
  clear bb
  have c1_11 := box_cell G1 11
  have c1_12 := box_cell G1 12
  have c1_13 := box_cell G1 13
  have c3_10 := box_cell G3 10
  have z3_10 := box_free G3 10
  have c3_11 := box_cell G3 11
  have z3_11 := box_free G3 11
  have c3_12 := box_cell G3 12
  have z3_12 := box_free G3 12
  have c3_13 := box_cell G3 13
  have z3_13 := box_free G3 13
  simp at c1_11 c1_12 c1_13 c3_10 c3_11 c3_12 c3_13
  have G3f := (box_set (box_set (box_set (box_set G3 10 (.slice pu10 D.heap.length cu10)) 11 (.int .i64 D.turn)) 12 (.int .i64 D.moves)) 13 (.int .i64 D.passes))
  simp only [List.setIfInBounds_toArray, List.set_cons_zero, List.set_cons_succ] at G3f
  have G2a : ((((w10.setCell ⟨bl, 10, none⟩ (.slice pu10 D.heap.length cu10)).setCell ⟨bl, 11, none⟩ (.int .i64 D.turn)).setCell ⟨bl, 12, none⟩ (.int .i64 D.moves)).setCell ⟨bl, 13, none⟩ (.int .i64 D.passes)).heap[br]? = some (.cells #[.int .i64 0, .int .i64 0, .bool false, .bool false, .slice none 0 0, .slice none 0 0, .int .i64 0, .int .i64 0, .slice none 0 0, .slice none 0 0, .slice none 0 0, .int .i64 0, .int .i64 0, .int .i64 0] 47 (0, 0)) := by
    rw [Below.heap_setCell _ _ _ _ (show br ≠ bl by omega), Below.heap_setCell _ _ _ _ (show br ≠ bl by omega), Below.heap_setCell _ _ _ _ (show br ≠ bl by omega), Below.heap_setCell _ _ _ _ (show br ≠ bl by omega)]; exact G2
  obtain ⟨X0, hX0⟩ : ∃ X, X = ((((w10.setCell ⟨bl, 10, none⟩ (.slice pu10 D.heap.length cu10)).setCell ⟨bl, 11, none⟩ (.int .i64 D.turn)).setCell ⟨bl, 12, none⟩ (.int .i64 D.moves)).setCell ⟨bl, 13, none⟩ (.int .i64 D.passes)) := ⟨_, rfl⟩
  have G3x : X0.heap[bl]? = some (.cells #[.int .i64 D.rules.players, .int .i64 D.rules.each, .bool D.rules.sameSuit, .bool D.rules.sameRank, .slice pu4 D.rules.wild.length cu4, .slice pu5 D.rules.skip.length cu5, .int .i64 D.rules.take, .int .i64 D.rules.limit, .slice pu8 D.hands.length cu8, .slice pu9 D.stock.length cu9, .slice pu10 D.heap.length cu10, .int .i64 D.turn, .int .i64 D.moves, .int .i64 D.passes] 47 (0, 0)) := by rw [hX0]; exact G3f
  have G2x : X0.heap[br]? = some (.cells #[.int .i64 0, .int .i64 0, .bool false, .bool false, .slice none 0 0, .slice none 0 0, .int .i64 0, .int .i64 0, .slice none 0 0, .slice none 0 0, .slice none 0 0, .int .i64 0, .int .i64 0, .int .i64 0] 47 (0, 0)) := by rw [hX0]; exact G2a
  have HX0 := Lib.hid hX0
  clear G3f G2a hX0
  go_upto_region 9 with fail
  rw [← HX0.out]
  clear c1_11 c1_12 c1_13 c3_10 z3_10 c3_11 z3_11 c3_12 z3_12 c3_13 z3_13
  refine wp_region_lit ?_
  refine wpList_load_row rfl 47 _ rfl bl rfl 47 _ _ _ G3x Tryd.underlying47 rfl (by kernel_rfl) ?_
  refine wpList_store_row rfl 47 _ _ rfl br #[.int .i64 D.rules.players, .int .i64 D.rules.each, .bool D.rules.sameSuit, .bool D.rules.sameRank, .slice pu4 D.rules.wild.length cu4, .slice pu5 D.rules.skip.length cu5, .int .i64 D.rules.take, .int .i64 D.rules.limit, .slice pu8 D.hands.length cu8, .slice pu9 D.stock.length cu9, .slice pu10 D.heap.length cu10, .int .i64 D.turn, .int .i64 D.moves, .int .i64 D.passes] rfl rfl 47 _ G2x (by kernel_rfl) rfl (by simp [Value.oneCell']) ?_
  go_wp2_with fail
  obtain ⟨X, hX⟩ : ∃ X, X = (X0.setRow br #[.int .i64 D.rules.players, .int .i64 D.rules.each, .bool D.rules.sameSuit, .bool D.rules.sameRank, .slice pu4 D.rules.wild.length cu4, .slice pu5 D.rules.skip.length cu5, .int .i64 D.rules.take, .int .i64 D.rules.limit, .slice pu8 D.hands.length cu8, .slice pu9 D.stock.length cu9, .slice pu10 D.heap.length cu10, .int .i64 D.turn, .int .i64 D.moves, .int .i64 D.passes]) := ⟨_, rfl⟩
  have N2 := setRow_heap X0 br _ #[.int .i64 D.rules.players, .int .i64 D.rules.each, .bool D.rules.sameSuit, .bool D.rules.sameRank, .slice pu4 D.rules.wild.length cu4, .slice pu5 D.rules.skip.length cu5, .int .i64 D.rules.take, .int .i64 D.rules.limit, .slice pu8 D.hands.length cu8, .slice pu9 D.stock.length cu9, .slice pu10 D.heap.length cu10, .int .i64 D.turn, .int .i64 D.moves, .int .i64 D.passes] _ _ G2x
  rw [← hX] at N2
  have K : ∀ i, i ≠ bl → i ≠ br → X.heap[i]? = w10.heap[i]? := fun i hi hr => by rw [hX, HX0.out]; rw [setRow_other _ _ _ _ hr, Below.heap_setCell _ _ _ _ hi, Below.heap_setCell _ _ _ _ hi, Below.heap_setCell _ _ _ _ hi, Below.heap_setCell _ _ _ _ hi]
  have Z : X.heap.size = w10.heap.size := by rw [hX, HX0.out]; simp [World.setCell]
  have NB : Below w.heap.size w X := by rw [hX, HX0.out]; exact below_setRow ((((B.setCell (show w.heap.size ≤ bl by omega) (.slice pu10 D.heap.length cu10)).setCell (show w.heap.size ≤ bl by omega) (.int .i64 D.turn)).setCell (show w.heap.size ≤ bl by omega) (.int .i64 D.moves)).setCell (show w.heap.size ≤ bl by omega) (.int .i64 D.passes)) (by omega) _
  have b0 : Below 0 w10 X := by rw [hX, HX0.out]; exact below_setRow (((((Below.refl 0 w10).setCell (Nat.zero_le _) (.slice pu10 D.heap.length cu10)).setCell (Nat.zero_le _) (.int .i64 D.turn)).setCell (Nat.zero_le _) (.int .i64 D.moves)).setCell (Nat.zero_le _) (.int .i64 D.passes)) (Nat.zero_le _) _
  have tX : Touch (fun k => k = bl ∨ k = br) w10 X := ⟨b0.os, b0.tape, b0.output, b0.size, fun k _ hn => K k (fun e => hn (.inl e)) (fun e => hn (.inr e))⟩
  clear b0
  rw [← hX]
  replace x0 := x0.touch tX (fun b h1 h2 => by have := h1.1; have := l0; omega)
  replace x8 := x8.touch tX (fun b h1 h2 => by have := h1.1; have := l8; omega)
  replace x9 := x9.touch tX (fun b h1 h2 => by have := h1.1; have := l9; omega)
  replace x10 := x10.touch tX (fun b h1 h2 => by have := h1.1; have := l10; omega)
  have q0 := HQ0.out
  have qb0 := HB0.out
  have q8 := HQ8.out
  have qb8 := HB8.out
  have q9 := HQ9.out
  have qb9 := HB9.out
  have q10 := HQ10.out
  have qb10 := HB10.out
  have qz8 := HZ8.out
  have qz9 := HZ9.out
  have qz10 := HZ10.out
  have HWr : WrGame (In w.heap.size X.heap.size) X (.agg #[.int .i64 D.rules.players, .int .i64 D.rules.each, .bool D.rules.sameSuit, .bool D.rules.sameRank, .slice pu4 D.rules.wild.length cu4, .slice pu5 D.rules.skip.length cu5, .int .i64 D.rules.take, .int .i64 D.rules.limit, .slice pu8 D.hands.length cu8, .slice pu9 D.stock.length cu9, .slice pu10 D.heap.length cu10, .int .i64 D.turn, .int .i64 D.moves, .int .i64 D.passes]) D := ⟨pu4, pu5, pu8, pu9, pu10, cu4, cu5, cu8, cu9, cu10, (In W0.heap.size w0.heap.size), (In X8.heap.size w8.heap.size), (In X9.heap.size w9.heap.size), (In X10.heap.size w10.heap.size), rfl, x0, x8, x9, x10, (fun b hb => by obtain ⟨h1, h2⟩ := hb; constructor <;> omega), (fun b hb => by obtain ⟨h1, h2⟩ := hb; constructor <;> omega), (fun b hb => by obtain ⟨h1, h2⟩ := hb; constructor <;> omega), (fun b hb => by obtain ⟨h1, h2⟩ := hb; constructor <;> omega), (fun b h1 h2 => by obtain ⟨a1, a2⟩ := h1; obtain ⟨a3, a4⟩ := h2; omega), (fun b h1 h2 => by obtain ⟨a1, a2⟩ := h1; obtain ⟨a3, a4⟩ := h2; omega), (fun b h1 h2 => by obtain ⟨a1, a2⟩ := h1; obtain ⟨a3, a4⟩ := h2; omega), (fun b h1 h2 => by obtain ⟨a1, a2⟩ := h1; obtain ⟨a3, a4⟩ := h2; omega), (fun b h1 h2 => by obtain ⟨a1, a2⟩ := h1; obtain ⟨a3, a4⟩ := h2; omega), (fun b h1 h2 => by obtain ⟨a1, a2⟩ := h1; obtain ⟨a3, a4⟩ := h2; omega), wf0, wf1, wf2⟩
  (try simp only [Exit.inBlock, Exit.then]); refine bodyPost_ret (results_cell_row rfl _ _ br _ _ _ _ rfl N2 Tryd.underlying47 rfl (by kernel_rfl)) rfl ?_
  exact ⟨_, rfl, HWr, NB⟩
theorem toGame_any (v : Value) (D : MGame) (w : World) (h : RdGame w v D) (hf : D.Few) :
    Calls Tryd.prog 22 #[v] w fun e w' => ∃ v', e = .returned v' ∧ RdGame w' v' D ∧ Below w.heap.size w w' :=
  (toGame_w v D w h hf).mono (by rintro e w' ⟨v', rfl, hw, hb⟩; exact ⟨v', rfl, hw.rd, hb⟩)

set_option maxRecDepth 100000 in
set_option maxHeartbeats 1000000 in
theorem eqGame_t (va vb : Value) (D : MGame) (w : World) (ha : RdGame w va D) (hb : RdGame w vb D) (hf : D.Few) :
    Calls Tryd.prog 24 #[va, vb] w fun e w' => e = .returned (.bool true) ∧ Below w.heap.size w w' := by
  obtain ⟨p4, p5, p8, p9, p10, c4, c5, c8, c9, c10, b9, b10, rfl, h0, h8, h9, h10, wf0, wf1, wf2⟩ := ha
  obtain ⟨pu4, pu5, pu8, pu9, pu10, cu4, cu5, cu8, cu9, cu10, bu9, bu10, rfl, y0, y8, y9, y10, -, -, -⟩ := hb
  obtain ⟨f0, f8, fs8, f9, f10⟩ := hf
  obtain ⟨W0, hW0⟩ : ∃ W0, W0 = ((w.alloc (.cells #[.int .i64 D.rules.players, .int .i64 D.rules.each, .bool D.rules.sameSuit, .bool D.rules.sameRank, .slice p4 D.rules.wild.length c4, .slice p5 D.rules.skip.length c5, .int .i64 D.rules.take, .int .i64 D.rules.limit, .slice p8 D.hands.length c8, .slice p9 D.stock.length c9, .slice p10 D.heap.length c10, .int .i64 D.turn, .int .i64 D.moves, .int .i64 D.passes] 47)).alloc (.cells #[.int .i64 D.rules.players, .int .i64 D.rules.each, .bool D.rules.sameSuit, .bool D.rules.sameRank, .slice pu4 D.rules.wild.length cu4, .slice pu5 D.rules.skip.length cu5, .int .i64 D.rules.take, .int .i64 D.rules.limit, .slice pu8 D.hands.length cu8, .slice pu9 D.stock.length cu9, .slice pu10 D.heap.length cu10, .int .i64 D.turn, .int .i64 D.moves, .int .i64 D.passes] 47)) := ⟨_, rfl⟩
  have B : Below w.heap.size w W0 := by rw [hW0]; exact ((Below.refl _ _).alloc (Nat.le_refl _) _).alloc (by simp) _
  have G1 : W0.heap[w.heap.size]? = some (.cells #[.int .i64 D.rules.players, .int .i64 D.rules.each, .bool D.rules.sameSuit, .bool D.rules.sameRank, .slice p4 D.rules.wild.length c4, .slice p5 D.rules.skip.length c5, .int .i64 D.rules.take, .int .i64 D.rules.limit, .slice p8 D.hands.length c8, .slice p9 D.stock.length c9, .slice p10 D.heap.length c10, .int .i64 D.turn, .int .i64 D.moves, .int .i64 D.passes] 47 (0, 0)) := by
    rw [hW0]; show ((w.heap.push _).push _)[_]? = _
    rw [Array.getElem?_push, if_neg (by simp), Array.getElem?_push, if_pos rfl]
  have G2 : W0.heap[w.heap.size + 1]? = some (.cells #[.int .i64 D.rules.players, .int .i64 D.rules.each, .bool D.rules.sameSuit, .bool D.rules.sameRank, .slice pu4 D.rules.wild.length cu4, .slice pu5 D.rules.skip.length cu5, .int .i64 D.rules.take, .int .i64 D.rules.limit, .slice pu8 D.hands.length cu8, .slice pu9 D.stock.length cu9, .slice pu10 D.heap.length cu10, .int .i64 D.turn, .int .i64 D.moves, .int .i64 D.passes] 47 (0, 0)) := by
    rw [hW0]; show ((w.heap.push _).push _)[_]? = _
    rw [Array.getElem?_push, if_pos (by simp)]
  have hS0 : w.heap.size + 2 ≤ W0.heap.size := by rw [hW0]; simp
  have HW := Lib.hid hW0
  clear hW0
  go_enter Tryd.func24, Tryd.ntmps24
  go_wp2_with fail
  rw [← HW.out]
  refine (eqRules_t _ _ _ W0 (h0.below B) (y0.below B) f0).mono ?_
  rintro e w0 ⟨rfl, bb⟩
  replace B := B.trans (bb.mono B.size)
  replace G1 := (bb.block _ (by omega)).trans G1
  replace G2 := (bb.block _ (by omega)).trans G2
  replace hS0 := Nat.le_trans hS0 bb.size
  clear bb
  have c1_8 := box_cell G1 8
  have c2_8 := box_cell G2 8
  simp at c1_8 c2_8
  go_wp2_with fail
  refine (eqIntSS_t _ _ _ w0 (h8.below B) (y8.below B) f8 fs8).mono ?_
  rintro e w8 ⟨rfl, bb⟩
  replace B := B.trans (bb.mono B.size)
  replace G1 := (bb.block _ (by omega)).trans G1
  replace G2 := (bb.block _ (by omega)).trans G2
  replace hS0 := Nat.le_trans hS0 bb.size
  clear bb c1_8 c2_8
  have c1_9 := box_cell G1 9
  have c2_9 := box_cell G2 9
  simp at c1_9 c2_9
  go_wp2_with fail
  refine (eqIntS_t _ _ _ _ _ w8 (h9.below B) (y9.below B) (by omega)).mono ?_
  rintro e w9 ⟨rfl, bb⟩
  replace B := B.trans (bb.mono B.size)
  replace G1 := (bb.block _ (by omega)).trans G1
  replace G2 := (bb.block _ (by omega)).trans G2
  replace hS0 := Nat.le_trans hS0 bb.size
  clear bb c1_9 c2_9
  have c1_10 := box_cell G1 10
  have c2_10 := box_cell G2 10
  simp at c1_10 c2_10
  go_wp2_with fail
  refine (eqIntS_t _ _ _ _ _ w9 (h10.below B) (y10.below B) (by omega)).mono ?_
  rintro e w10 ⟨rfl, bb⟩
  replace B := B.trans (bb.mono B.size)
  replace G1 := (bb.block _ (by omega)).trans G1
  replace G2 := (bb.block _ (by omega)).trans G2
  replace hS0 := Nat.le_trans hS0 bb.size
  clear bb c1_10 c2_10
  have c1_11 := box_cell G1 11
  have c2_11 := box_cell G2 11
  have c1_12 := box_cell G1 12
  have c2_12 := box_cell G2 12
  have c1_13 := box_cell G1 13
  have c2_13 := box_cell G2 13
  simp at c1_11 c2_11 c1_12 c2_12 c1_13 c2_13
  go_wp2_with fail
  go_ret
  exact ⟨rfl, B⟩
def MGame.total (D : MGame) : Nat := D.rules.total + sumLen D.hands + D.stock.length + D.heap.length
def MGame.marked (D : MGame) (k : Int) : MGame := { D with rules := D.rules.marked (k), hands := marksII (k + (D.rules.total : Nat)) D.hands, stock := marksI (k + (D.rules.total : Nat) + (sumLen D.hands : Nat)) D.stock.length, heap := marksI (k + (D.rules.total : Nat) + (sumLen D.hands : Nat) + (D.stock.length : Nat)) D.heap.length }
theorem MGame.total_le {D : MGame} (hf : D.Few) : D.total ≤ 5242880 := by
  obtain ⟨f0, f8, fs8, f9, f10⟩ := hf
  have t0 := MRules.total_le f0
  unfold MGame.total
  omega

end Go.Proofs.YtmfammgdcdlceaaDoor
