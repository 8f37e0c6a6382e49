/-
  Several texts in one: Games and rules copied: what a call owns of a game; l22Copy, l24Copy. A game in a box of the call's own, its lists' blocks apart from the box: what replaces its parts.
-/
import Derived.Test.YtmhbonbjnpcpeaaGreatDoorM5
import Derived.Test.YtmhbonbjnpcpeaaGreatDoorM11
import Derived.Test.YtmhbonbjnpcpeaaGreatDoorM7
import Derived.Lib.AppendZerosOnto
import Derived.Deep.RegionHeld3
namespace Go.Proofs.YtmhbonbjnpcpeaaGreatDoor
open Go.RowKit
set_option linter.unusedVariables false
set_option linter.unusedSimpArgs false

/-- A game of the call's own: its lists may grow. -/
def OwnGame (S : Nat → Prop) (w : World) (v : Value) (D : MGame) : Prop :=
  ∃ (p4 p5 p8 p9 p10 : Option Addr) (c4 c5 c8 c9 c10 : Nat) (S0 S8 S9 S10 : Nat → Prop), v = .agg #[.int .i64 D.rules.players, .int .i64 D.rules.each, .bool D.rules.sameSuit, .bool D.rules.sameRank, .slice p4 D.rules.wild.length c4, .slice p5 D.rules.skip.length c5, .int .i64 D.rules.take, .int .i64 D.rules.limit, .slice p8 D.hands.length c8, .slice p9 D.stock.length c9, .slice p10 D.heap.length c10, .int .i64 D.turn, .int .i64 D.moves, .int .i64 D.passes] ∧ WrRules S0 w (.agg #[.int .i64 D.rules.players, .int .i64 D.rules.each, .bool D.rules.sameSuit, .bool D.rules.sameRank, .slice p4 D.rules.wild.length c4, .slice p5 D.rules.skip.length c5, .int .i64 D.rules.take, .int .i64 D.rules.limit]) D.rules ∧ OwnR S8 w (.slice p8 D.hands.length c8) D.hands ∧ OwnI S9 w (.slice p9 D.stock.length c9) D.stock ∧ OwnI S10 w (.slice p10 D.heap.length c10) D.heap ∧
    (∀ b, S0 b → S b) ∧ (∀ b, S8 b → S b) ∧ (∀ b, S9 b → S b) ∧ (∀ b, S10 b → S b) ∧ (∀ b, S0 b → ¬ S8 b) ∧ (∀ b, S0 b → ¬ S9 b) ∧ (∀ b, S0 b → ¬ S10 b) ∧ (∀ b, S8 b → ¬ S9 b) ∧ (∀ b, S8 b → ¬ S10 b) ∧ (∀ b, S9 b → ¬ S10 b) ∧ (Lit.int .i64 D.turn).wf = true ∧ (Lit.int .i64 D.moves).wf = true ∧ (Lit.int .i64 D.passes).wf = true
theorem OwnGame.wr {S : Nat → Prop} {w : World} {v : Value} {D : MGame} (h : OwnGame S w v D) : WrGame S w v D := by
  obtain ⟨p4, p5, p8, p9, p10, c4, c5, c8, c9, c10, S0, S8, S9, S10, e, h0, h8, h9, h10, r⟩ := h
  exact ⟨p4, p5, p8, p9, p10, c4, c5, c8, c9, c10, S0, S8, S9, S10, e, h0, h8.ss, h9.wr, h10.wr, r⟩
theorem OwnGame.below {S : Nat → Prop} {w w' : World} {v : Value} {D : MGame} (h : OwnGame S w v D) (b : Below w.heap.size w w') : OwnGame S w' v D := by
  obtain ⟨p4, p5, p8, p9, p10, c4, c5, c8, c9, c10, S0, S8, S9, S10, e, h0, h8, h9, h10, r⟩ := h
  exact ⟨p4, p5, p8, p9, p10, c4, c5, c8, c9, c10, S0, S8, S9, S10, e, h0.below b, h8.below b, h9.below b, h10.below b, r⟩
theorem OwnGame.mono {S T : Nat → Prop} {w : World} {v : Value} {D : MGame} (h : OwnGame S w v D) (hs : ∀ b, S b → T b) : OwnGame T w v D := by
  obtain ⟨p4, p5, p8, p9, p10, c4, c5, c8, c9, c10, S0, S8, S9, S10, e, h0, h8, h9, h10, s0, s8, s9, s10, r⟩ := h
  exact ⟨p4, p5, p8, p9, p10, c4, c5, c8, c9, c10, S0, S8, S9, S10, e, h0, h8, h9, h10, fun b hb => hs b (s0 b hb), fun b hb => hs b (s8 b hb), fun b hb => hs b (s9 b hb), fun b hb => hs b (s10 b hb), r⟩
theorem OwnGame.touch {S T : Nat → Prop} {w w' : World} {v : Value} {D : MGame} (h : OwnGame S w v D) (t : Touch T w w') (hd : ∀ b, S b → ¬ T b) : OwnGame S w' v D := by
  obtain ⟨p4, p5, p8, p9, p10, c4, c5, c8, c9, c10, S0, S8, S9, S10, e, h0, h8, h9, h10, s0, s8, s9, s10, r⟩ := h
  exact ⟨p4, p5, p8, p9, p10, c4, c5, c8, c9, c10, S0, S8, S9, S10, e, h0.touch t (fun b hb => hd b (s0 b hb)), h8.touch t (fun b hb => hd b (s8 b hb)), h9.touch t (fun b hb => hd b (s9 b hb)), h10.touch t (fun b hb => hd b (s10 b hb)), s0, s8, s9, s10, r⟩
theorem touch_setRow (w : World) (g : Nat) (cs : Array Value) : Touch (fun k => k = g) w (w.setRow g cs) := by
  have b : Below 0 w (w.setRow g cs) := below_setRow (Below.refl _ _) (Nat.zero_le _) _
  exact ⟨b.os, b.tape, b.output, b.size, fun k _ hn => setRow_other _ _ _ _ hn⟩
theorem touch_setCell (w : World) (g i : Nat) (v : Value) : Touch (fun k => k = g) w (w.setCell ⟨g, i, none⟩ v) := by
  have b : Below 0 w (w.setCell ⟨g, i, none⟩ v) := (Below.refl _ _).setCell (Nat.zero_le _) _
  exact ⟨b.os, b.tape, b.output, b.size, fun k _ hn => Below.heap_setCell _ _ _ _ hn⟩
/-- A game laid into its box. -/
theorem game_laid {lo r l0 u0 l8 u8 l9 u9 l10 u10 d4 d5 d8 d9 d10 : Nat} {w0 wx : World} {q4 q5 q8 q9 q10 : Option Addr} {old : Array Value} {D : MGame} (h0 : WrRules (In l0 u0) wx (.agg #[.int .i64 D.rules.players, .int .i64 D.rules.each, .bool D.rules.sameSuit, .bool D.rules.sameRank, .slice q4 D.rules.wild.length d4, .slice q5 D.rules.skip.length d5, .int .i64 D.rules.take, .int .i64 D.rules.limit]) D.rules) (h8 : OwnR (In l8 u8) wx (.slice q8 D.hands.length d8) D.hands) (h9 : OwnI (In l9 u9) wx (.slice q9 D.stock.length d9) D.stock) (h10 : OwnI (In l10 u10) wx (.slice q10 D.heap.length d10) D.heap)
    (i0 : lo ≤ l0 ∧ u0 ≤ wx.heap.size) (i8 : lo ≤ l8 ∧ u8 ≤ wx.heap.size) (i9 : lo ≤ l9 ∧ u9 ≤ wx.heap.size) (i10 : lo ≤ l10 ∧ u10 ≤ wx.heap.size)
    (d1 : u0 ≤ l8 ∨ u8 ≤ l0) (d2 : u0 ≤ l9 ∨ u9 ≤ l0) (d3 : u0 ≤ l10 ∨ u10 ≤ l0) (d4' : u8 ≤ l9 ∨ u9 ≤ l8) (d5' : u8 ≤ l10 ∨ u10 ≤ l8) (d6 : u9 ≤ l10 ∨ u10 ≤ l9)
    (wf0 : (Lit.int .i64 D.turn).wf = true) (wf1 : (Lit.int .i64 D.moves).wf = true) (wf2 : (Lit.int .i64 D.passes).wf = true) (r0 : r < l0) (r8 : r < l8) (r9 : r < l9) (r10 : r < l10) (hr : lo ≤ r) (g1 : wx.heap[r]? = some (.cells old 32 (0, 0))) (B : Below lo w0 wx) :
    (wx.setRow r #[.int .i64 D.rules.players, .int .i64 D.rules.each, .bool D.rules.sameSuit, .bool D.rules.sameRank, .slice q4 D.rules.wild.length d4, .slice q5 D.rules.skip.length d5, .int .i64 D.rules.take, .int .i64 D.rules.limit, .slice q8 D.hands.length d8, .slice q9 D.stock.length d9, .slice q10 D.heap.length d10, .int .i64 D.turn, .int .i64 D.moves, .int .i64 D.passes]).heap[r]? = some (.cells #[.int .i64 D.rules.players, .int .i64 D.rules.each, .bool D.rules.sameSuit, .bool D.rules.sameRank, .slice q4 D.rules.wild.length d4, .slice q5 D.rules.skip.length d5, .int .i64 D.rules.take, .int .i64 D.rules.limit, .slice q8 D.hands.length d8, .slice q9 D.stock.length d9, .slice q10 D.heap.length d10, .int .i64 D.turn, .int .i64 D.moves, .int .i64 D.passes] 32 (0, 0)) ∧ OwnGame (In lo (wx.setRow r #[.int .i64 D.rules.players, .int .i64 D.rules.each, .bool D.rules.sameSuit, .bool D.rules.sameRank, .slice q4 D.rules.wild.length d4, .slice q5 D.rules.skip.length d5, .int .i64 D.rules.take, .int .i64 D.rules.limit, .slice q8 D.hands.length d8, .slice q9 D.stock.length d9, .slice q10 D.heap.length d10, .int .i64 D.turn, .int .i64 D.moves, .int .i64 D.passes]).heap.size) (wx.setRow r #[.int .i64 D.rules.players, .int .i64 D.rules.each, .bool D.rules.sameSuit, .bool D.rules.sameRank, .slice q4 D.rules.wild.length d4, .slice q5 D.rules.skip.length d5, .int .i64 D.rules.take, .int .i64 D.rules.limit, .slice q8 D.hands.length d8, .slice q9 D.stock.length d9, .slice q10 D.heap.length d10, .int .i64 D.turn, .int .i64 D.moves, .int .i64 D.passes]) (.agg #[.int .i64 D.rules.players, .int .i64 D.rules.each, .bool D.rules.sameSuit, .bool D.rules.sameRank, .slice q4 D.rules.wild.length d4, .slice q5 D.rules.skip.length d5, .int .i64 D.rules.take, .int .i64 D.rules.limit, .slice q8 D.hands.length d8, .slice q9 D.stock.length d9, .slice q10 D.heap.length d10, .int .i64 D.turn, .int .i64 D.moves, .int .i64 D.passes]) D ∧ Below lo w0 (wx.setRow r #[.int .i64 D.rules.players, .int .i64 D.rules.each, .bool D.rules.sameSuit, .bool D.rules.sameRank, .slice q4 D.rules.wild.length d4, .slice q5 D.rules.skip.length d5, .int .i64 D.rules.take, .int .i64 D.rules.limit, .slice q8 D.hands.length d8, .slice q9 D.stock.length d9, .slice q10 D.heap.length d10, .int .i64 D.turn, .int .i64 D.moves, .int .i64 D.passes]) := by
  have tR := touch_setRow wx r #[.int .i64 D.rules.players, .int .i64 D.rules.each, .bool D.rules.sameSuit, .bool D.rules.sameRank, .slice q4 D.rules.wild.length d4, .slice q5 D.rules.skip.length d5, .int .i64 D.rules.take, .int .i64 D.rules.limit, .slice q8 D.hands.length d8, .slice q9 D.stock.length d9, .slice q10 D.heap.length d10, .int .i64 D.turn, .int .i64 D.moves, .int .i64 D.passes]
  have hs : (wx.setRow r #[.int .i64 D.rules.players, .int .i64 D.rules.each, .bool D.rules.sameSuit, .bool D.rules.sameRank, .slice q4 D.rules.wild.length d4, .slice q5 D.rules.skip.length d5, .int .i64 D.rules.take, .int .i64 D.rules.limit, .slice q8 D.hands.length d8, .slice q9 D.stock.length d9, .slice q10 D.heap.length d10, .int .i64 D.turn, .int .i64 D.moves, .int .i64 D.passes]).heap.size = wx.heap.size := by simp [World.setRow]
  refine ⟨setRow_heap _ _ _ _ _ _ g1, ⟨q4, q5, q8, q9, q10, d4, d5, d8, d9, d10, In l0 u0, In l8 u8, In l9 u9, In l10 u10, rfl, h0.touch tR (fun b hb e => by have := hb.1; omega), h8.touch tR (fun b hb e => by have := hb.1; omega), h9.touch tR (fun b hb e => by have := hb.1; omega), h10.touch tR (fun b hb e => by have := hb.1; omega), ?_, ?_, ?_, ?_, ?_, ?_, ?_, ?_, ?_, ?_, wf0, wf1, wf2⟩, below_setRow B hr _⟩
  · intro b hb; obtain ⟨h1, h2⟩ := hb; exact ⟨by omega, by omega⟩
  · intro b hb; obtain ⟨h1, h2⟩ := hb; exact ⟨by omega, by omega⟩
  · intro b hb; obtain ⟨h1, h2⟩ := hb; exact ⟨by omega, by omega⟩
  · intro b hb; obtain ⟨h1, h2⟩ := hb; exact ⟨by omega, by omega⟩
  all_goals (intro b hb hc; obtain ⟨h1, h2⟩ := hb; obtain ⟨h3, h4⟩ := hc; omega)
end Go.Proofs.YtmhbonbjnpcpeaaGreatDoor
namespace Go.Proofs.YtmhbonbjnpcpeaaGreatDoor
open Go.RowKit
set_option linter.unusedVariables false
set_option linter.unusedSimpArgs false

def OG (lo o : Nat) (w : World) (D : MGame) (cs : Array Value) : Prop := w.heap[o]? = some (.cells cs 32 (0, 0)) ∧ OwnGame (fun b => lo ≤ b ∧ b < w.heap.size ∧ b ≠ o) w (.agg cs) D
theorem OG.below {lo o : Nat} {w w' : World} {D : MGame} {cs : Array Value} (h : OG lo o w D cs) (b : Below w.heap.size w w') : OG lo o w' D cs :=
  ⟨(b.block _ (Array.getElem?_eq_some_iff.1 h.1).1).trans h.1, (h.2.below b).mono (fun k hk => ⟨hk.1, Nat.lt_of_lt_of_le hk.2.1 b.size, hk.2.2⟩)⟩
theorem OG.lt {lo o : Nat} {w : World} {D : MGame} {cs : Array Value} (h : OG lo o w D cs) : o < w.heap.size := (Array.getElem?_eq_some_iff.1 h.1).1
theorem OG.rd {lo o : Nat} {w : World} {D : MGame} {cs : Array Value} (h : OG lo o w D cs) : RdGame w (.agg cs) D := h.2.wr.rd
theorem OG.shape {lo o : Nat} {w : World} {D : MGame} {cs : Array Value} (h : OG lo o w D cs) : ∃ (p4 p5 p8 p9 p10 : Option Addr) (c4 c5 c8 c9 c10 : Nat), cs = #[.int .i64 D.rules.players, .int .i64 D.rules.each, .bool D.rules.sameSuit, .bool D.rules.sameRank, .slice p4 D.rules.wild.length c4, .slice p5 D.rules.skip.length c5, .int .i64 D.rules.take, .int .i64 D.rules.limit, .slice p8 D.hands.length c8, .slice p9 D.stock.length c9, .slice p10 D.heap.length c10, .int .i64 D.turn, .int .i64 D.moves, .int .i64 D.passes] := by
  obtain ⟨p4, p5, p8, p9, p10, c4, c5, c8, c9, c10, e⟩ := h.rd.shape
  exact ⟨p4, p5, p8, p9, p10, c4, c5, c8, c9, c10, Value.agg.inj e⟩
/-- A copied game laid into a fresh box. -/
theorem OG.box {lo : Nat} {w : World} {D : MGame} {cs : Array Value} (h : OwnGame (In lo w.heap.size) w (.agg cs) D) : OG lo w.heap.size (w.alloc (.cells cs 32)) D cs :=
  ⟨heap_alloc_new _ _, (h.below ((Below.refl _ _).alloc (Nat.le_refl _) _)).mono (fun b hb => ⟨hb.1, by have := hb.2; simp; omega, by have := hb.2; omega⟩)⟩
theorem OG.turn {lo o : Nat} {w : World} {D : MGame} {p4 p5 p8 p9 p10 : Option Addr} {c4 c5 c8 c9 c10 : Nat} (h : OG lo o w D #[.int .i64 D.rules.players, .int .i64 D.rules.each, .bool D.rules.sameSuit, .bool D.rules.sameRank, .slice p4 D.rules.wild.length c4, .slice p5 D.rules.skip.length c5, .int .i64 D.rules.take, .int .i64 D.rules.limit, .slice p8 D.hands.length c8, .slice p9 D.stock.length c9, .slice p10 D.heap.length c10, .int .i64 D.turn, .int .i64 D.moves, .int .i64 D.passes]) {x : Int} (hx : (Lit.int .i64 x).wf = true) :
    OG lo o (w.setCell ⟨o, 11, none⟩ (.int .i64 x)) { D with turn := x } #[.int .i64 D.rules.players, .int .i64 D.rules.each, .bool D.rules.sameSuit, .bool D.rules.sameRank, .slice p4 D.rules.wild.length c4, .slice p5 D.rules.skip.length c5, .int .i64 D.rules.take, .int .i64 D.rules.limit, .slice p8 D.hands.length c8, .slice p9 D.stock.length c9, .slice p10 D.heap.length c10, .int .i64 x, .int .i64 D.moves, .int .i64 D.passes] := by
  obtain ⟨h1, p4', p5', p8', p9', p10', c4', c5', c8', c9', c10', S0, S8, S9, S10, e, h0, h8, h9, h10, s0, s8, s9, s10, d1, d2, d3, d4, d5, d6, wf0, wf1, wf2⟩ := h
  simp at e
  obtain ⟨⟨rfl, rfl⟩, ⟨rfl, rfl⟩, ⟨rfl, rfl⟩, ⟨rfl, rfl⟩, ⟨rfl, rfl⟩⟩ := e
  have t2 := touch_setCell w o 11 (.int .i64 x)
  have hs2 : (w.setCell ⟨o, 11, none⟩ (.int .i64 x)).heap.size = w.heap.size := by simp [World.setCell]
  exact ⟨box_set h1 11 _, p4, p5, p8, p9, p10, c4, c5, c8, c9, c10, S0, S8, S9, S10, rfl, h0.touch t2 (fun b hb e => (s0 b hb).2.2 e), h8.touch t2 (fun b hb e => (s8 b hb).2.2 e), h9.touch t2 (fun b hb e => (s9 b hb).2.2 e), h10.touch t2 (fun b hb e => (s10 b hb).2.2 e), by rw [hs2]; exact s0, by rw [hs2]; exact s8, by rw [hs2]; exact s9, by rw [hs2]; exact s10, d1, d2, d3, d4, d5, d6, hx, wf1, wf2⟩
theorem OG.moves {lo o : Nat} {w : World} {D : MGame} {p4 p5 p8 p9 p10 : Option Addr} {c4 c5 c8 c9 c10 : Nat} (h : OG lo o w D #[.int .i64 D.rules.players, .int .i64 D.rules.each, .bool D.rules.sameSuit, .bool D.rules.sameRank, .slice p4 D.rules.wild.length c4, .slice p5 D.rules.skip.length c5, .int .i64 D.rules.take, .int .i64 D.rules.limit, .slice p8 D.hands.length c8, .slice p9 D.stock.length c9, .slice p10 D.heap.length c10, .int .i64 D.turn, .int .i64 D.moves, .int .i64 D.passes]) {x : Int} (hx : (Lit.int .i64 x).wf = true) :
    OG lo o (w.setCell ⟨o, 12, none⟩ (.int .i64 x)) { D with moves := x } #[.int .i64 D.rules.players, .int .i64 D.rules.each, .bool D.rules.sameSuit, .bool D.rules.sameRank, .slice p4 D.rules.wild.length c4, .slice p5 D.rules.skip.length c5, .int .i64 D.rules.take, .int .i64 D.rules.limit, .slice p8 D.hands.length c8, .slice p9 D.stock.length c9, .slice p10 D.heap.length c10, .int .i64 D.turn, .int .i64 x, .int .i64 D.passes] := by
  obtain ⟨h1, p4', p5', p8', p9', p10', c4', c5', c8', c9', c10', S0, S8, S9, S10, e, h0, h8, h9, h10, s0, s8, s9, s10, d1, d2, d3, d4, d5, d6, wf0, wf1, wf2⟩ := h
  simp at e
  obtain ⟨⟨rfl, rfl⟩, ⟨rfl, rfl⟩, ⟨rfl, rfl⟩, ⟨rfl, rfl⟩, ⟨rfl, rfl⟩⟩ := e
  have t2 := touch_setCell w o 12 (.int .i64 x)
  have hs2 : (w.setCell ⟨o, 12, none⟩ (.int .i64 x)).heap.size = w.heap.size := by simp [World.setCell]
  exact ⟨box_set h1 12 _, p4, p5, p8, p9, p10, c4, c5, c8, c9, c10, S0, S8, S9, S10, rfl, h0.touch t2 (fun b hb e => (s0 b hb).2.2 e), h8.touch t2 (fun b hb e => (s8 b hb).2.2 e), h9.touch t2 (fun b hb e => (s9 b hb).2.2 e), h10.touch t2 (fun b hb e => (s10 b hb).2.2 e), by rw [hs2]; exact s0, by rw [hs2]; exact s8, by rw [hs2]; exact s9, by rw [hs2]; exact s10, d1, d2, d3, d4, d5, d6, wf0, hx, wf2⟩
theorem OG.passes {lo o : Nat} {w : World} {D : MGame} {p4 p5 p8 p9 p10 : Option Addr} {c4 c5 c8 c9 c10 : Nat} (h : OG lo o w D #[.int .i64 D.rules.players, .int .i64 D.rules.each, .bool D.rules.sameSuit, .bool D.rules.sameRank, .slice p4 D.rules.wild.length c4, .slice p5 D.rules.skip.length c5, .int .i64 D.rules.take, .int .i64 D.rules.limit, .slice p8 D.hands.length c8, .slice p9 D.stock.length c9, .slice p10 D.heap.length c10, .int .i64 D.turn, .int .i64 D.moves, .int .i64 D.passes]) {x : Int} (hx : (Lit.int .i64 x).wf = true) :
    OG lo o (w.setCell ⟨o, 13, none⟩ (.int .i64 x)) { D with passes := x } #[.int .i64 D.rules.players, .int .i64 D.rules.each, .bool D.rules.sameSuit, .bool D.rules.sameRank, .slice p4 D.rules.wild.length c4, .slice p5 D.rules.skip.length c5, .int .i64 D.rules.take, .int .i64 D.rules.limit, .slice p8 D.hands.length c8, .slice p9 D.stock.length c9, .slice p10 D.heap.length c10, .int .i64 D.turn, .int .i64 D.moves, .int .i64 x] := by
  obtain ⟨h1, p4', p5', p8', p9', p10', c4', c5', c8', c9', c10', S0, S8, S9, S10, e, h0, h8, h9, h10, s0, s8, s9, s10, d1, d2, d3, d4, d5, d6, wf0, wf1, wf2⟩ := h
  simp at e
  obtain ⟨⟨rfl, rfl⟩, ⟨rfl, rfl⟩, ⟨rfl, rfl⟩, ⟨rfl, rfl⟩, ⟨rfl, rfl⟩⟩ := e
  have t2 := touch_setCell w o 13 (.int .i64 x)
  have hs2 : (w.setCell ⟨o, 13, none⟩ (.int .i64 x)).heap.size = w.heap.size := by simp [World.setCell]
  exact ⟨box_set h1 13 _, p4, p5, p8, p9, p10, c4, c5, c8, c9, c10, S0, S8, S9, S10, rfl, h0.touch t2 (fun b hb e => (s0 b hb).2.2 e), h8.touch t2 (fun b hb e => (s8 b hb).2.2 e), h9.touch t2 (fun b hb e => (s9 b hb).2.2 e), h10.touch t2 (fun b hb e => (s10 b hb).2.2 e), by rw [hs2]; exact s0, by rw [hs2]; exact s8, by rw [hs2]; exact s9, by rw [hs2]; exact s10, d1, d2, d3, d4, d5, d6, wf0, wf1, hx⟩
/-- The stock is replaced: by what lies in its own block or in fresh ones. -/
theorem OG.setStock {lo o : Nat} {w w1 : World} {D : MGame} {p4 p5 p8 p9 p10 : Option Addr} {c4 c5 c8 c9 c10 : Nat} (h : OG lo o w D #[.int .i64 D.rules.players, .int .i64 D.rules.each, .bool D.rules.sameSuit, .bool D.rules.sameRank, .slice p4 D.rules.wild.length c4, .slice p5 D.rules.skip.length c5, .int .i64 D.rules.take, .int .i64 D.rules.limit, .slice p8 D.hands.length c8, .slice p9 D.stock.length c9, .slice p10 D.heap.length c10, .int .i64 D.turn, .int .i64 D.moves, .int .i64 D.passes]) (hlo : lo ≤ w.heap.size) {q : Option Addr} {d n : Nat} {zs : List Int} (hn : n = zs.length) (hg : w.grownBy w1 (Value.slice p9 D.stock.length c9).held) (ho : OwnI (fun b => (Value.slice p9 D.stock.length c9).held = some b ∨ (w.heap.size ≤ b ∧ b < w1.heap.size)) w1 (.slice q n d) zs) :
    OG lo o (w1.setCell ⟨o, 9, none⟩ (.slice q n d)) { D with stock := zs } #[.int .i64 D.rules.players, .int .i64 D.rules.each, .bool D.rules.sameSuit, .bool D.rules.sameRank, .slice p4 D.rules.wild.length c4, .slice p5 D.rules.skip.length c5, .int .i64 D.rules.take, .int .i64 D.rules.limit, .slice p8 D.hands.length c8, .slice q n d, .slice p10 D.heap.length c10, .int .i64 D.turn, .int .i64 D.moves, .int .i64 D.passes] := by
  subst hn
  obtain ⟨h1, p4', p5', p8', p9', p10', c4', c5', c8', c9', c10', S0, S8, S9, S10, e, h0, h8, h9, h10, s0, s8, s9, s10, d1, d2, d3, d4, d5, d6, wf0, wf1, wf2⟩ := h
  simp at e
  obtain ⟨⟨rfl, rfl⟩, ⟨rfl, rfl⟩, ⟨rfl, rfl⟩, ⟨rfl, rfl⟩, ⟨rfl, rfl⟩⟩ := e
  have hol : o < w.heap.size := (Array.getElem?_eq_some_iff.1 h1).1
  have hsz := hg.size
  have t1 : Touch S9 w w1 := ⟨hg.os, hg.tape, hg.output, hg.size, fun k hk hn => hg.block k hk (fun e => hn (h9.held e.symm).1)⟩
  have t2 := touch_setCell w1 o 9 (.slice q zs.length d)
  have hs2 : (w1.setCell ⟨o, 9, none⟩ (.slice q zs.length d)).heap.size = w1.heap.size := by simp [World.setCell]
  have hb2 : ∀ b, (Value.slice p9 D.stock.length c9).held = some b → S9 b := fun b hb => (h9.held hb).1
  have hno : ∀ b, S9 b ∨ (w.heap.size ≤ b ∧ b < w1.heap.size) → b ≠ o := fun b hb e => by
    rcases hb with hb | hb
    · exact (s9 b hb).2.2 e
    · omega
  refine ⟨?_, p4, p5, p8, q, p10, c4, c5, c8, d, c10, S0, S8, (fun b => S9 b ∨ (w.heap.size ≤ b ∧ b < w1.heap.size)), S10, rfl, ((h0.touch t1 (fun b hb e => d2 b hb e)).touch t2 (fun b hb e => (s0 b hb).2.2 e)), ((h8.touch t1 (fun b hb e => d4 b hb e)).touch t2 (fun b hb e => (s8 b hb).2.2 e)), (ho.touch t2 (fun b hb e => hno b (hb.imp (hb2 b) id) e)).mono (fun b hb _ => hb.imp (hb2 b) id), ((h10.touch t1 (fun b hb e => d6 b e hb)).touch t2 (fun b hb e => (s10 b hb).2.2 e)), fun b hb => ⟨(s0 b hb).1, by have := (s0 b hb).2.1; omega, (s0 b hb).2.2⟩, fun b hb => ⟨(s8 b hb).1, by have := (s8 b hb).2.1; omega, (s8 b hb).2.2⟩, fun b hb => ⟨hb.elim (fun e => (s9 b e).1) (fun e => by have := hlo; omega), hb.elim (fun e => by have := (s9 b e).2.1; omega) (fun e => by omega), hno b hb⟩, fun b hb => ⟨(s10 b hb).1, by have := (s10 b hb).2.1; omega, (s10 b hb).2.2⟩, d1, fun b hb hc => hc.elim (d2 b hb) (fun e => by have := (s0 b hb).2.1; omega), d3, fun b hb hc => hc.elim (d4 b hb) (fun e => by have := (s8 b hb).2.1; omega), d5, fun b hb hc => hb.elim (fun e => d6 b e hc) (fun e => by have := (s10 b hc).2.1; omega), wf0, wf1, wf2⟩
  exact box_set ((t1.block o hol (fun e => (s9 o e).2.2 rfl)).trans h1) 9 _
/-- The heap is replaced: by what lies in its own block or in fresh ones. -/
theorem OG.setHeap {lo o : Nat} {w w1 : World} {D : MGame} {p4 p5 p8 p9 p10 : Option Addr} {c4 c5 c8 c9 c10 : Nat} (h : OG lo o w D #[.int .i64 D.rules.players, .int .i64 D.rules.each, .bool D.rules.sameSuit, .bool D.rules.sameRank, .slice p4 D.rules.wild.length c4, .slice p5 D.rules.skip.length c5, .int .i64 D.rules.take, .int .i64 D.rules.limit, .slice p8 D.hands.length c8, .slice p9 D.stock.length c9, .slice p10 D.heap.length c10, .int .i64 D.turn, .int .i64 D.moves, .int .i64 D.passes]) (hlo : lo ≤ w.heap.size) {q : Option Addr} {d n : Nat} {zs : List Int} (hn : n = zs.length) (hg : w.grownBy w1 (Value.slice p10 D.heap.length c10).held) (ho : OwnI (fun b => (Value.slice p10 D.heap.length c10).held = some b ∨ (w.heap.size ≤ b ∧ b < w1.heap.size)) w1 (.slice q n d) zs) :
    OG lo o (w1.setCell ⟨o, 10, none⟩ (.slice q n d)) { D with heap := zs } #[.int .i64 D.rules.players, .int .i64 D.rules.each, .bool D.rules.sameSuit, .bool D.rules.sameRank, .slice p4 D.rules.wild.length c4, .slice p5 D.rules.skip.length c5, .int .i64 D.rules.take, .int .i64 D.rules.limit, .slice p8 D.hands.length c8, .slice p9 D.stock.length c9, .slice q n d, .int .i64 D.turn, .int .i64 D.moves, .int .i64 D.passes] := by
  subst hn
  obtain ⟨h1, p4', p5', p8', p9', p10', c4', c5', c8', c9', c10', S0, S8, S9, S10, e, h0, h8, h9, h10, s0, s8, s9, s10, d1, d2, d3, d4, d5, d6, wf0, wf1, wf2⟩ := h
  simp at e
  obtain ⟨⟨rfl, rfl⟩, ⟨rfl, rfl⟩, ⟨rfl, rfl⟩, ⟨rfl, rfl⟩, ⟨rfl, rfl⟩⟩ := e
  have hol : o < w.heap.size := (Array.getElem?_eq_some_iff.1 h1).1
  have hsz := hg.size
  have t1 : Touch S10 w w1 := ⟨hg.os, hg.tape, hg.output, hg.size, fun k hk hn => hg.block k hk (fun e => hn (h10.held e.symm).1)⟩
  have t2 := touch_setCell w1 o 10 (.slice q zs.length d)
  have hs2 : (w1.setCell ⟨o, 10, none⟩ (.slice q zs.length d)).heap.size = w1.heap.size := by simp [World.setCell]
  have hb2 : ∀ b, (Value.slice p10 D.heap.length c10).held = some b → S10 b := fun b hb => (h10.held hb).1
  have hno : ∀ b, S10 b ∨ (w.heap.size ≤ b ∧ b < w1.heap.size) → b ≠ o := fun b hb e => by
    rcases hb with hb | hb
    · exact (s10 b hb).2.2 e
    · omega
  refine ⟨?_, p4, p5, p8, p9, q, c4, c5, c8, c9, d, S0, S8, S9, (fun b => S10 b ∨ (w.heap.size ≤ b ∧ b < w1.heap.size)), rfl, ((h0.touch t1 (fun b hb e => d3 b hb e)).touch t2 (fun b hb e => (s0 b hb).2.2 e)), ((h8.touch t1 (fun b hb e => d5 b hb e)).touch t2 (fun b hb e => (s8 b hb).2.2 e)), ((h9.touch t1 (fun b hb e => d6 b hb e)).touch t2 (fun b hb e => (s9 b hb).2.2 e)), (ho.touch t2 (fun b hb e => hno b (hb.imp (hb2 b) id) e)).mono (fun b hb _ => hb.imp (hb2 b) id), fun b hb => ⟨(s0 b hb).1, by have := (s0 b hb).2.1; omega, (s0 b hb).2.2⟩, fun b hb => ⟨(s8 b hb).1, by have := (s8 b hb).2.1; omega, (s8 b hb).2.2⟩, fun b hb => ⟨(s9 b hb).1, by have := (s9 b hb).2.1; omega, (s9 b hb).2.2⟩, fun b hb => ⟨hb.elim (fun e => (s10 b e).1) (fun e => by have := hlo; omega), hb.elim (fun e => by have := (s10 b e).2.1; omega) (fun e => by omega), hno b hb⟩, d1, d2, fun b hb hc => hc.elim (d3 b hb) (fun e => by have := (s0 b hb).2.1; omega), d4, fun b hb hc => hc.elim (d5 b hb) (fun e => by have := (s8 b hb).2.1; omega), fun b hb hc => hc.elim (d6 b hb) (fun e => by have := (s9 b hb).2.1; omega), wf0, wf1, wf2⟩
  exact box_set ((t1.block o hol (fun e => (s10 o e).2.2 rfl)).trans h1) 10 _
/-- A hand is replaced. -/
theorem OG.putHand {lo o : Nat} {w w1 : World} {D : MGame} {p4 p5 p8 p9 p10 : Option Addr} {c4 c5 c8 c9 c10 : Nat} (h : OG lo o w D #[.int .i64 D.rules.players, .int .i64 D.rules.each, .bool D.rules.sameSuit, .bool D.rules.sameRank, .slice p4 D.rules.wild.length c4, .slice p5 D.rules.skip.length c5, .int .i64 D.rules.take, .int .i64 D.rules.limit, .slice p8 D.hands.length c8, .slice p9 D.stock.length c9, .slice p10 D.heap.length c10, .int .i64 D.turn, .int .i64 D.moves, .int .i64 D.passes]) (hlo : lo ≤ w.heap.size) {j hb : Nat} {r r' : Value} {zs' : List Int} (hj : j < D.hands.length) (hp : p8 = some ⟨hb, 0, none⟩) (hr : w.cell? ⟨hb, j, none⟩ = some r)
    (hg : w.grownBy w1 r.held) (ho : OwnI (fun b => r.held = some b ∨ (w.heap.size ≤ b ∧ b < w1.heap.size)) w1 r' zs') :
    OG lo o (w1.setCell ⟨hb, j, none⟩ r') { D with hands := D.hands.set j zs' } #[.int .i64 D.rules.players, .int .i64 D.rules.each, .bool D.rules.sameSuit, .bool D.rules.sameRank, .slice p4 D.rules.wild.length c4, .slice p5 D.rules.skip.length c5, .int .i64 D.rules.take, .int .i64 D.rules.limit, .slice p8 (D.hands.set j zs').length c8, .slice p9 D.stock.length c9, .slice p10 D.heap.length c10, .int .i64 D.turn, .int .i64 D.moves, .int .i64 D.passes] := by
  subst hp
  obtain ⟨h1, p4', p5', p8', p9', p10', c4', c5', c8', c9', c10', S0, S8, S9, S10, e, h0, h8, h9, h10, s0, s8, s9, s10, d1, d2, d3, d4, d5, d6, wf0, wf1, wf2⟩ := h
  simp at e
  obtain ⟨⟨rfl, rfl⟩, ⟨rfl, rfl⟩, ⟨rfl, rfl⟩, ⟨rfl, rfl⟩, ⟨rfl, rfl⟩⟩ := e
  have hol : o < w.heap.size := (Array.getElem?_eq_some_iff.1 h1).1
  have hsz := hg.size
  obtain ⟨hb', cap', r0, e1, hS, hbl, hc0, -, hown⟩ := h8.row hj
  have e2 := (Value.slice.inj e1).1
  obtain rfl : hb = hb' := by simpa using e2
  obtain rfl : r0 = r := Option.some.inj (hc0.symm.trans hr)
  have t1 : Touch S8 w w1 := ⟨hg.os, hg.tape, hg.output, hg.size, fun k hk hn => hg.block k hk (fun e => hn (hown.held e.symm).1.1)⟩
  have t2 := touch_setCell w1 hb j r'
  have hs2 : (w1.setCell ⟨hb, j, none⟩ r').heap.size = w1.heap.size := by simp [World.setCell]
  have n8 : OwnR (fun b => S8 b ∨ (w.heap.size ≤ b ∧ b < w1.heap.size)) (w1.setCell ⟨hb, j, none⟩ r') (.slice (some ⟨hb, 0, none⟩) (D.hands.set j zs').length c8) (D.hands.set j zs') := by
    rw [List.length_set]
    exact h8.put hj rfl hr hg ho
  have hne : hb ≠ o := (s8 hb hS).2.2
  refine ⟨?_, p4, p5, some ⟨hb, 0, none⟩, p9, p10, c4, c5, c8, c9, c10, S0, (fun b => S8 b ∨ (w.heap.size ≤ b ∧ b < w1.heap.size)), S9, S10, rfl, (h0.touch t1 (fun b hb e => d1 b hb e)).touch t2 (fun b h e => d1 b h (by rw [show b = hb from e]; exact hS)), n8, (h9.touch t1 (fun b hb e => d4 b e hb)).touch t2 (fun b h e => d4 b (by rw [show b = hb from e]; exact hS) h), (h10.touch t1 (fun b hb e => d5 b e hb)).touch t2 (fun b h e => d5 b (by rw [show b = hb from e]; exact hS) h), fun b hb => ⟨(s0 b hb).1, by have := (s0 b hb).2.1; omega, (s0 b hb).2.2⟩, fun b hb => ⟨hb.elim (fun e => (s8 b e).1) (fun e => by omega), hb.elim (fun e => by have := (s8 b e).2.1; omega) (fun e => by omega), hb.elim (fun e => (s8 b e).2.2) (fun e => by omega)⟩, fun b hb => ⟨(s9 b hb).1, by have := (s9 b hb).2.1; omega, (s9 b hb).2.2⟩, fun b hb => ⟨(s10 b hb).1, by have := (s10 b hb).2.1; omega, (s10 b hb).2.2⟩,
    fun b hb hc => hc.elim (d1 b hb) (fun e => by have := (s0 b hb).2.1; omega), d2, d3, fun b hb hc => hb.elim (fun e => d4 b e hc) (fun e => by have := (s9 b hc).2.1; omega), fun b hb hc => hb.elim (fun e => d5 b e hc) (fun e => by have := (s10 b hc).2.1; omega), d6, wf0, wf1, wf2⟩
  rw [Below.heap_setCell _ _ _ _ (Ne.symm hne)]
  simp only [List.length_set]
  exact (t1.block o hol (fun e => (s8 o e).2.2 rfl)).trans h1
/-- The game laid whole into another box. -/
theorem OG.final {lo lo' o r : Nat} {w0 w : World} {D : MGame} {cs old : Array Value} (h : OG lo o w D cs) (hr : r < lo) (hl : lo' ≤ r) (g : w.heap[r]? = some (.cells old 32 (0, 0))) (B : Below lo' w0 w) :
    (w.setRow r cs).heap[r]? = some (.cells cs 32 (0, 0)) ∧ OwnGame (In lo' (w.setRow r cs).heap.size) (w.setRow r cs) (.agg cs) D ∧ Below lo' w0 (w.setRow r cs) := by
  have hs : (w.setRow r cs).heap.size = w.heap.size := by simp [World.setRow]
  refine ⟨setRow_heap _ _ _ _ _ _ g, (h.2.touch (touch_setRow w r cs) (fun b hb e => by have := hb.1; omega)).mono (fun b hb => ⟨by have := hb.1; omega, by rw [hs]; exact hb.2.1⟩), below_setRow B hl _⟩
end Go.Proofs.YtmhbonbjnpcpeaaGreatDoor
