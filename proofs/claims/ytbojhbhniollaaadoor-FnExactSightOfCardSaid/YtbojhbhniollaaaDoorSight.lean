/-
  SightOf, both sides.
-/
import Derived.Test.YtbojhbhniollaaaDoorDCopyP
import Derived.Test.YtbojhbhniollaaaDoorNSight
import Derived.Test.YtbojhbhniollaaaDoorIsDeal
import Derived.Test.YtbojhbhniollaaaDoorIsDealS
import Derived.Test.YtbojhbhniollaaaDoorSizes
import Derived.Test.YtbojhbhniollaaaDoorSortS
import Derived.Test.YtbojhbhniollaaaDoorIn
namespace Go.Proofs.YtbojhbhniollaaaDoor
open Go.RowKit
set_option linter.unusedVariables false
set_option linter.unusedSimpArgs false

def sightOK (D : MDeal) (me : Int) : Bool := isDeal D && decide (0 ≤ me ∧ me ≤ (D.hands.length : Int) - 1)
def sightD (D : MDeal) (me : Int) : MSight := if sightOK D me then ⟨me, sortI (D.hands.getD me.toNat []), D.trick, D.leader, D.trump, lensI D.hands, D.won⟩ else ⟨0, [], [], 0, 0, [], []⟩
theorem sight_no {D : MDeal} {me : Int} (h : sightOK D me = false) : sightD D me = ⟨0, [], [], 0, 0, [], []⟩ := by unfold sightD; rw [h]; rfl
theorem sight_yes {D : MDeal} {j : Nat} (hj : j < D.hands.length) (h : sightOK D j = true) : sightD D j = ⟨j, sortI D.hands[j], D.trick, D.leader, D.trump, lensI D.hands, D.won⟩ := by unfold sightD; rw [if_pos h]; simp [List.getD, hj]
theorem sightD_few {D : MDeal} (me : Int) (hf : D.Few) : (sightD D me).Few := by
  unfold sightD
  split
  · rename_i h
    obtain ⟨f0, f1, f3, f4, f5⟩ := hf
    unfold sightOK at h
    simp only [Bool.and_eq_true, decide_eq_true_eq] at h
    have hj : me.toNat < D.hands.length := by omega
    refine ⟨?_, f3, ?_, f4⟩
    · show (sortI _).length ≤ _
      rw [sortI_len]
      simp only [List.getD, List.getElem?_eq_getElem hj, Option.getD_some]
      exact Nat.le_trans (len_le_sum D.hands hj) f1
    · show (lensI _).length ≤ _
      rw [lensI_len]; exact f0
  · exact ⟨Nat.zero_le _, Nat.zero_le _, Nat.zero_le _, Nat.zero_le _⟩
/-- A sight laid into its box. -/
theorem sight_laid {lo r l1 u1 l2 u2 l5 u5 l6 u6 d1 d2 d5 d6 : Nat} {w0 wx : World} {q1 q2 q5 q6 : Option Addr} {old : Array Value} {M : MSight} (h1 : WrIn .i64 (In l1 u1) wx (.slice q1 M.hand.length d1) M.hand) (h2 : WrIn .i64 (In l2 u2) wx (.slice q2 M.trick.length d2) M.trick) (h5 : WrIn .i64 (In l5 u5) wx (.slice q5 M.sizes.length d5) M.sizes) (h6 : WrIn .i64 (In l6 u6) wx (.slice q6 M.won.length d6) M.won)
    (i1 : lo ≤ l1 ∧ u1 ≤ wx.heap.size) (i2 : lo ≤ l2 ∧ u2 ≤ wx.heap.size) (i5 : lo ≤ l5 ∧ u5 ≤ wx.heap.size) (i6 : lo ≤ l6 ∧ u6 ≤ wx.heap.size)
    (x1 : u1 ≤ l2 ∨ u2 ≤ l1) (x2 : u1 ≤ l5 ∨ u5 ≤ l1) (x3 : u1 ≤ l6 ∨ u6 ≤ l1) (x4 : u2 ≤ l5 ∨ u5 ≤ l2) (x5 : u2 ≤ l6 ∨ u6 ≤ l2) (x6 : u5 ≤ l6 ∨ u6 ≤ l5)
    (wf0 : (Lit.int .i64 M.me).wf = true) (wf1 : (Lit.int .i64 M.leader).wf = true) (wf2 : (Lit.int .i64 M.trump).wf = true) (r1 : r < l1 ∨ u1 ≤ r) (r2 : r < l2 ∨ u2 ≤ r) (r5 : r < l5 ∨ u5 ≤ r) (r6 : r < l6 ∨ u6 ≤ r) (hr : lo ≤ r) (g1 : wx.heap[r]? = some (.cells old 28 (0, 0))) (B : Below lo w0 wx) :
    (wx.setRow r #[.int .i64 M.me, .slice q1 M.hand.length d1, .slice q2 M.trick.length d2, .int .i64 M.leader, .int .i64 M.trump, .slice q5 M.sizes.length d5, .slice q6 M.won.length d6]).heap[r]? = some (.cells #[.int .i64 M.me, .slice q1 M.hand.length d1, .slice q2 M.trick.length d2, .int .i64 M.leader, .int .i64 M.trump, .slice q5 M.sizes.length d5, .slice q6 M.won.length d6] 28 (0, 0)) ∧ WrSight (In lo (wx.setRow r #[.int .i64 M.me, .slice q1 M.hand.length d1, .slice q2 M.trick.length d2, .int .i64 M.leader, .int .i64 M.trump, .slice q5 M.sizes.length d5, .slice q6 M.won.length d6]).heap.size) (wx.setRow r #[.int .i64 M.me, .slice q1 M.hand.length d1, .slice q2 M.trick.length d2, .int .i64 M.leader, .int .i64 M.trump, .slice q5 M.sizes.length d5, .slice q6 M.won.length d6]) (.agg #[.int .i64 M.me, .slice q1 M.hand.length d1, .slice q2 M.trick.length d2, .int .i64 M.leader, .int .i64 M.trump, .slice q5 M.sizes.length d5, .slice q6 M.won.length d6]) M ∧ Below lo w0 (wx.setRow r #[.int .i64 M.me, .slice q1 M.hand.length d1, .slice q2 M.trick.length d2, .int .i64 M.leader, .int .i64 M.trump, .slice q5 M.sizes.length d5, .slice q6 M.won.length d6]) := by
  have tR := touchRow wx r #[.int .i64 M.me, .slice q1 M.hand.length d1, .slice q2 M.trick.length d2, .int .i64 M.leader, .int .i64 M.trump, .slice q5 M.sizes.length d5, .slice q6 M.won.length d6]
  have hs : (wx.setRow r #[.int .i64 M.me, .slice q1 M.hand.length d1, .slice q2 M.trick.length d2, .int .i64 M.leader, .int .i64 M.trump, .slice q5 M.sizes.length d5, .slice q6 M.won.length d6]).heap.size = wx.heap.size := by simp [World.setRow]
  refine ⟨setRow_heap _ _ _ _ _ _ g1, ⟨q1, q2, q5, q6, d1, d2, d5, d6, In l1 u1, In l2 u2, In l5 u5, In l6 u6, rfl, h1.touch tR (fun b hb e => by have := hb.1; have := hb.2; omega), h2.touch tR (fun b hb e => by have := hb.1; have := hb.2; omega), h5.touch tR (fun b hb e => by have := hb.1; have := hb.2; omega), h6.touch tR (fun b hb e => by have := hb.1; have := hb.2; omega), ?_, ?_, ?_, ?_, ?_, ?_, ?_, ?_, ?_, ?_, wf0, wf1, wf2⟩, below_setRow B hr _⟩
  · intro b hb; obtain ⟨h1, h2⟩ := hb; exact ⟨by omega, by omega⟩
  · intro b hb; obtain ⟨h1, h2⟩ := hb; exact ⟨by omega, by omega⟩
  · intro b hb; obtain ⟨h1, h2⟩ := hb; exact ⟨by omega, by omega⟩
  · intro b hb; obtain ⟨h1, h2⟩ := hb; exact ⟨by omega, by omega⟩
  all_goals (intro b hb hc; obtain ⟨h1, h2⟩ := hb; obtain ⟨h3, h4⟩ := hc; omega)
theorem sight_zero (S : Nat → Prop) (w : World) : WrSight S w (.agg #[.int .i64 0, .slice none 0 0, .slice none 0 0, .int .i64 0, .int .i64 0, .slice none 0 0, .slice none 0 0]) ⟨0, [], [], 0, 0, [], []⟩ := by
  refine ⟨none, none, none, none, 0, 0, 0, 0, fun _ => False, fun _ => False, fun _ => False, fun _ => False, rfl, (OwnI.nil _ _ none).wr, (OwnI.nil _ _ none).wr, (OwnI.nil _ _ none).wr, (OwnI.nil _ _ none).wr, ?_⟩
  refine ⟨?_, ?_, ?_, ?_, ?_, ?_, ?_, ?_, ?_, ?_, by decide, by decide, by decide⟩ <;> (intro b hb; cases hb)
/-- A sight in a box of the call's own, its sizes growing. -/
def SB (lo r : Nat) (w : World) (M : MSight) (q5 : Option Addr) (d5 : Nat) : Prop :=
  ∃ (q1 q2 q6 : Option Addr) (d1 d2 d6 : Nat) (S1 S2 S5 S6 : Nat → Prop), lo ≤ r ∧ w.heap[r]? = some (.cells #[.int .i64 M.me, .slice q1 M.hand.length d1, .slice q2 M.trick.length d2, .int .i64 M.leader, .int .i64 M.trump, .slice q5 M.sizes.length d5, .slice q6 M.won.length d6] 28 (0, 0)) ∧ WrIn .i64 S1 w (.slice q1 M.hand.length d1) M.hand ∧ WrIn .i64 S2 w (.slice q2 M.trick.length d2) M.trick ∧ OwnI S5 w (.slice q5 M.sizes.length d5) M.sizes ∧ WrIn .i64 S6 w (.slice q6 M.won.length d6) M.won ∧ (∀ b, S1 b → lo ≤ b ∧ b < w.heap.size ∧ b ≠ r) ∧ (∀ b, S2 b → lo ≤ b ∧ b < w.heap.size ∧ b ≠ r) ∧ (∀ b, S5 b → lo ≤ b ∧ b < w.heap.size ∧ b ≠ r) ∧ (∀ b, S6 b → lo ≤ b ∧ b < w.heap.size ∧ b ≠ r) ∧ (∀ b, S1 b → ¬ S2 b) ∧ (∀ b, S1 b → ¬ S5 b) ∧ (∀ b, S1 b → ¬ S6 b) ∧ (∀ b, S2 b → ¬ S5 b) ∧ (∀ b, S2 b → ¬ S6 b) ∧ (∀ b, S5 b → ¬ S6 b)
theorem SB.below {lo r : Nat} {w w' : World} {M : MSight} {q5 : Option Addr} {d5 : Nat} (h : SB lo r w M q5 d5) (b : Below w.heap.size w w') : SB lo r w' M q5 d5 := by
  obtain ⟨q1, q2, q6, d1, d2, d6, S1, S2, S5, S6, hlo, g, h1, h2, h5, h6, s1, s2, s5, s6, x⟩ := h
  have hs := b.size
  exact ⟨q1, q2, q6, d1, d2, d6, S1, S2, S5, S6, hlo, (b.block _ (Array.getElem?_eq_some_iff.1 g).1).trans g, h1.below b, h2.below b, h5.below b, h6.below b, fun y hy => ⟨(s1 y hy).1, Nat.lt_of_lt_of_le (s1 y hy).2.1 hs, (s1 y hy).2.2⟩, fun y hy => ⟨(s2 y hy).1, Nat.lt_of_lt_of_le (s2 y hy).2.1 hs, (s2 y hy).2.2⟩, fun y hy => ⟨(s5 y hy).1, Nat.lt_of_lt_of_le (s5 y hy).2.1 hs, (s5 y hy).2.2⟩, fun y hy => ⟨(s6 y hy).1, Nat.lt_of_lt_of_le (s6 y hy).2.1 hs, (s6 y hy).2.2⟩, x⟩
theorem SB.sizes {lo r : Nat} {w w' : World} {M : MSight} {q5 q5' : Option Addr} {d5 d5' : Nat} {z : Int} (h : SB lo r w M q5 d5) (gr : w.grownBy w' (Value.slice q5 M.sizes.length d5).held) (o : OwnI (fun b => (Value.slice q5 M.sizes.length d5).held = some b ∨ (w.heap.size ≤ b ∧ b < w'.heap.size)) w' (.slice q5' (M.sizes.length + 1) d5') (M.sizes ++ [z])) :
    SB lo r (w'.setCell ⟨r, 5, none⟩ (.slice q5' (M.sizes.length + 1) d5')) { M with sizes := M.sizes ++ [z] } q5' d5' := by
  obtain ⟨q1, q2, q6, d1, d2, d6, S1, S2, S5, S6, hlo, g, h1, h2, h5, h6, s1, s2, s5, s6, x12, x15, x16, x25, x26, x56⟩ := h
  have hh : ∀ b, (Value.slice q5 M.sizes.length d5).held = some b → S5 b := fun b hb => (h5.held hb).1
  have t1 : Touch (fun k => (Value.slice q5 M.sizes.length d5).held = some k) w w' := ⟨gr.os, gr.tape, gr.output, gr.size, fun k hk hn => gr.block k hk (fun e => hn e.symm)⟩
  have t2 := touchCell w' r 5 (.slice q5' (M.sizes.length + 1) d5')
  have hs := gr.size
  have hs2 : (w'.setCell ⟨r, 5, none⟩ (.slice q5' (M.sizes.length + 1) d5')).heap.size = w'.heap.size := by simp [World.setCell]
  have hrl := (Array.getElem?_eq_some_iff.1 g).1
  have g' : w'.heap[r]? = some (.cells #[.int .i64 M.me, .slice q1 M.hand.length d1, .slice q2 M.trick.length d2, .int .i64 M.leader, .int .i64 M.trump, .slice q5 M.sizes.length d5, .slice q6 M.won.length d6] 28 (0, 0)) := (t1.block r hrl (fun e => (s5 r (hh r e)).2.2 rfl)).trans g
  have g2 := box_set g' 5 (.slice q5' (M.sizes.length + 1) d5')
  simp only [List.setIfInBounds_toArray, List.set_cons_zero, List.set_cons_succ] at g2
  have el : (M.sizes ++ [z]).length = M.sizes.length + 1 := by simp
  refine ⟨q1, q2, q6, d1, d2, d6, S1, S2, fun b => (Value.slice q5 M.sizes.length d5).held = some b ∨ (w.heap.size ≤ b ∧ b < w'.heap.size), S6, hlo, ?_, (h1.touch t1 (fun b hb e => x15 b hb (hh b e))).touch t2 (fun b hb e => (s1 b hb).2.2 e), (h2.touch t1 (fun b hb e => x25 b hb (hh b e))).touch t2 (fun b hb e => (s2 b hb).2.2 e), ?_, (h6.touch t1 (fun b hb e => x56 b (hh b e) hb)).touch t2 (fun b hb e => (s6 b hb).2.2 e), fun y hy => ⟨(s1 y hy).1, by have := (s1 y hy).2.1; omega, (s1 y hy).2.2⟩, fun y hy => ⟨(s2 y hy).1, by have := (s2 y hy).2.1; omega, (s2 y hy).2.2⟩, ?_, fun y hy => ⟨(s6 y hy).1, by have := (s6 y hy).2.1; omega, (s6 y hy).2.2⟩, x12, ?_, x16, ?_, x26, ?_⟩
  · show _ = some (Obj.cells #[.int .i64 M.me, .slice q1 M.hand.length d1, .slice q2 M.trick.length d2, .int .i64 M.leader, .int .i64 M.trump, .slice q5' (M.sizes ++ [z]).length d5', .slice q6 M.won.length d6] 28 (0, 0))
    rw [el]; exact g2
  · show OwnI _ _ (.slice q5' (M.sizes ++ [z]).length d5') _
    rw [el]
    exact o.touch t2 (fun b hb e => by
      rcases hb with hb | hb
      · exact (s5 b (hh b hb)).2.2 e
      · omega)
  · intro y hy
    rcases hy with hy | hy
    · have := s5 y (hh y hy); exact ⟨this.1, by omega, this.2.2⟩
    · exact ⟨by omega, by omega, by omega⟩
  · intro b hb hc
    rcases hc with hc | hc
    · exact x15 b hb (hh b hc)
    · have := (s1 b hb).2.1; omega
  · intro b hb hc
    rcases hc with hc | hc
    · exact x25 b hb (hh b hc)
    · have := (s2 b hb).2.1; omega
  · intro b hc hb
    rcases hc with hc | hc
    · exact x56 b (hh b hc) hb
    · have := (s6 b hb).2.1; omega
theorem SB.final {lo lo' r o : Nat} {w0 w : World} {M : MSight} {q5 : Option Addr} {d5 : Nat} {old : Array Value} (h : SB lo r w M q5 d5) (ho : o < lo) (hlo : lo' ≤ o) (g1 : w.heap[o]? = some (.cells old 28 (0, 0))) (B : Below lo' w0 w) (wf0 : (Lit.int .i64 M.me).wf = true) (wf1 : (Lit.int .i64 M.leader).wf = true) (wf2 : (Lit.int .i64 M.trump).wf = true) :
    ∃ (q1 q2 q6 : Option Addr) (d1 d2 d6 : Nat), w.heap[r]? = some (.cells #[.int .i64 M.me, .slice q1 M.hand.length d1, .slice q2 M.trick.length d2, .int .i64 M.leader, .int .i64 M.trump, .slice q5 M.sizes.length d5, .slice q6 M.won.length d6] 28 (0, 0)) ∧ (w.setRow o #[.int .i64 M.me, .slice q1 M.hand.length d1, .slice q2 M.trick.length d2, .int .i64 M.leader, .int .i64 M.trump, .slice q5 M.sizes.length d5, .slice q6 M.won.length d6]).heap[o]? = some (.cells #[.int .i64 M.me, .slice q1 M.hand.length d1, .slice q2 M.trick.length d2, .int .i64 M.leader, .int .i64 M.trump, .slice q5 M.sizes.length d5, .slice q6 M.won.length d6] 28 (0, 0)) ∧ WrSight (In lo' (w.setRow o #[.int .i64 M.me, .slice q1 M.hand.length d1, .slice q2 M.trick.length d2, .int .i64 M.leader, .int .i64 M.trump, .slice q5 M.sizes.length d5, .slice q6 M.won.length d6]).heap.size) (w.setRow o #[.int .i64 M.me, .slice q1 M.hand.length d1, .slice q2 M.trick.length d2, .int .i64 M.leader, .int .i64 M.trump, .slice q5 M.sizes.length d5, .slice q6 M.won.length d6]) (.agg #[.int .i64 M.me, .slice q1 M.hand.length d1, .slice q2 M.trick.length d2, .int .i64 M.leader, .int .i64 M.trump, .slice q5 M.sizes.length d5, .slice q6 M.won.length d6]) M ∧ Below lo' w0 (w.setRow o #[.int .i64 M.me, .slice q1 M.hand.length d1, .slice q2 M.trick.length d2, .int .i64 M.leader, .int .i64 M.trump, .slice q5 M.sizes.length d5, .slice q6 M.won.length d6]) := by
  obtain ⟨q1, q2, q6, d1, d2, d6, S1, S2, S5, S6, hlr, g, h1, h2, h5, h6, s1, s2, s5, s6, x12, x15, x16, x25, x26, x56⟩ := h
  have tR := touchRow w o #[.int .i64 M.me, .slice q1 M.hand.length d1, .slice q2 M.trick.length d2, .int .i64 M.leader, .int .i64 M.trump, .slice q5 M.sizes.length d5, .slice q6 M.won.length d6]
  have hs : (w.setRow o #[.int .i64 M.me, .slice q1 M.hand.length d1, .slice q2 M.trick.length d2, .int .i64 M.leader, .int .i64 M.trump, .slice q5 M.sizes.length d5, .slice q6 M.won.length d6]).heap.size = w.heap.size := by simp [World.setRow]
  refine ⟨q1, q2, q6, d1, d2, d6, g, setRow_heap _ _ _ _ _ _ g1, ⟨q1, q2, q5, q6, d1, d2, d5, d6, S1, S2, S5, S6, rfl, h1.touch tR (fun b hb e => by have := (s1 b hb).1; omega), h2.touch tR (fun b hb e => by have := (s2 b hb).1; omega), h5.wr.touch tR (fun b hb e => by have := (s5 b hb).1; omega), h6.touch tR (fun b hb e => by have := (s6 b hb).1; omega), fun b hb => ⟨by have := (s1 b hb).1; omega, by have := (s1 b hb).2.1; omega⟩, fun b hb => ⟨by have := (s2 b hb).1; omega, by have := (s2 b hb).2.1; omega⟩, fun b hb => ⟨by have := (s5 b hb).1; omega, by have := (s5 b hb).2.1; omega⟩, fun b hb => ⟨by have := (s6 b hb).1; omega, by have := (s6 b hb).2.1; omega⟩, x12, x15, x16, x25, x26, x56, wf0, wf1, wf2⟩, below_setRow B hlo _⟩
set_option maxRecDepth 100000 in
set_option maxHeartbeats 4000000 in
theorem sSightOf_any (v : Value) (D : MDeal) (me : Int) (w : World) (h : RdDeal w v D) (hf : D.Few) :
    Calls Tryd.prog 9 #[v, .int .i64 me] w fun e w' => ∃ v', e = .returned (.tuple #[v', .bool (sightOK D me)]) ∧ WrSight (In w.heap.size w'.heap.size) w' v' (sightD D me) ∧ Below w.heap.size w w' := by
  obtain ⟨p0, p3, p4, p5, c0, c3, c4, c5, ev⟩ := h.shape
  subst ev
  obtain ⟨W0, hW0⟩ : ∃ W, W = (w.alloc (.cells #[.slice p0 D.hands.length c0, .int .i64 D.leader, .int .i64 D.trump, .slice p3 D.trick.length c3, .slice p4 D.won.length c4, .slice p5 D.points.length c5, .int .i64 D.left] 31)).alloc (.cells #[.int .i64 0, .slice none 0 0, .slice none 0 0, .int .i64 0, .int .i64 0, .slice none 0 0, .slice none 0 0] 28) := ⟨_, rfl⟩
  have G0 : W0.heap[w.heap.size]? = some (.cells #[.slice p0 D.hands.length c0, .int .i64 D.leader, .int .i64 D.trump, .slice p3 D.trick.length c3, .slice p4 D.won.length c4, .slice p5 D.points.length c5, .int .i64 D.left] 31 (0, 0)) := by rw [hW0]; exact heap_alloc2_old _ _ _
  have G1 : W0.heap[w.heap.size + 1]? = some (.cells #[.int .i64 0, .slice none 0 0, .slice none 0 0, .int .i64 0, .int .i64 0, .slice none 0 0, .slice none 0 0] 28 (0, 0)) := by rw [hW0]; exact heap_alloc2_new _ _ _
  have hsz : W0.heap.size = w.heap.size + 2 := by rw [hW0]; simp
  have B0 : Below w.heap.size w W0 := by rw [hW0]; exact ((Below.refl _ _).alloc (Nat.le_refl _) _).alloc (by simp) _
  have hfw := hf
  obtain ⟨f0, fs0, f3, f4, -⟩ := hfw
  obtain ⟨hr0, b3, h3, b4, h4, wf0, wf1⟩ : RdRows .i64 w (.slice p0 D.hands.length c0) D.hands ∧ ∃ b3, RdAt .i64 w (.slice p3 D.trick.length c3) D.trick b3 ∧ ∃ b4, RdAt .i64 w (.slice p4 D.won.length c4) D.won b4 ∧ (Lit.int .i64 D.leader).wf = true ∧ (Lit.int .i64 D.trump).wf = true := by
    obtain ⟨v0, v3, v4, v5, b3, b4, b5, e, h0, h3, h4, -, w0, w1, -⟩ := id h
    simp at e
    obtain ⟨rfl, rfl, rfl, -⟩ := e
    exact ⟨h0, b3, h3, b4, h4, w0, w1⟩
  have HI := Lib.hid (fun wx (hb : Below w.heap.size w wx) => sIsDeal_any _ D wx (h.below hb) hf _ rfl)
  have HRd := Lib.hid (fun wx (hb : Below w.heap.size w wx) => And.intro (hr0.below hb) (And.intro (h3.below hb) (h4.below hb)))
  have Hsum : Hid (∀ j (hj : j < D.hands.length), D.hands[j].length ≤ 1048576) := Lib.hid (fun j hj => Nat.le_trans (len_le_sum D.hands hj) fs0)
  have HW := Lib.hid hW0
  have HG : Hid (∀ wx, Below W0.heap.size W0 wx → wx.heap[w.heap.size]? = some (.cells #[.slice p0 D.hands.length c0, .int .i64 D.leader, .int .i64 D.trump, .slice p3 D.trick.length c3, .slice p4 D.won.length c4, .slice p5 D.points.length c5, .int .i64 D.left] 31 (0, 0)) ∧ wx.heap[w.heap.size + 1]? = some (.cells #[.int .i64 0, .slice none 0 0, .slice none 0 0, .int .i64 0, .int .i64 0, .slice none 0 0, .slice none 0 0] 28 (0, 0)) ∧ Below w.heap.size w wx) := Lib.hid (fun wx hb => ⟨(hb.block _ (by omega)).trans G0, (hb.block _ (by omega)).trans G1, B0.trans (hb.mono B0.size)⟩)
  have Hsz := Lib.hid hsz
  have Hf := Lib.hid (And.intro f0 (And.intro fs0 (And.intro f3 f4)))
  have Hwf := Lib.hid (And.intro wf0 wf1)
  clear h hf hr0 h3 h4 hW0 G0 G1 hsz B0 f0 fs0 f3 f4 wf0 wf1
  go_enter Tryd.func9, Tryd.ntmps9
  go_upto_region 1 with fail
  rw [← HW.out]
  obtain ⟨G0, G1, B0⟩ := HG.out W0 (Below.refl _ _)
  refine wp_region_lit ?_
  refine wpList_load_row rfl 31 _ rfl w.heap.size rfl 31 _ _ _ G0 Tryd.underlying31 rfl (by kernel_rfl) ?_
  clear G0 G1
  go_wp2_with fail
  refine (HI.out _ B0).mono ?_
  rintro e w2 ⟨rfl, B2⟩
  clear B0 HI
  obtain ⟨G0, G1, B0⟩ := HG.out w2 B2
  cases hd : isDeal D with
  | false =>
    have hok : sightOK D me = false := by unfold sightOK; rw [hd]; rfl
    have HOK := Lib.hid hok
    have HE := Lib.hid (sight_no hok)
    have N2 := Lib.hid (And.intro (setRow_heap w2 (w.heap.size + 1) _ #[.int .i64 0, .slice none 0 0, .slice none 0 0, .int .i64 0, .int .i64 0, .slice none 0 0, .slice none 0 0] _ _ G1) (below_setRow B0 (Nat.le_succ _) #[.int .i64 0, .slice none 0 0, .slice none 0 0, .int .i64 0, .int .i64 0, .slice none 0 0, .slice none 0 0]))
    clear hok G0 B0 B2 hd
    go_upto_region 2 with fail
    refine wp_region_lit ?_
    refine wpList_plain (by rfl) (fun K hK => ?_)
    go_simp
    refine hK _ _ ?_
    clear hK K
    refine wpList_store_row rfl 28 _ _ rfl (w.heap.size + 1) #[.int .i64 0, .slice none 0 0, .slice none 0 0, .int .i64 0, .int .i64 0, .slice none 0 0, .slice none 0 0] rfl rfl 28 _ G1 (by kernel_rfl) rfl (by simp [Value.oneCell']) ?_
    clear G1
    go_wp2_with fail
    refine bodyPost_ret (results_row_tmp rfl _ _ (w.heap.size + 1) _ _ _ _ rfl N2.out.1 Tryd.underlying28 rfl (by kernel_rfl)) rfl ?_
    rw [HOK.out, HE.out]
    exact ⟨_, rfl, sight_zero _ _, N2.out.2⟩
  | true =>
    have f0' := Hf.out.1
    by_cases hme : 0 ≤ me ∧ me ≤ (D.hands.length : Int) - 1
    rotate_left
    · have hok : sightOK D me = false := by unfold sightOK; rw [decide_eq_false hme]; simp
      have HJ := Lib.hid (fun wx => inM_any me 0 ((D.hands.length : Int) - 1) wx false (decide_eq_false hme).symm)
      have z0 := box_cell G0 0
      simp at z0
      have HG2 := Lib.hid (And.intro G1 B0)
      have hwr : IntKind.i64.wrap ((D.hands.length : Int) - 1) = (D.hands.length : Int) - 1 := by rw [IntKind.wrap_i64]; omega
      clear G0 G1 B0 hme hd
      go_wp2_with fail
      refine (HJ.out _).mono ?_
      rintro e _w ⟨rfl, rfl⟩
      obtain ⟨G1, B0⟩ := HG2.out
      clear z0
      have HOK := Lib.hid hok
      have HE := Lib.hid (sight_no hok)
      have N2 := Lib.hid (And.intro (setRow_heap w2 (w.heap.size + 1) _ #[.int .i64 0, .slice none 0 0, .slice none 0 0, .int .i64 0, .int .i64 0, .slice none 0 0, .slice none 0 0] _ _ G1) (below_setRow B0 (Nat.le_succ _) #[.int .i64 0, .slice none 0 0, .slice none 0 0, .int .i64 0, .int .i64 0, .slice none 0 0, .slice none 0 0]))
      clear hok B0 B2
      go_upto_region 2 with fail
      refine wp_region_lit ?_
      refine wpList_plain (by rfl) (fun K hK => ?_)
      go_simp
      refine hK _ _ ?_
      clear hK K
      refine wpList_store_row rfl 28 _ _ rfl (w.heap.size + 1) #[.int .i64 0, .slice none 0 0, .slice none 0 0, .int .i64 0, .int .i64 0, .slice none 0 0, .slice none 0 0] rfl rfl 28 _ G1 (by kernel_rfl) rfl (by simp [Value.oneCell']) ?_
      clear G1
      go_wp2_with fail
      refine bodyPost_ret (results_row_tmp rfl _ _ (w.heap.size + 1) _ _ _ _ rfl N2.out.1 Tryd.underlying28 rfl (by kernel_rfl)) rfl ?_
      rw [HOK.out, HE.out]
      exact ⟨_, rfl, sight_zero _ _, N2.out.2⟩
    obtain ⟨j, rfl⟩ : ∃ n : Nat, me = n := ⟨me.toNat, by omega⟩
    have hj : j < D.hands.length := by omega
    have hok : sightOK D j = true := by unfold sightOK; rw [hd, decide_eq_true hme]; rfl
    have HOK := Lib.hid hok
    have HE := Lib.hid (sight_yes hj hok)
    have HJ := Lib.hid (fun wx => inM_any (j : Int) 0 ((D.hands.length : Int) - 1) wx true (decide_eq_true hme).symm)
    have z0 := box_cell G0 0
    simp at z0
    have hwr : IntKind.i64.wrap ((D.hands.length : Int) - 1) = (D.hands.length : Int) - 1 := by rw [IntKind.wrap_i64]; omega
    have HG2 := Lib.hid (And.intro G0 (And.intro G1 B0))
    clear G0 G1 B0 hok hd hme
    go_wp2_with fail
    refine (HJ.out _).mono ?_
    rintro e _w ⟨rfl, rfl⟩
    clear z0 HJ hwr
    obtain ⟨G0, G1, B0⟩ := HG2.out
    obtain ⟨hr0, h3, h4⟩ := HRd.out w2 B0
    obtain ⟨blk, off, capA, pr, cr, br, hv, hcr, hrr, -⟩ := hr0.row hj
    have hp := (Value.slice.inj hv).1
    subst hp
    have hsm := Hsum.out j hj
    obtain ⟨zr, hzr⟩ : ∃ z, z = D.hands[j] := ⟨_, rfl⟩
    rw [← hzr] at HE hcr hrr hsm
    obtain ⟨f0, fs0, f3, f4⟩ := Hf.out
    obtain ⟨n, hn⟩ : ∃ n, n = D.hands.length := ⟨_, rfl⟩
    have HC : Hid (∀ wx, Below w2.heap.size w2 wx → (wx.cell? ⟨w.heap.size, 0, none⟩ = some (.slice (some ⟨blk, off, none⟩) n c0) ∧ wx.cell? ⟨w.heap.size, 1, none⟩ = some (.int .i64 D.leader) ∧ wx.cell? ⟨w.heap.size, 2, none⟩ = some (.int .i64 D.trump) ∧ wx.cell? ⟨w.heap.size, 3, none⟩ = some (.slice p3 D.trick.length c3) ∧ wx.cell? ⟨w.heap.size, 4, none⟩ = some (.slice p4 D.won.length c4)) ∧ wx.cell? ⟨blk, off + j, none⟩ = some (.slice pr zr.length cr)) := Lib.hid (fun wx hb => by
      have G := (hb.block _ (Array.getElem?_eq_some_iff.1 G0).1).trans G0
      rw [hn]
      refine ⟨⟨?_, ?_, ?_, ?_, ?_⟩, (hb.cell (World.block_lt_of_cell? _ _ hcr)).trans hcr⟩
      all_goals (rw [box_cell G]; rfl))
    have HSo : Hid (∀ wx, Below w2.heap.size w2 wx → Calls Tryd.prog 35 #[.slice pr zr.length cr] wx fun e w' => ∃ v', e = .returned v' ∧ WrIn .i64 (In wx.heap.size w'.heap.size) w' v' (sortI zr) ∧ Below wx.heap.size wx w') := Lib.hid (fun wx hb => (sSorted_any _ zr _ wx (hrr.below hb) (by omega)).mono (fun e w' ⟨v', b', he, hlo, hw, hB⟩ => ⟨v', he, WrIn.of hw hlo, hB⟩))
    have H3 := Lib.hid (fun wx (hb : Below w2.heap.size w2 wx) => And.intro (h3.below hb) f3)
    have H4 := Lib.hid (fun wx (hb : Below w2.heap.size w2 wx) => And.intro (h4.below hb) f4)
    have HR := Lib.hid (fun wx (hb : Below w2.heap.size w2 wx) => hr0.below hb)
    have HF := Lib.hid (And.intro G1 B0)
    have hjn : j < n := by rw [hn]; exact hj
    have Hhn := Lib.hid hn
    have hnl : n ≤ 1048576 := by rw [hn]; exact f0
    clear G0 G1 B0 B2 hr0 h3 h4 hv hcr hrr hsm hzr f0 fs0 f3 f4 hn hj
    go_upto_region 3 with fail
    refine wp_region_table [(0, some 21, .is (.int .i64 (j : Int))), (1, some 22, .is (.pointer (some ⟨w.heap.size, 0, none⟩))), (2, some 23, .is (.slice (some ⟨blk, off, none⟩) n c0)), (3, some 24, .is (.int .i64 (j : Int))), (4, some 25, .is (.pointer (some ⟨blk, off + j, none⟩))), (5, some 26, .is (.slice pr zr.length cr)), (6, some 27, .own (fun S w v => WrIn .i64 S w v (sortI zr)) (fun S w w' v h b => h.below b)), (7, some 28, .zero), (8, some 29, .is (.pointer (some ⟨w.heap.size, 3, none⟩))), (9, some 30, .is (.slice p3 D.trick.length c3)), (10, some 31, .ints D.trick), (11, some 32, .is (.pointer (some ⟨w.heap.size, 1, none⟩))), (12, some 33, .is (.int .i64 D.leader)), (13, some 34, .is (.pointer (some ⟨w.heap.size, 2, none⟩))), (14, some 35, .is (.int .i64 D.trump)), (15, some 36, .zero), (16, some 37, .is (.pointer (some ⟨w.heap.size, 4, none⟩))), (17, some 38, .is (.slice p4 D.won.length c4)), (18, some 39, .ints D.won), (19, some 40, .fn [6, 10, 18] (fun vs => .agg #[.int .i64 (j : Int), vs.getD 0 undef, vs.getD 1 undef, .int .i64 D.leader, .int .i64 D.trump, .slice none 0 0, vs.getD 2 undef])), (20, some 6, .box #[.int .i64 0, .slice none 0 0, .slice none 0 0, .int .i64 0, .int .i64 0, .slice none 0 0, .slice none 0 0] 28)] 1 (by kernel_rfl) (by kernel_rfl) (by kernel_rfl) (by kernel_rfl) (by kernel_rfl) (L := #[true, true, true, true, true, true, true, true, true, true, true, true, true, true, true, true, true, true, true, true, true, false]) (by kernel_rfl) ?steps ?fin
    case steps =>
      refine StepsT.cons [] (by simp only [List.getElem?_toArray, List.getElem?_cons_succ, List.getElem?_cons_zero]; rfl) (by kernel_rfl) (by rfl) (fun wx val iv hB hV K hK => ?_) ?_
      · clear hV; simp only [putT, List.foldl_cons, List.foldl_nil, Made.val, Act.put, List.setIfInBounds_toArray, List.set_cons_zero, List.set_cons_succ]; go_simp; exact hK.out _ _ rfl (Below.refl _ _)
      refine StepsT.cons [] (by simp only [List.getElem?_toArray, List.getElem?_cons_succ, List.getElem?_cons_zero]; rfl) (by kernel_rfl) (by rfl) (fun wx val iv hB hV K hK => ?_) ?_
      · clear hV; simp only [putT, List.foldl_cons, List.foldl_nil, Made.val, Act.put, List.setIfInBounds_toArray, List.set_cons_zero, List.set_cons_succ]; go_simp; exact hK.out _ _ rfl (Below.refl _ _)
      refine StepsT.cons [(1, some 22, .is (.pointer (some ⟨w.heap.size, 0, none⟩)))] (by simp only [List.getElem?_toArray, List.getElem?_cons_succ, List.getElem?_cons_zero]; rfl) (by kernel_rfl) (by rfl) (fun wx val iv hB hV K hK => ?_) ?_
      · (obtain ⟨⟨k0, k1, k2, k3, k4⟩, kr⟩ := HC.out wx hB); clear hV; simp only [putT, List.foldl_cons, List.foldl_nil, Made.val, Act.put, List.setIfInBounds_toArray, List.set_cons_zero, List.set_cons_succ]; go_simp; exact hK.out _ _ rfl (Below.refl _ _)
      refine StepsT.cons [] (by simp only [List.getElem?_toArray, List.getElem?_cons_succ, List.getElem?_cons_zero]; rfl) (by kernel_rfl) (by rfl) (fun wx val iv hB hV K hK => ?_) ?_
      · clear hV; simp only [putT, List.foldl_cons, List.foldl_nil, Made.val, Act.put, List.setIfInBounds_toArray, List.set_cons_zero, List.set_cons_succ]; go_simp; exact hK.out _ _ rfl (Below.refl _ _)
      refine StepsT.cons [(2, some 23, .is (.slice (some ⟨blk, off, none⟩) n c0)), (3, some 24, .is (.int .i64 (j : Int)))] (by simp only [List.getElem?_toArray, List.getElem?_cons_succ, List.getElem?_cons_zero]; rfl) (by kernel_rfl) (by rfl) (fun wx val iv hB hV K hK => ?_) ?_
      · (obtain ⟨⟨k0, k1, k2, k3, k4⟩, kr⟩ := HC.out wx hB); clear hV; simp only [putT, List.foldl_cons, List.foldl_nil, Made.val, Act.put, List.setIfInBounds_toArray, List.set_cons_zero, List.set_cons_succ]; go_simp; exact hK.out _ _ rfl (Below.refl _ _)
      refine StepsT.cons [(4, some 25, .is (.pointer (some ⟨blk, off + j, none⟩)))] (by simp only [List.getElem?_toArray, List.getElem?_cons_succ, List.getElem?_cons_zero]; rfl) (by kernel_rfl) (by rfl) (fun wx val iv hB hV K hK => ?_) ?_
      · (obtain ⟨⟨k0, k1, k2, k3, k4⟩, kr⟩ := HC.out wx hB); clear hV; simp only [putT, List.foldl_cons, List.foldl_nil, Made.val, Act.put, List.setIfInBounds_toArray, List.set_cons_zero, List.set_cons_succ]; go_simp; exact hK.out _ _ rfl (Below.refl _ _)
      refine StepsT.cons [(5, some 26, .is (.slice pr zr.length cr))] (by simp only [List.getElem?_toArray, List.getElem?_cons_succ, List.getElem?_cons_zero]; rfl) (by kernel_rfl) (by rfl) (fun wx val iv hB hV K hK => ?_) ?_
      · (clear hV; simp only [putT, List.foldl_cons, List.foldl_nil, Made.val, Act.put, List.setIfInBounds_toArray, List.set_cons_zero, List.set_cons_succ]; go_simp; go_at_call 35; refine (HSo.out wx hB).mono ?_; rintro e wa ⟨va, rfl, hwa, Ba⟩; exact hK.out _ _ hwa Ba)
      refine StepsT.cons [] (by simp only [List.getElem?_toArray, List.getElem?_cons_succ, List.getElem?_cons_zero]; rfl) (by kernel_rfl) (by rfl) (fun wx val iv hB hV K hK => ?_) ?_
      · simp only [putT, List.foldl_cons, List.foldl_nil, Made.val, Act.put, List.setIfInBounds_toArray, List.set_cons_zero, List.set_cons_succ]; go_simp; exact hK.out _ _ ⟨_, rfl⟩ ((Below.refl _ _).alloc (Nat.le_refl _) _)
      refine StepsT.cons [] (by simp only [List.getElem?_toArray, List.getElem?_cons_succ, List.getElem?_cons_zero]; rfl) (by kernel_rfl) (by rfl) (fun wx val iv hB hV K hK => ?_) ?_
      · clear hV; simp only [putT, List.foldl_cons, List.foldl_nil, Made.val, Act.put, List.setIfInBounds_toArray, List.set_cons_zero, List.set_cons_succ]; go_simp; exact hK.out _ _ rfl (Below.refl _ _)
      refine StepsT.cons [(8, some 29, .is (.pointer (some ⟨w.heap.size, 3, none⟩)))] (by simp only [List.getElem?_toArray, List.getElem?_cons_succ, List.getElem?_cons_zero]; rfl) (by kernel_rfl) (by rfl) (fun wx val iv hB hV K hK => ?_) ?_
      · (obtain ⟨⟨k0, k1, k2, k3, k4⟩, kr⟩ := HC.out wx hB); clear hV; simp only [putT, List.foldl_cons, List.foldl_nil, Made.val, Act.put, List.setIfInBounds_toArray, List.set_cons_zero, List.set_cons_succ]; go_simp; exact hK.out _ _ rfl (Below.refl _ _)
      refine StepsT.cons [(6, some 27, .own (fun S w v => WrIn .i64 S w v (sortI zr)) (fun S w w' v h b => h.below b)), (7, some 28, .zero), (9, some 30, .is (.slice p3 D.trick.length c3))] (by simp only [List.getElem?_toArray, List.getElem?_cons_succ, List.getElem?_cons_zero]; rfl) (by kernel_rfl) (by rfl) (fun wx val iv hB hV K hK => ?_) ?_
      · (obtain ⟨g, hg⟩ := hV (7, some 28, .zero) (by simp); obtain ⟨v', w', hrun, ho, hb⟩ := append_copy (g := g) (H3.out wx hB).1 (H3.out wx hB).2 23; simp only at hg; simp only [putT, List.foldl_cons, List.foldl_nil, Made.val, Act.put, List.setIfInBounds_toArray, List.set_cons_zero, List.set_cons_succ]; rw [if_pos (by rfl)]; refine Lib.wp_append_run _ (.tmp 28) (.tmp 30) 23 23 (by rfl) (val 7) (.slice p3 D.trick.length c3) (by rfl) (by rfl) v' w' (by rw [hg]; exact hrun) ?_; exact hK.out _ _ ho hb)
      refine StepsT.cons [] (by simp only [List.getElem?_toArray, List.getElem?_cons_succ, List.getElem?_cons_zero]; rfl) (by kernel_rfl) (by rfl) (fun wx val iv hB hV K hK => ?_) ?_
      · clear hV; simp only [putT, List.foldl_cons, List.foldl_nil, Made.val, Act.put, List.setIfInBounds_toArray, List.set_cons_zero, List.set_cons_succ]; go_simp; exact hK.out _ _ rfl (Below.refl _ _)
      refine StepsT.cons [(11, some 32, .is (.pointer (some ⟨w.heap.size, 1, none⟩)))] (by simp only [List.getElem?_toArray, List.getElem?_cons_succ, List.getElem?_cons_zero]; rfl) (by kernel_rfl) (by rfl) (fun wx val iv hB hV K hK => ?_) ?_
      · (obtain ⟨⟨k0, k1, k2, k3, k4⟩, kr⟩ := HC.out wx hB); clear hV; simp only [putT, List.foldl_cons, List.foldl_nil, Made.val, Act.put, List.setIfInBounds_toArray, List.set_cons_zero, List.set_cons_succ]; go_simp; exact hK.out _ _ rfl (Below.refl _ _)
      refine StepsT.cons [] (by simp only [List.getElem?_toArray, List.getElem?_cons_succ, List.getElem?_cons_zero]; rfl) (by kernel_rfl) (by rfl) (fun wx val iv hB hV K hK => ?_) ?_
      · clear hV; simp only [putT, List.foldl_cons, List.foldl_nil, Made.val, Act.put, List.setIfInBounds_toArray, List.set_cons_zero, List.set_cons_succ]; go_simp; exact hK.out _ _ rfl (Below.refl _ _)
      refine StepsT.cons [(13, some 34, .is (.pointer (some ⟨w.heap.size, 2, none⟩)))] (by simp only [List.getElem?_toArray, List.getElem?_cons_succ, List.getElem?_cons_zero]; rfl) (by kernel_rfl) (by rfl) (fun wx val iv hB hV K hK => ?_) ?_
      · (obtain ⟨⟨k0, k1, k2, k3, k4⟩, kr⟩ := HC.out wx hB); clear hV; simp only [putT, List.foldl_cons, List.foldl_nil, Made.val, Act.put, List.setIfInBounds_toArray, List.set_cons_zero, List.set_cons_succ]; go_simp; exact hK.out _ _ rfl (Below.refl _ _)
      refine StepsT.cons [] (by simp only [List.getElem?_toArray, List.getElem?_cons_succ, List.getElem?_cons_zero]; rfl) (by kernel_rfl) (by rfl) (fun wx val iv hB hV K hK => ?_) ?_
      · simp only [putT, List.foldl_cons, List.foldl_nil, Made.val, Act.put, List.setIfInBounds_toArray, List.set_cons_zero, List.set_cons_succ]; go_simp; exact hK.out _ _ ⟨_, rfl⟩ ((Below.refl _ _).alloc (Nat.le_refl _) _)
      refine StepsT.cons [] (by simp only [List.getElem?_toArray, List.getElem?_cons_succ, List.getElem?_cons_zero]; rfl) (by kernel_rfl) (by rfl) (fun wx val iv hB hV K hK => ?_) ?_
      · clear hV; simp only [putT, List.foldl_cons, List.foldl_nil, Made.val, Act.put, List.setIfInBounds_toArray, List.set_cons_zero, List.set_cons_succ]; go_simp; exact hK.out _ _ rfl (Below.refl _ _)
      refine StepsT.cons [(16, some 37, .is (.pointer (some ⟨w.heap.size, 4, none⟩)))] (by simp only [List.getElem?_toArray, List.getElem?_cons_succ, List.getElem?_cons_zero]; rfl) (by kernel_rfl) (by rfl) (fun wx val iv hB hV K hK => ?_) ?_
      · (obtain ⟨⟨k0, k1, k2, k3, k4⟩, kr⟩ := HC.out wx hB); clear hV; simp only [putT, List.foldl_cons, List.foldl_nil, Made.val, Act.put, List.setIfInBounds_toArray, List.set_cons_zero, List.set_cons_succ]; go_simp; exact hK.out _ _ rfl (Below.refl _ _)
      refine StepsT.cons [(10, some 31, .ints D.trick), (15, some 36, .zero), (17, some 38, .is (.slice p4 D.won.length c4))] (by simp only [List.getElem?_toArray, List.getElem?_cons_succ, List.getElem?_cons_zero]; rfl) (by kernel_rfl) (by rfl) (fun wx val iv hB hV K hK => ?_) ?_
      · (obtain ⟨g, hg⟩ := hV (15, some 36, .zero) (by simp); obtain ⟨v', w', hrun, ho, hb⟩ := append_copy (g := g) (H4.out wx hB).1 (H4.out wx hB).2 23; simp only at hg; simp only [putT, List.foldl_cons, List.foldl_nil, Made.val, Act.put, List.setIfInBounds_toArray, List.set_cons_zero, List.set_cons_succ]; rw [if_pos (by rfl)]; refine Lib.wp_append_run _ (.tmp 36) (.tmp 38) 23 23 (by rfl) (val 15) (.slice p4 D.won.length c4) (by rfl) (by rfl) v' w' (by rw [hg]; exact hrun) ?_; exact hK.out _ _ ho hb)
      refine StepsT.cons [(0, some 21, .is (.int .i64 (j : Int))), (6, some 27, .own (fun S w v => WrIn .i64 S w v (sortI zr)) (fun S w w' v h b => h.below b)), (10, some 31, .ints D.trick), (12, some 33, .is (.int .i64 D.leader)), (14, some 35, .is (.int .i64 D.trump)), (18, some 39, .ints D.won)] (by simp only [List.getElem?_toArray, List.getElem?_cons_succ, List.getElem?_cons_zero]; rfl) (by kernel_rfl) (by rfl) (fun wx val iv hB hV K hK => ?_) ?_
      · (obtain ⟨q1, d1, e1⟩ := WrIn.shape (hV (6, some 27, .own (fun S w v => WrIn .i64 S w v (sortI zr)) (fun S w w' v h b => h.below b)) (by simp)); obtain ⟨q2, d2, e2⟩ := OwnI.shape (hV (10, some 31, .ints D.trick) (by simp)); obtain ⟨q6, d6, e6⟩ := OwnI.shape (hV (18, some 39, .ints D.won) (by simp)); (try dsimp only at e1 e2 e6); clear hV; simp only [putT, List.foldl_cons, List.foldl_nil, Made.val, Act.put, List.setIfInBounds_toArray, List.set_cons_zero, List.set_cons_succ]; rw [e1, e2, e6]; go_simp; rw [← e1, ← e2, ← e6]; exact hK.out _ _ rfl (Below.refl _ _))
      refine StepsT.cons [] (by simp only [List.getElem?_toArray, List.getElem?_cons_succ, List.getElem?_cons_zero]; rfl) (by kernel_rfl) (by rfl) (fun wx val iv hB hV K hK => ?_) ?_
      · clear hV; simp only [putT, List.foldl_cons, List.foldl_nil, Made.val, Act.put, List.setIfInBounds_toArray, List.set_cons_zero, List.set_cons_succ]; go_simp; exact hK.out _ _ ⟨rfl, heap_alloc_new _ _, by simp⟩ ((Below.refl _ _).alloc (Nat.le_refl _) _)
      exact StepsT.nil
    case fin =>
      intro wx val iv BX hV hD
      obtain ⟨h1, l1, u1⟩ := hV (6, some 27, .own (fun S w v => WrIn .i64 S w v (sortI zr)) (fun S w w' v h b => h.below b)) (by simp)
      obtain ⟨h2, l2, u2⟩ := hV (10, some 31, .ints D.trick) (by simp)
      obtain ⟨h6, l6, u6⟩ := hV (18, some 39, .ints D.won) (by simp)
      obtain ⟨e19, -, -⟩ := hV (19, some 40, .fn [6, 10, 18] (fun vs => .agg #[.int .i64 (j : Int), vs.getD 0 undef, vs.getD 1 undef, .int .i64 D.leader, .int .i64 D.trump, .slice none 0 0, vs.getD 2 undef])) (by simp)
      obtain ⟨⟨eb, hbx, lb⟩, lbx, ubx⟩ := hV (20, some 6, .box #[.int .i64 0, .slice none 0 0, .slice none 0 0, .int .i64 0, .int .i64 0, .slice none 0 0, .slice none 0 0] 28) (by simp)
      have x1 := hD 6 (by simp) 10 (by simp) (by decide)
      have x3 := hD 6 (by simp) 18 (by simp) (by decide)
      have x5 := hD 10 (by simp) 18 (by simp) (by decide)
      have y1 := hD 20 (by simp) 6 (by simp) (by decide)
      have y2 := hD 20 (by simp) 10 (by simp) (by decide)
      have y6 := hD 20 (by simp) 18 (by simp) (by decide)
      obtain ⟨q1, d1, e1⟩ := WrIn.shape h1
      obtain ⟨q2, d2, e2⟩ := OwnI.shape h2
      obtain ⟨q6, d6, e6⟩ := OwnI.shape h6
      (try dsimp only at e1 e2 e6 eb hbx lb)
      replace e19 : val 19 = Value.agg #[.int .i64 (j : Int), val 6, val 10, .int .i64 D.leader, .int .i64 D.trump, .slice none 0 0, val 18] := e19
      rw [e1, e2, e6] at e19
      dsimp only [Made.means] at h1 h2 h6
      dsimp only at l1 u1 l2 u2 l6 u6 lbx ubx
      rw [e1] at h1
      rw [e2] at h2
      rw [e6] at h6
      have tR := touchRow wx (iv 20).1 #[.int .i64 (j : Int), .slice q1 (sortI zr).length d1, .slice q2 D.trick.length d2, .int .i64 D.leader, .int .i64 D.trump, .slice none 0 0, .slice q6 D.won.length d6]
      have hsR : (wx.setRow (iv 20).1 #[.int .i64 (j : Int), .slice q1 (sortI zr).length d1, .slice q2 D.trick.length d2, .int .i64 D.leader, .int .i64 D.trump, .slice none 0 0, .slice q6 D.won.length d6]).heap.size = wx.heap.size := by simp [World.setRow]
      have BR : Below w2.heap.size w2 (wx.setRow (iv 20).1 #[.int .i64 (j : Int), .slice q1 (sortI zr).length d1, .slice q2 D.trick.length d2, .int .i64 D.leader, .int .i64 D.trump, .slice none 0 0, .slice q6 D.won.length d6]) := below_setRow BX lbx _
      have HS : Hid (SB w2.heap.size (iv 20).1 (wx.setRow (iv 20).1 #[.int .i64 (j : Int), .slice q1 (sortI zr).length d1, .slice q2 D.trick.length d2, .int .i64 D.leader, .int .i64 D.trump, .slice none 0 0, .slice q6 D.won.length d6]) ⟨(j : Int), sortI zr, D.trick, D.leader, D.trump, [], D.won⟩ none 0) := Lib.hid (by
        refine ⟨q1, q2, q6, d1, d2, d6, In (iv 6).1 (iv 6).2, In (iv 10).1 (iv 10).2, fun _ => False, In (iv 18).1 (iv 18).2, lbx, setRow_heap _ _ _ _ _ _ hbx, h1.touch tR ?_, h2.wr.touch tR ?_, OwnI.nil _ _ none, h6.wr.touch tR ?_, ?_, ?_, ?_, ?_, ?_, ?_, ?_, ?_, ?_, ?_⟩
        all_goals (intro b hb; first | exact hb.elim | (obtain ⟨z1, z2⟩ := hb; first | (intro hc; exact hc.elim) | (intro hc; obtain ⟨z3, z4⟩ := hc; omega) | (intro hc; omega) | exact ⟨by omega, by omega, by omega⟩) | (intro hc; exact hb.elim)))
      have HBR := Lib.hid BR
      clear hV hD h1 h2 h6 x1 x3 x5 y1 y2 y6 l1 u1 l2 u2 l6 u6 lb lbx ubx tR hsR
      generalize (iv 20).1 = r at *
      simp only [putT, List.foldl_cons, List.foldl_nil, Made.val, Act.put, List.setIfInBounds_toArray, List.set_cons_zero, List.set_cons_succ]
      rw [e19, e1, e2, e6, eb]
      clear e19 e1 e2 e6 eb
      refine wpAny_one (i := 21) (by kernel_rfl) (by simp only [List.getElem?_toArray, List.getElem?_cons_succ, List.getElem?_cons_zero]; rfl) (fun K hK => ?_)
      rw [if_pos (by rfl)]
      refine wp_store_row 28 (.tmp 6) (.tmp 40) (by rfl) r #[.int .i64 (j : Int), .slice q1 (sortI zr).length d1, .slice q2 D.trick.length d2, .int .i64 D.leader, .int .i64 D.trump, .slice none 0 0, .slice q6 D.won.length d6] (by rfl) (by rfl) 28 _ hbx (by kernel_rfl) (by rfl) (by simp [Value.oneCell']) (hK.out _ _ ?_)
      clear hK K hbx
      refine wpAny_end (by kernel_rfl) ?_
      obtain ⟨X, hX⟩ : ∃ X, X = wx.setRow r #[.int .i64 (j : Int), .slice q1 (sortI zr).length d1, .slice q2 D.trick.length d2, .int .i64 D.leader, .int .i64 D.trump, .slice none 0 0, .slice q6 D.won.length d6] := ⟨_, rfl⟩
      rw [← hX] at HS HBR BR ⊢
      clear hX BX
      go_wp2_with fail
      go_loopw [7] (fun i wr => ∃ k : Nat, k ≤ n ∧ i = .int .i64 k ∧ Below w2.heap.size w2 wr ∧ Hid (∃ q5 d5, SB w2.heap.size r wr ⟨(j : Int), sortI zr, D.trick, D.leader, D.trump, (lensI D.hands).take k, D.won⟩ q5 d5)) (fun i _ => n - (intOf i).toNat)
      case atStart => exact ⟨0, Nat.zero_le _, rfl, BR, Lib.hid ⟨none, 0, HS.out⟩⟩
      case round =>
        clear HS HBR BR
        obtain ⟨k, hk, rfl, B, hsb⟩ := hrel
        obtain ⟨⟨k0, k1, k2, k3, k4⟩, kr⟩ := HC.out wr B
        clear k1 k2 k3 k4 kr
        by_cases hlt : k < n
        · obtain ⟨q5, d5, sb⟩ := hsb.out
          have hz : k < D.hands.length := by rw [← Hhn.out]; exact hlt
          obtain ⟨blk', off', capZ, pz, cz, bz, hvz, hcz, -, -⟩ := (HR.out wr B).row hz
          have hp := (Value.slice.inj hvz).1
          simp at hp
          obtain ⟨rfl, rfl⟩ := hp
          clear hvz
          have hmz := Hsum.out k hz
          have hlk : ((lensI D.hands).take k).length = k := by rw [List.length_take, lensI_len]; omega
          have hst : Hid ((lensI D.hands).take (k + 1) = (lensI D.hands).take k ++ [(D.hands[k].length : Int)]) := Lib.hid (by
            rw [List.take_succ_eq_append_getElem (by rw [lensI_len]; exact hz)]
            simp [lensI])
          obtain ⟨mz, hmz2⟩ : ∃ m, m = D.hands[k].length := ⟨_, rfl⟩
          rw [← hmz2] at hcz hmz hst
          have HC7 : Hid (∀ wx, Below wr.heap.size wr wx → wx.cell? ⟨w.heap.size, 0, none⟩ = some (.slice (some ⟨blk, off, none⟩) n c0) ∧ wx.cell? ⟨r, 5, none⟩ = some (.slice q5 k d5) ∧ wx.cell? ⟨blk, off + k, none⟩ = some (.slice pz mz cz)) := Lib.hid (fun wx hb => by
            refine ⟨(hb.cell (World.block_lt_of_cell? _ _ k0)).trans k0, ?_, (hb.cell (World.block_lt_of_cell? _ _ hcz)).trans hcz⟩
            obtain ⟨_, _, _, _, _, _, _, _, _, _, -, g, -⟩ := sb.below hb
            rw [box_cell g]
            show some (Value.slice q5 ((lensI D.hands).take k).length d5) = _
            rw [hlk])
          have Hsb := Lib.hid sb
          have Hlk := Lib.hid hlk
          have HB := Lib.hid B
          clear hcz hmz2 sb hsb B hlk hz
          go_upto_region 7 with fail
          clear k0
          refine wp_region_table [(0, some 48, .is (.pointer (some ⟨r, 5, none⟩))), (1, some 49, .is (.slice q5 k d5)), (2, some 50, .is (.pointer (some ⟨w.heap.size, 0, none⟩))), (3, some 51, .is (.slice (some ⟨blk, off, none⟩) n c0)), (4, some 52, .is (.int .i64 (k : Int))), (5, some 53, .is (.pointer (some ⟨blk, off + k, none⟩))), (6, some 54, .is (.slice pz mz cz)), (7, some 55, .is (.int .i64 mz)), (8, some 56, .own (fun S w v => ∃ g, v = .slice (some ⟨g, 0, none⟩) 1 1 ∧ w.cell? ⟨g, 0, none⟩ = some (.int .i64 (mz : Int)) ∧ g < w.heap.size) (fun S w w' v h b => by obtain ⟨g, e, hc, hl⟩ := h; exact ⟨g, e, (b.cell hl).trans hc, Nat.lt_of_lt_of_le hl b.size⟩))] 3 (by kernel_rfl) (by kernel_rfl) (by kernel_rfl) (by kernel_rfl) (by kernel_rfl) (L := #[true, true, true, true, true, true, true, true, true, false, false, false]) (by kernel_rfl) ?steps ?fin
          case steps =>
            refine StepsT.cons [] (by simp only [List.getElem?_toArray, List.getElem?_cons_succ, List.getElem?_cons_zero]; rfl) (by kernel_rfl) (by rfl) (fun wx val iv hB hV K hK => ?_) ?_
            · clear hV; simp only [putT, List.foldl_cons, List.foldl_nil, Made.val, Act.put, List.setIfInBounds_toArray, List.set_cons_zero, List.set_cons_succ]; go_simp; exact hK.out _ _ rfl (Below.refl _ _)
            refine StepsT.cons [(0, some 48, .is (.pointer (some ⟨r, 5, none⟩)))] (by simp only [List.getElem?_toArray, List.getElem?_cons_succ, List.getElem?_cons_zero]; rfl) (by kernel_rfl) (by rfl) (fun wx val iv hB hV K hK => ?_) ?_
            · (obtain ⟨k0, k1, k2⟩ := HC7.out wx hB); clear hV; simp only [putT, List.foldl_cons, List.foldl_nil, Made.val, Act.put, List.setIfInBounds_toArray, List.set_cons_zero, List.set_cons_succ]; go_simp; exact hK.out _ _ rfl (Below.refl _ _)
            refine StepsT.cons [] (by simp only [List.getElem?_toArray, List.getElem?_cons_succ, List.getElem?_cons_zero]; rfl) (by kernel_rfl) (by rfl) (fun wx val iv hB hV K hK => ?_) ?_
            · clear hV; simp only [putT, List.foldl_cons, List.foldl_nil, Made.val, Act.put, List.setIfInBounds_toArray, List.set_cons_zero, List.set_cons_succ]; go_simp; exact hK.out _ _ rfl (Below.refl _ _)
            refine StepsT.cons [(2, some 50, .is (.pointer (some ⟨w.heap.size, 0, none⟩)))] (by simp only [List.getElem?_toArray, List.getElem?_cons_succ, List.getElem?_cons_zero]; rfl) (by kernel_rfl) (by rfl) (fun wx val iv hB hV K hK => ?_) ?_
            · (obtain ⟨k0, k1, k2⟩ := HC7.out wx hB); clear hV; simp only [putT, List.foldl_cons, List.foldl_nil, Made.val, Act.put, List.setIfInBounds_toArray, List.set_cons_zero, List.set_cons_succ]; go_simp; exact hK.out _ _ rfl (Below.refl _ _)
            refine StepsT.cons [] (by simp only [List.getElem?_toArray, List.getElem?_cons_succ, List.getElem?_cons_zero]; rfl) (by kernel_rfl) (by rfl) (fun wx val iv hB hV K hK => ?_) ?_
            · clear hV; simp only [putT, List.foldl_cons, List.foldl_nil, Made.val, Act.put, List.setIfInBounds_toArray, List.set_cons_zero, List.set_cons_succ]; go_simp; exact hK.out _ _ rfl (Below.refl _ _)
            refine StepsT.cons [(3, some 51, .is (.slice (some ⟨blk, off, none⟩) n c0)), (4, some 52, .is (.int .i64 (k : Int)))] (by simp only [List.getElem?_toArray, List.getElem?_cons_succ, List.getElem?_cons_zero]; rfl) (by kernel_rfl) (by rfl) (fun wx val iv hB hV K hK => ?_) ?_
            · (obtain ⟨k0, k1, k2⟩ := HC7.out wx hB); clear hV; simp only [putT, List.foldl_cons, List.foldl_nil, Made.val, Act.put, List.setIfInBounds_toArray, List.set_cons_zero, List.set_cons_succ]; go_simp; exact hK.out _ _ rfl (Below.refl _ _)
            refine StepsT.cons [(5, some 53, .is (.pointer (some ⟨blk, off + k, none⟩)))] (by simp only [List.getElem?_toArray, List.getElem?_cons_succ, List.getElem?_cons_zero]; rfl) (by kernel_rfl) (by rfl) (fun wx val iv hB hV K hK => ?_) ?_
            · (obtain ⟨k0, k1, k2⟩ := HC7.out wx hB); clear hV; simp only [putT, List.foldl_cons, List.foldl_nil, Made.val, Act.put, List.setIfInBounds_toArray, List.set_cons_zero, List.set_cons_succ]; go_simp; exact hK.out _ _ rfl (Below.refl _ _)
            refine StepsT.cons [(6, some 54, .is (.slice pz mz cz))] (by simp only [List.getElem?_toArray, List.getElem?_cons_succ, List.getElem?_cons_zero]; rfl) (by kernel_rfl) (by rfl) (fun wx val iv hB hV K hK => ?_) ?_
            · clear hV; simp only [putT, List.foldl_cons, List.foldl_nil, Made.val, Act.put, List.setIfInBounds_toArray, List.set_cons_zero, List.set_cons_succ]; go_simp; exact hK.out _ _ rfl (Below.refl _ _)
            refine StepsT.cons [(7, some 55, .is (.int .i64 mz))] (by simp only [List.getElem?_toArray, List.getElem?_cons_succ, List.getElem?_cons_zero]; rfl) (by kernel_rfl) (by rfl) (fun wx val iv hB hV K hK => ?_) ?_
            · clear hV; simp only [putT, List.foldl_cons, List.foldl_nil, Made.val, Act.put, List.setIfInBounds_toArray, List.set_cons_zero, List.set_cons_succ]; go_simp; exact hK.out _ _ ⟨_, rfl, cell_one_new _ _ _ 0 _ rfl, by simp⟩ ((Below.refl _ _).alloc (Nat.le_refl _) _)
            exact StepsT.nil
          case fin =>
            intro wx val iv BX hV hD
            obtain ⟨⟨g, eg, hcg, hlg⟩, -, -⟩ := hV (8, some 56, .own (fun S w v => ∃ g, v = .slice (some ⟨g, 0, none⟩) 1 1 ∧ w.cell? ⟨g, 0, none⟩ = some (.int .i64 (mz : Int)) ∧ g < w.heap.size) (fun S w w' v h b => by obtain ⟨g, e, hc, hl⟩ := h; exact ⟨g, e, (b.cell hl).trans hc, Nat.lt_of_lt_of_le hl b.size⟩)) (by simp)
            (try dsimp only at eg hcg hlg)
            have sbx := Hsb.out.below BX
            have hlk := Hlk.out
            obtain ⟨q1, q2, q6, d1, d2, d6, S1, S2, S5, S6, hlo, gx, h1, h2, h5, h6, s1, s2, s5, s6, xs⟩ := id sbx
            dsimp only at h5 gx
            obtain ⟨v9, w9, run9, own9, gr9⟩ := h5.append (ys := [(mz : Int)]) ⟨g, 0, none⟩ 1 (by simp) (fun i hi => by
              have hi0 : i = 0 := (by simpa using hi)
              subst hi0
              exact hcg) (by intro x hx; have hx2 : x = (mz : Int) := (by simpa using hx); rw [hx2]; exact WalkArith.wf_i64 (by omega)) (by rw [hlk]; simp; omega) 23
            obtain ⟨q5', d5', e9⟩ := own9.shape
            rw [List.length_append, List.length_singleton] at e9
            rw [hlk] at e9 run9
            have hs9 := sbx.sizes (z := (mz : Int)) (w' := w9) (q5' := q5') (d5' := d5') gr9 (by have h9 := own9; rw [e9] at h9; have e2 : (Value.slice q5' (((lensI D.hands).take k).length + 1) d5') = .slice q5' (k + 1) d5' := (by rw [hlk]); show OwnI _ _ (.slice q5' (((lensI D.hands).take k).length + 1) d5') _; rw [e2]; exact h9)
            have g9 : w9.heap[r]? = _ := (gr9.block r (Array.getElem?_eq_some_iff.1 gx).1 (fun e => (s5 r (h5.held e.symm).1).2.2 rfl)).trans gx
            have z9 := box_cell g9 5
            have y9 := box_free g9 5
            simp at z9
            have B9 : Below w2.heap.size w2 w9 := (HB.out.trans (BX.mono HB.out.size)).grown gr9 (Nat.le_trans HB.out.size BX.size) (fun q hq => (s5 q (h5.held hq).1).1)
            have HS9 := Lib.hid hs9
            have HB9 := Lib.hid B9
            have Q9 := Lib.hid run9
            have hlo2 := hlo
            clear hs9 B9 run9 own9 gr9 g9 gx h1 h2 h5 h6 s1 s2 s5 s6 xs sbx hV hD hcg hlg BX hlo
            subst e9
            simp only [putT, List.foldl_cons, List.foldl_nil, Made.val, Act.put, List.setIfInBounds_toArray, List.set_cons_zero, List.set_cons_succ]
            rw [eg]
            clear eg
            refine wpAny_one (i := 9) (by kernel_rfl) (by simp only [List.getElem?_toArray, List.getElem?_cons_succ, List.getElem?_cons_zero]; rfl) (fun K hK => ?_)
            rw [if_pos (by rfl)]
            refine Lib.wp_append_run _ (.tmp 49) (.tmp 56) 23 23 (by rfl) (.slice q5 k d5) (.slice (some ⟨g, 0, none⟩) 1 1) (by rfl) (by rfl) _ w9 Q9.out (hK.out _ _ ?_)
            clear hK K
            refine wpAny_one (i := 10) (by kernel_rfl) (by simp only [List.getElem?_toArray, List.getElem?_cons_succ, List.getElem?_cons_zero]; rfl) (fun K hK => ?_)
            go_simp
            refine hK.out _ _ ?_
            clear hK K
            refine wpAny_one (i := 11) (by kernel_rfl) (by simp only [List.getElem?_toArray, List.getElem?_cons_succ, List.getElem?_cons_zero]; rfl) (fun K hK => ?_)
            go_simp
            refine hK.out _ _ ?_
            clear hK K z9 y9
            refine wpAny_end (by kernel_rfl) ?_
            obtain ⟨X9, hX9⟩ : ∃ X, X = w9.setCell ⟨r, 5, none⟩ (.slice q5' (k + 1) d5') := ⟨_, rfl⟩
            have BX9 : Below w2.heap.size w2 X9 := by rw [hX9]; exact HB9.out.setCell hlo2 _
            have HSX : Hid (∃ q5 d5, SB w2.heap.size r X9 ⟨(j : Int), sortI zr, D.trick, D.leader, D.trump, (lensI D.hands).take (k + 1), D.won⟩ q5 d5) := Lib.hid ⟨q5', d5', by
              have := HS9.out
              rw [hX9, hst.out]
              dsimp only at this
              rw [hlk] at this
              exact this⟩
            have hkm : (k : Int) < 9223372036854775807 := by omega
            rw [← hX9]
            clear hX9 HS9 HB9 Q9 hlo2 hlk Hlk hst Hsb HB
            go_wp2_with fail
            go_roundw
            case rel => exact ⟨k + 1, by omega, by go_num, BX9, HSX⟩
            case measure => simp [intOf]; omega
        · obtain rfl : k = n := by omega
          have hall : (lensI D.hands).take k = lensI D.hands := List.take_of_length_le (by rw [lensI_len, ← Hhn.out]; exact Nat.le_refl _)
          rw [hall] at hsb
          obtain ⟨q5, d5, sb⟩ := hsb.out
          obtain ⟨G1, B0⟩ := HF.out
          have hl2 := (Array.getElem?_eq_some_iff.1 G1).1
          have G1x := (B.block _ hl2).trans G1
          have hw0 : w.heap.size + 2 ≤ w2.heap.size := by have := hl2; omega
          obtain ⟨q1, q2, q6, d1, d2, d6, gr, gN, hN, bN⟩ := sb.final (o := w.heap.size + 1) (lo' := w.heap.size) (by omega) (Nat.le_succ _) G1x (B0.trans (B.mono B0.size)) (by show (Lit.int .i64 (j : Int)).wf = true; exact WalkArith.wf_i64 (by omega)) Hwf.out.1 Hwf.out.2
          have HX := Lib.hid (And.intro gN (And.intro hN bN))
          clear sb hsb hall gN hN bN G1 B0 B hl2 hw0
          go_upto_region 8 with fail
          refine wp_region_lit ?_
          refine wpList_load_row rfl 28 _ rfl r rfl 28 _ _ _ gr Tryd.underlying28 rfl (by kernel_rfl) ?_
          clear gr k0
          refine wpList_store_row rfl 28 _ _ rfl (w.heap.size + 1) #[.int .i64 (j : Int), .slice q1 (sortI zr).length d1, .slice q2 D.trick.length d2, .int .i64 D.leader, .int .i64 D.trump, .slice q5 (lensI D.hands).length d5, .slice q6 D.won.length d6] rfl rfl 28 _ G1x (by kernel_rfl) rfl (by simp [Value.oneCell']) ?_
          clear G1x
          go_wp2_with fail
          refine bodyPost_ret (results_row_tmp rfl _ _ (w.heap.size + 1) _ _ _ _ rfl HX.out.1 Tryd.underlying28 rfl (by kernel_rfl)) rfl ?_
          rw [HOK.out, HE.out]
          exact ⟨_, rfl, HX.out.2.1, HX.out.2.2⟩
set_option maxRecDepth 100000 in
set_option maxHeartbeats 4000000 in
theorem sightOf_any (a0 a1 : Addr) (v : Value) (D : MDeal) (me : Int) (w : World) (h : RdDeal w v D) (hf : D.Few) (hS : Sent a0 a1 w) :
    Calls Tryd.prog 11 #[v, .int .i64 me] w fun e w' => ∃ v', e = .returned (.tuple #[v', .bool (sightOK D me)]) ∧ WrSight (In w.heap.size w'.heap.size) w' v' (sightD D me) ∧ Below w.heap.size w w' := by
  obtain ⟨p0, p3, p4, p5, c0, c3, c4, c5, ev⟩ := h.shape
  subst ev
  obtain ⟨W0, hW0⟩ : ∃ W, W = (w.alloc (.cells #[.slice p0 D.hands.length c0, .int .i64 D.leader, .int .i64 D.trump, .slice p3 D.trick.length c3, .slice p4 D.won.length c4, .slice p5 D.points.length c5, .int .i64 D.left] 31)).alloc (.cells #[.int .i64 0, .slice none 0 0, .slice none 0 0, .int .i64 0, .int .i64 0, .slice none 0 0, .slice none 0 0] 28) := ⟨_, rfl⟩
  have G0 : W0.heap[w.heap.size]? = some (.cells #[.slice p0 D.hands.length c0, .int .i64 D.leader, .int .i64 D.trump, .slice p3 D.trick.length c3, .slice p4 D.won.length c4, .slice p5 D.points.length c5, .int .i64 D.left] 31 (0, 0)) := by rw [hW0]; exact heap_alloc2_old _ _ _
  have G1 : W0.heap[w.heap.size + 1]? = some (.cells #[.int .i64 0, .slice none 0 0, .slice none 0 0, .int .i64 0, .int .i64 0, .slice none 0 0, .slice none 0 0] 28 (0, 0)) := by rw [hW0]; exact heap_alloc2_new _ _ _
  have hsz : W0.heap.size = w.heap.size + 2 := by rw [hW0]; simp
  have B0 : Below w.heap.size w W0 := by rw [hW0]; exact ((Below.refl _ _).alloc (Nat.le_refl _) _).alloc (by simp) _
  have hfw := hf
  obtain ⟨f0, fs0, f3, f4, -⟩ := hfw
  obtain ⟨hr0, b3, h3, b4, h4, wf0, wf1⟩ : RdRows .i64 w (.slice p0 D.hands.length c0) D.hands ∧ ∃ b3, RdAt .i64 w (.slice p3 D.trick.length c3) D.trick b3 ∧ ∃ b4, RdAt .i64 w (.slice p4 D.won.length c4) D.won b4 ∧ (Lit.int .i64 D.leader).wf = true ∧ (Lit.int .i64 D.trump).wf = true := by
    obtain ⟨v0, v3, v4, v5, b3, b4, b5, e, h0, h3, h4, -, w0, w1, -⟩ := id h
    simp at e
    obtain ⟨rfl, rfl, rfl, -⟩ := e
    exact ⟨h0, b3, h3, b4, h4, w0, w1⟩
  have HI := Lib.hid (fun wx (hb : Below w.heap.size w wx) => isDeal_any a0 a1 _ D wx (h.below hb) hf (hS.below hb (Nat.le_refl _)) _ rfl)
  have HRd := Lib.hid (fun wx (hb : Below w.heap.size w wx) => And.intro (hr0.below hb) (And.intro (h3.below hb) (h4.below hb)))
  have Hsum : Hid (∀ j (hj : j < D.hands.length), D.hands[j].length ≤ 1048576) := Lib.hid (fun j hj => Nat.le_trans (len_le_sum D.hands hj) fs0)
  have HW := Lib.hid hW0
  have HG : Hid (∀ wx, Below W0.heap.size W0 wx → wx.heap[w.heap.size]? = some (.cells #[.slice p0 D.hands.length c0, .int .i64 D.leader, .int .i64 D.trump, .slice p3 D.trick.length c3, .slice p4 D.won.length c4, .slice p5 D.points.length c5, .int .i64 D.left] 31 (0, 0)) ∧ wx.heap[w.heap.size + 1]? = some (.cells #[.int .i64 0, .slice none 0 0, .slice none 0 0, .int .i64 0, .int .i64 0, .slice none 0 0, .slice none 0 0] 28 (0, 0)) ∧ Below w.heap.size w wx) := Lib.hid (fun wx hb => ⟨(hb.block _ (by omega)).trans G0, (hb.block _ (by omega)).trans G1, B0.trans (hb.mono B0.size)⟩)
  have Hsz := Lib.hid hsz
  have Hf := Lib.hid (And.intro f0 (And.intro fs0 (And.intro f3 f4)))
  have Hwf := Lib.hid (And.intro wf0 wf1)
  clear h hf hS hr0 h3 h4 hW0 G0 G1 hsz B0 f0 fs0 f3 f4 wf0 wf1
  go_enter Tryd.func11, Tryd.ntmps11
  go_upto_region 1 with fail
  rw [← HW.out]
  obtain ⟨G0, G1, B0⟩ := HG.out W0 (Below.refl _ _)
  refine wp_region_lit ?_
  refine wpList_load_row rfl 31 _ rfl w.heap.size rfl 31 _ _ _ G0 Tryd.underlying31 rfl (by kernel_rfl) ?_
  clear G0 G1
  go_wp2_with fail
  refine (HI.out _ B0).mono ?_
  rintro e w2 ⟨rfl, B2⟩
  clear B0 HI
  obtain ⟨G0, G1, B0⟩ := HG.out w2 B2
  cases hd : isDeal D with
  | false =>
    have hok : sightOK D me = false := by unfold sightOK; rw [hd]; rfl
    have HOK := Lib.hid hok
    have HE := Lib.hid (sight_no hok)
    have N2 := Lib.hid (And.intro (setRow_heap w2 (w.heap.size + 1) _ #[.int .i64 0, .slice none 0 0, .slice none 0 0, .int .i64 0, .int .i64 0, .slice none 0 0, .slice none 0 0] _ _ G1) (below_setRow B0 (Nat.le_succ _) #[.int .i64 0, .slice none 0 0, .slice none 0 0, .int .i64 0, .int .i64 0, .slice none 0 0, .slice none 0 0]))
    clear hok G0 B0 B2 hd
    go_upto_region 2 with fail
    refine wp_region_lit ?_
    refine wpList_plain (by rfl) (fun K hK => ?_)
    go_simp
    refine hK _ _ ?_
    clear hK K
    refine wpList_store_row rfl 28 _ _ rfl (w.heap.size + 1) #[.int .i64 0, .slice none 0 0, .slice none 0 0, .int .i64 0, .int .i64 0, .slice none 0 0, .slice none 0 0] rfl rfl 28 _ G1 (by kernel_rfl) rfl (by simp [Value.oneCell']) ?_
    clear G1
    go_wp2_with fail
    refine bodyPost_ret (results_row_tmp rfl _ _ (w.heap.size + 1) _ _ _ _ rfl N2.out.1 Tryd.underlying28 rfl (by kernel_rfl)) rfl ?_
    rw [HOK.out, HE.out]
    exact ⟨_, rfl, sight_zero _ _, N2.out.2⟩
  | true =>
    have f0' := Hf.out.1
    by_cases hme : 0 ≤ me ∧ me ≤ (D.hands.length : Int) - 1
    rotate_left
    · have hok : sightOK D me = false := by unfold sightOK; rw [decide_eq_false hme]; simp
      have HJ := Lib.hid (fun wx => inR_any me 0 ((D.hands.length : Int) - 1) wx false (decide_eq_false hme).symm)
      have z0 := box_cell G0 0
      simp at z0
      have HG2 := Lib.hid (And.intro G1 B0)
      have hwr : IntKind.i64.wrap ((D.hands.length : Int) - 1) = (D.hands.length : Int) - 1 := by rw [IntKind.wrap_i64]; omega
      clear G0 G1 B0 hme hd
      go_wp2_with fail
      refine (HJ.out _).mono ?_
      rintro e _w ⟨rfl, rfl⟩
      obtain ⟨G1, B0⟩ := HG2.out
      clear z0
      have HOK := Lib.hid hok
      have HE := Lib.hid (sight_no hok)
      have N2 := Lib.hid (And.intro (setRow_heap w2 (w.heap.size + 1) _ #[.int .i64 0, .slice none 0 0, .slice none 0 0, .int .i64 0, .int .i64 0, .slice none 0 0, .slice none 0 0] _ _ G1) (below_setRow B0 (Nat.le_succ _) #[.int .i64 0, .slice none 0 0, .slice none 0 0, .int .i64 0, .int .i64 0, .slice none 0 0, .slice none 0 0]))
      clear hok B0 B2
      go_upto_region 2 with fail
      refine wp_region_lit ?_
      refine wpList_plain (by rfl) (fun K hK => ?_)
      go_simp
      refine hK _ _ ?_
      clear hK K
      refine wpList_store_row rfl 28 _ _ rfl (w.heap.size + 1) #[.int .i64 0, .slice none 0 0, .slice none 0 0, .int .i64 0, .int .i64 0, .slice none 0 0, .slice none 0 0] rfl rfl 28 _ G1 (by kernel_rfl) rfl (by simp [Value.oneCell']) ?_
      clear G1
      go_wp2_with fail
      refine bodyPost_ret (results_row_tmp rfl _ _ (w.heap.size + 1) _ _ _ _ rfl N2.out.1 Tryd.underlying28 rfl (by kernel_rfl)) rfl ?_
      rw [HOK.out, HE.out]
      exact ⟨_, rfl, sight_zero _ _, N2.out.2⟩
    obtain ⟨j, rfl⟩ : ∃ n : Nat, me = n := ⟨me.toNat, by omega⟩
    have hj : j < D.hands.length := by omega
    have hok : sightOK D j = true := by unfold sightOK; rw [hd, decide_eq_true hme]; rfl
    have HOK := Lib.hid hok
    have HE := Lib.hid (sight_yes hj hok)
    have HJ := Lib.hid (fun wx => inR_any (j : Int) 0 ((D.hands.length : Int) - 1) wx true (decide_eq_true hme).symm)
    have z0 := box_cell G0 0
    simp at z0
    have hwr : IntKind.i64.wrap ((D.hands.length : Int) - 1) = (D.hands.length : Int) - 1 := by rw [IntKind.wrap_i64]; omega
    have HG2 := Lib.hid (And.intro G0 (And.intro G1 B0))
    clear G0 G1 B0 hok hd hme
    go_wp2_with fail
    refine (HJ.out _).mono ?_
    rintro e _w ⟨rfl, rfl⟩
    clear z0 HJ hwr
    obtain ⟨G0, G1, B0⟩ := HG2.out
    obtain ⟨hr0, h3, h4⟩ := HRd.out w2 B0
    obtain ⟨blk, off, capA, pr, cr, br, hv, hcr, hrr, -⟩ := hr0.row hj
    have hp := (Value.slice.inj hv).1
    subst hp
    have hsm := Hsum.out j hj
    obtain ⟨zr, hzr⟩ : ∃ z, z = D.hands[j] := ⟨_, rfl⟩
    rw [← hzr] at HE hcr hrr hsm
    obtain ⟨f0, fs0, f3, f4⟩ := Hf.out
    obtain ⟨n, hn⟩ : ∃ n, n = D.hands.length := ⟨_, rfl⟩
    have HC : Hid (∀ wx, Below w2.heap.size w2 wx → (wx.cell? ⟨w.heap.size, 0, none⟩ = some (.slice (some ⟨blk, off, none⟩) n c0) ∧ wx.cell? ⟨w.heap.size, 1, none⟩ = some (.int .i64 D.leader) ∧ wx.cell? ⟨w.heap.size, 2, none⟩ = some (.int .i64 D.trump) ∧ wx.cell? ⟨w.heap.size, 3, none⟩ = some (.slice p3 D.trick.length c3) ∧ wx.cell? ⟨w.heap.size, 4, none⟩ = some (.slice p4 D.won.length c4)) ∧ wx.cell? ⟨blk, off + j, none⟩ = some (.slice pr zr.length cr)) := Lib.hid (fun wx hb => by
      have G := (hb.block _ (Array.getElem?_eq_some_iff.1 G0).1).trans G0
      rw [hn]
      refine ⟨⟨?_, ?_, ?_, ?_, ?_⟩, (hb.cell (World.block_lt_of_cell? _ _ hcr)).trans hcr⟩
      all_goals (rw [box_cell G]; rfl))
    have HSo : Hid (∀ wx, Below w2.heap.size w2 wx → Calls Tryd.prog 39 #[.slice pr zr.length cr] wx fun e w' => ∃ v', e = .returned v' ∧ WrIn .i64 (In wx.heap.size w'.heap.size) w' v' (sortI zr) ∧ Below wx.heap.size wx w') := Lib.hid (fun wx hb => (sorted_any _ zr _ wx (hrr.below hb) (by omega)).mono (fun e w' ⟨v', b', he, hlo, hw, hB⟩ => ⟨v', he, WrIn.of hw hlo, hB⟩))
    have HCi3 := Lib.hid (fun wx (hb : Below w2.heap.size w2 wx) => copyInts_D _ D.trick _ wx (h3.below hb) f3)
    have HCi4 := Lib.hid (fun wx (hb : Below w2.heap.size w2 wx) => copyInts_D _ D.won _ wx (h4.below hb) f4)
    have HSz : Hid (∀ wx, Below w2.heap.size w2 wx → Calls Tryd.prog 41 #[.slice (some ⟨blk, off, none⟩) n c0] wx fun e w' => ∃ v', e = .returned v' ∧ WrIn .i64 (In wx.heap.size w'.heap.size) w' v' (lensI D.hands) ∧ Below wx.heap.size wx w') := Lib.hid (fun wx hb => by rw [hn]; exact (sizesOf_any _ D.hands wx (hr0.below hb) f0 fs0).mono (fun e w' ⟨v', b', he, hlo, hw, hB⟩ => ⟨v', he, WrIn.of hw hlo, hB⟩))
    have HF := Lib.hid (And.intro G1 B0)
    have hjn : j < n := by rw [hn]; exact hj
    have Hhn := Lib.hid hn
    clear G0 G1 B0 B2 hr0 h3 h4 hv hcr hrr hsm hzr f0 fs0 f3 f4 hn hj
    go_upto_region 3 with fail
    refine wp_region_table [(0, some 19, .is (.int .i64 (j : Int))), (1, some 20, .is (.pointer (some ⟨w.heap.size, 0, none⟩))), (2, some 21, .is (.slice (some ⟨blk, off, none⟩) n c0)), (3, some 22, .is (.int .i64 (j : Int))), (4, some 23, .is (.pointer (some ⟨blk, off + j, none⟩))), (5, some 24, .is (.slice pr zr.length cr)), (6, some 25, .own (fun S w v => WrIn .i64 S w v (sortI zr)) (fun S w w' v h b => h.below b)), (7, some 26, .is (.pointer (some ⟨w.heap.size, 3, none⟩))), (8, some 27, .is (.slice p3 D.trick.length c3)), (9, some 28, .ints D.trick), (10, some 29, .is (.pointer (some ⟨w.heap.size, 1, none⟩))), (11, some 30, .is (.int .i64 D.leader)), (12, some 31, .is (.pointer (some ⟨w.heap.size, 2, none⟩))), (13, some 32, .is (.int .i64 D.trump)), (14, some 33, .is (.pointer (some ⟨w.heap.size, 0, none⟩))), (15, some 34, .is (.slice (some ⟨blk, off, none⟩) n c0)), (16, some 35, .own (fun S w v => WrIn .i64 S w v (lensI D.hands)) (fun S w w' v h b => h.below b)), (17, some 36, .is (.pointer (some ⟨w.heap.size, 4, none⟩))), (18, some 37, .is (.slice p4 D.won.length c4)), (19, some 38, .ints D.won), (20, some 39, .fn [6, 9, 16, 19] (fun vs => .agg #[.int .i64 (j : Int), vs.getD 0 undef, vs.getD 1 undef, .int .i64 D.leader, .int .i64 D.trump, vs.getD 2 undef, vs.getD 3 undef]))] 2 (by kernel_rfl) (by kernel_rfl) (by kernel_rfl) (by kernel_rfl) (by kernel_rfl) (L := #[true, true, true, true, true, true, true, true, true, true, true, true, true, true, true, true, true, true, true, true, true, false, false]) (by kernel_rfl) ?steps ?fin
    case steps =>
      refine StepsT.cons [] (by simp only [List.getElem?_toArray, List.getElem?_cons_succ, List.getElem?_cons_zero]; rfl) (by kernel_rfl) (by rfl) (fun wx val iv hB hV K hK => ?_) ?_
      · clear hV; simp only [putT, List.foldl_cons, List.foldl_nil, Made.val, Act.put, List.setIfInBounds_toArray, List.set_cons_zero, List.set_cons_succ]; go_simp; exact hK.out _ _ rfl (Below.refl _ _)
      refine StepsT.cons [] (by simp only [List.getElem?_toArray, List.getElem?_cons_succ, List.getElem?_cons_zero]; rfl) (by kernel_rfl) (by rfl) (fun wx val iv hB hV K hK => ?_) ?_
      · clear hV; simp only [putT, List.foldl_cons, List.foldl_nil, Made.val, Act.put, List.setIfInBounds_toArray, List.set_cons_zero, List.set_cons_succ]; go_simp; exact hK.out _ _ rfl (Below.refl _ _)
      refine StepsT.cons [(1, some 20, .is (.pointer (some ⟨w.heap.size, 0, none⟩)))] (by simp only [List.getElem?_toArray, List.getElem?_cons_succ, List.getElem?_cons_zero]; rfl) (by kernel_rfl) (by rfl) (fun wx val iv hB hV K hK => ?_) ?_
      · (obtain ⟨⟨k0, k1, k2, k3, k4⟩, kr⟩ := HC.out wx hB); clear hV; simp only [putT, List.foldl_cons, List.foldl_nil, Made.val, Act.put, List.setIfInBounds_toArray, List.set_cons_zero, List.set_cons_succ]; go_simp; exact hK.out _ _ rfl (Below.refl _ _)
      refine StepsT.cons [] (by simp only [List.getElem?_toArray, List.getElem?_cons_succ, List.getElem?_cons_zero]; rfl) (by kernel_rfl) (by rfl) (fun wx val iv hB hV K hK => ?_) ?_
      · clear hV; simp only [putT, List.foldl_cons, List.foldl_nil, Made.val, Act.put, List.setIfInBounds_toArray, List.set_cons_zero, List.set_cons_succ]; go_simp; exact hK.out _ _ rfl (Below.refl _ _)
      refine StepsT.cons [(2, some 21, .is (.slice (some ⟨blk, off, none⟩) n c0)), (3, some 22, .is (.int .i64 (j : Int)))] (by simp only [List.getElem?_toArray, List.getElem?_cons_succ, List.getElem?_cons_zero]; rfl) (by kernel_rfl) (by rfl) (fun wx val iv hB hV K hK => ?_) ?_
      · (obtain ⟨⟨k0, k1, k2, k3, k4⟩, kr⟩ := HC.out wx hB); clear hV; simp only [putT, List.foldl_cons, List.foldl_nil, Made.val, Act.put, List.setIfInBounds_toArray, List.set_cons_zero, List.set_cons_succ]; go_simp; exact hK.out _ _ rfl (Below.refl _ _)
      refine StepsT.cons [(4, some 23, .is (.pointer (some ⟨blk, off + j, none⟩)))] (by simp only [List.getElem?_toArray, List.getElem?_cons_succ, List.getElem?_cons_zero]; rfl) (by kernel_rfl) (by rfl) (fun wx val iv hB hV K hK => ?_) ?_
      · (obtain ⟨⟨k0, k1, k2, k3, k4⟩, kr⟩ := HC.out wx hB); clear hV; simp only [putT, List.foldl_cons, List.foldl_nil, Made.val, Act.put, List.setIfInBounds_toArray, List.set_cons_zero, List.set_cons_succ]; go_simp; exact hK.out _ _ rfl (Below.refl _ _)
      refine StepsT.cons [(5, some 24, .is (.slice pr zr.length cr))] (by simp only [List.getElem?_toArray, List.getElem?_cons_succ, List.getElem?_cons_zero]; rfl) (by kernel_rfl) (by rfl) (fun wx val iv hB hV K hK => ?_) ?_
      · (clear hV; simp only [putT, List.foldl_cons, List.foldl_nil, Made.val, Act.put, List.setIfInBounds_toArray, List.set_cons_zero, List.set_cons_succ]; go_simp; go_at_call 39; refine (HSo.out wx hB).mono ?_; rintro e wa ⟨va, rfl, hwa, Ba⟩; exact hK.out _ _ hwa Ba)
      refine StepsT.cons [] (by simp only [List.getElem?_toArray, List.getElem?_cons_succ, List.getElem?_cons_zero]; rfl) (by kernel_rfl) (by rfl) (fun wx val iv hB hV K hK => ?_) ?_
      · clear hV; simp only [putT, List.foldl_cons, List.foldl_nil, Made.val, Act.put, List.setIfInBounds_toArray, List.set_cons_zero, List.set_cons_succ]; go_simp; exact hK.out _ _ rfl (Below.refl _ _)
      refine StepsT.cons [(7, some 26, .is (.pointer (some ⟨w.heap.size, 3, none⟩)))] (by simp only [List.getElem?_toArray, List.getElem?_cons_succ, List.getElem?_cons_zero]; rfl) (by kernel_rfl) (by rfl) (fun wx val iv hB hV K hK => ?_) ?_
      · (obtain ⟨⟨k0, k1, k2, k3, k4⟩, kr⟩ := HC.out wx hB); clear hV; simp only [putT, List.foldl_cons, List.foldl_nil, Made.val, Act.put, List.setIfInBounds_toArray, List.set_cons_zero, List.set_cons_succ]; go_simp; exact hK.out _ _ rfl (Below.refl _ _)
      refine StepsT.cons [(6, some 25, .own (fun S w v => WrIn .i64 S w v (sortI zr)) (fun S w w' v h b => h.below b)), (8, some 27, .is (.slice p3 D.trick.length c3))] (by simp only [List.getElem?_toArray, List.getElem?_cons_succ, List.getElem?_cons_zero]; rfl) (by kernel_rfl) (by rfl) (fun wx val iv hB hV K hK => ?_) ?_
      · (clear hV; simp only [putT, List.foldl_cons, List.foldl_nil, Made.val, Act.put, List.setIfInBounds_toArray, List.set_cons_zero, List.set_cons_succ]; go_simp; go_at_call 40; refine (HCi3.out wx hB).mono ?_; rintro e wa ⟨va, rfl, hwa, Ba⟩; exact hK.out _ _ hwa Ba)
      refine StepsT.cons [] (by simp only [List.getElem?_toArray, List.getElem?_cons_succ, List.getElem?_cons_zero]; rfl) (by kernel_rfl) (by rfl) (fun wx val iv hB hV K hK => ?_) ?_
      · clear hV; simp only [putT, List.foldl_cons, List.foldl_nil, Made.val, Act.put, List.setIfInBounds_toArray, List.set_cons_zero, List.set_cons_succ]; go_simp; exact hK.out _ _ rfl (Below.refl _ _)
      refine StepsT.cons [(10, some 29, .is (.pointer (some ⟨w.heap.size, 1, none⟩)))] (by simp only [List.getElem?_toArray, List.getElem?_cons_succ, List.getElem?_cons_zero]; rfl) (by kernel_rfl) (by rfl) (fun wx val iv hB hV K hK => ?_) ?_
      · (obtain ⟨⟨k0, k1, k2, k3, k4⟩, kr⟩ := HC.out wx hB); clear hV; simp only [putT, List.foldl_cons, List.foldl_nil, Made.val, Act.put, List.setIfInBounds_toArray, List.set_cons_zero, List.set_cons_succ]; go_simp; exact hK.out _ _ rfl (Below.refl _ _)
      refine StepsT.cons [] (by simp only [List.getElem?_toArray, List.getElem?_cons_succ, List.getElem?_cons_zero]; rfl) (by kernel_rfl) (by rfl) (fun wx val iv hB hV K hK => ?_) ?_
      · clear hV; simp only [putT, List.foldl_cons, List.foldl_nil, Made.val, Act.put, List.setIfInBounds_toArray, List.set_cons_zero, List.set_cons_succ]; go_simp; exact hK.out _ _ rfl (Below.refl _ _)
      refine StepsT.cons [(12, some 31, .is (.pointer (some ⟨w.heap.size, 2, none⟩)))] (by simp only [List.getElem?_toArray, List.getElem?_cons_succ, List.getElem?_cons_zero]; rfl) (by kernel_rfl) (by rfl) (fun wx val iv hB hV K hK => ?_) ?_
      · (obtain ⟨⟨k0, k1, k2, k3, k4⟩, kr⟩ := HC.out wx hB); clear hV; simp only [putT, List.foldl_cons, List.foldl_nil, Made.val, Act.put, List.setIfInBounds_toArray, List.set_cons_zero, List.set_cons_succ]; go_simp; exact hK.out _ _ rfl (Below.refl _ _)
      refine StepsT.cons [] (by simp only [List.getElem?_toArray, List.getElem?_cons_succ, List.getElem?_cons_zero]; rfl) (by kernel_rfl) (by rfl) (fun wx val iv hB hV K hK => ?_) ?_
      · clear hV; simp only [putT, List.foldl_cons, List.foldl_nil, Made.val, Act.put, List.setIfInBounds_toArray, List.set_cons_zero, List.set_cons_succ]; go_simp; exact hK.out _ _ rfl (Below.refl _ _)
      refine StepsT.cons [(14, some 33, .is (.pointer (some ⟨w.heap.size, 0, none⟩)))] (by simp only [List.getElem?_toArray, List.getElem?_cons_succ, List.getElem?_cons_zero]; rfl) (by kernel_rfl) (by rfl) (fun wx val iv hB hV K hK => ?_) ?_
      · (obtain ⟨⟨k0, k1, k2, k3, k4⟩, kr⟩ := HC.out wx hB); clear hV; simp only [putT, List.foldl_cons, List.foldl_nil, Made.val, Act.put, List.setIfInBounds_toArray, List.set_cons_zero, List.set_cons_succ]; go_simp; exact hK.out _ _ rfl (Below.refl _ _)
      refine StepsT.cons [(9, some 28, .ints D.trick), (15, some 34, .is (.slice (some ⟨blk, off, none⟩) n c0))] (by simp only [List.getElem?_toArray, List.getElem?_cons_succ, List.getElem?_cons_zero]; rfl) (by kernel_rfl) (by rfl) (fun wx val iv hB hV K hK => ?_) ?_
      · (clear hV; simp only [putT, List.foldl_cons, List.foldl_nil, Made.val, Act.put, List.setIfInBounds_toArray, List.set_cons_zero, List.set_cons_succ]; go_simp; go_at_call 41; refine (HSz.out wx hB).mono ?_; rintro e wa ⟨va, rfl, hwa, Ba⟩; exact hK.out _ _ hwa Ba)
      refine StepsT.cons [] (by simp only [List.getElem?_toArray, List.getElem?_cons_succ, List.getElem?_cons_zero]; rfl) (by kernel_rfl) (by rfl) (fun wx val iv hB hV K hK => ?_) ?_
      · clear hV; simp only [putT, List.foldl_cons, List.foldl_nil, Made.val, Act.put, List.setIfInBounds_toArray, List.set_cons_zero, List.set_cons_succ]; go_simp; exact hK.out _ _ rfl (Below.refl _ _)
      refine StepsT.cons [(17, some 36, .is (.pointer (some ⟨w.heap.size, 4, none⟩)))] (by simp only [List.getElem?_toArray, List.getElem?_cons_succ, List.getElem?_cons_zero]; rfl) (by kernel_rfl) (by rfl) (fun wx val iv hB hV K hK => ?_) ?_
      · (obtain ⟨⟨k0, k1, k2, k3, k4⟩, kr⟩ := HC.out wx hB); clear hV; simp only [putT, List.foldl_cons, List.foldl_nil, Made.val, Act.put, List.setIfInBounds_toArray, List.set_cons_zero, List.set_cons_succ]; go_simp; exact hK.out _ _ rfl (Below.refl _ _)
      refine StepsT.cons [(16, some 35, .own (fun S w v => WrIn .i64 S w v (lensI D.hands)) (fun S w w' v h b => h.below b)), (18, some 37, .is (.slice p4 D.won.length c4))] (by simp only [List.getElem?_toArray, List.getElem?_cons_succ, List.getElem?_cons_zero]; rfl) (by kernel_rfl) (by rfl) (fun wx val iv hB hV K hK => ?_) ?_
      · (clear hV; simp only [putT, List.foldl_cons, List.foldl_nil, Made.val, Act.put, List.setIfInBounds_toArray, List.set_cons_zero, List.set_cons_succ]; go_simp; go_at_call 40; refine (HCi4.out wx hB).mono ?_; rintro e wa ⟨va, rfl, hwa, Ba⟩; exact hK.out _ _ hwa Ba)
      refine StepsT.cons [(0, some 19, .is (.int .i64 (j : Int))), (6, some 25, .own (fun S w v => WrIn .i64 S w v (sortI zr)) (fun S w w' v h b => h.below b)), (9, some 28, .ints D.trick), (11, some 30, .is (.int .i64 D.leader)), (13, some 32, .is (.int .i64 D.trump)), (16, some 35, .own (fun S w v => WrIn .i64 S w v (lensI D.hands)) (fun S w w' v h b => h.below b)), (19, some 38, .ints D.won)] (by simp only [List.getElem?_toArray, List.getElem?_cons_succ, List.getElem?_cons_zero]; rfl) (by kernel_rfl) (by rfl) (fun wx val iv hB hV K hK => ?_) ?_
      · (obtain ⟨q1, d1, e1⟩ := WrIn.shape (hV (6, some 25, .own (fun S w v => WrIn .i64 S w v (sortI zr)) (fun S w w' v h b => h.below b)) (by simp)); obtain ⟨q2, d2, e2⟩ := OwnI.shape (hV (9, some 28, .ints D.trick) (by simp)); obtain ⟨q5, d5, e5⟩ := WrIn.shape (hV (16, some 35, .own (fun S w v => WrIn .i64 S w v (lensI D.hands)) (fun S w w' v h b => h.below b)) (by simp)); obtain ⟨q6, d6, e6⟩ := OwnI.shape (hV (19, some 38, .ints D.won) (by simp)); (try dsimp only at e1 e2 e5 e6); clear hV; simp only [putT, List.foldl_cons, List.foldl_nil, Made.val, Act.put, List.setIfInBounds_toArray, List.set_cons_zero, List.set_cons_succ]; rw [e1, e2, e5, e6]; go_simp; rw [← e1, ← e2, ← e5, ← e6]; exact hK.out _ _ rfl (Below.refl _ _))
      exact StepsT.nil
    case fin =>
      intro wx val iv BX hV hD
      obtain ⟨h1, l1, u1⟩ := hV (6, some 25, .own (fun S w v => WrIn .i64 S w v (sortI zr)) (fun S w w' v h b => h.below b)) (by simp)
      obtain ⟨h2, l2, u2⟩ := hV (9, some 28, .ints D.trick) (by simp)
      obtain ⟨h5, l5, u5⟩ := hV (16, some 35, .own (fun S w v => WrIn .i64 S w v (lensI D.hands)) (fun S w w' v h b => h.below b)) (by simp)
      obtain ⟨h6, l6, u6⟩ := hV (19, some 38, .ints D.won) (by simp)
      obtain ⟨e20, -, -⟩ := hV (20, some 39, .fn [6, 9, 16, 19] (fun vs => .agg #[.int .i64 (j : Int), vs.getD 0 undef, vs.getD 1 undef, .int .i64 D.leader, .int .i64 D.trump, vs.getD 2 undef, vs.getD 3 undef])) (by simp)
      have x1 := hD 6 (by simp) 9 (by simp) (by decide)
      have x2 := hD 6 (by simp) 16 (by simp) (by decide)
      have x3 := hD 6 (by simp) 19 (by simp) (by decide)
      have x4 := hD 9 (by simp) 16 (by simp) (by decide)
      have x5 := hD 9 (by simp) 19 (by simp) (by decide)
      have x6 := hD 16 (by simp) 19 (by simp) (by decide)
      obtain ⟨q1, d1, e1⟩ := WrIn.shape h1
      obtain ⟨q2, d2, e2⟩ := OwnI.shape h2
      obtain ⟨q5, d5, e5⟩ := WrIn.shape h5
      obtain ⟨q6, d6, e6⟩ := OwnI.shape h6
      (try dsimp only at e1 e2 e5 e6)
      replace e20 : val 20 = Value.agg #[.int .i64 (j : Int), val 6, val 9, .int .i64 D.leader, .int .i64 D.trump, val 16, val 19] := e20
      rw [e1, e2, e5, e6] at e20
      dsimp only [Made.means] at h1 h2 h5 h6
      dsimp only at l1 u1 l2 u2 l5 u5 l6 u6
      rw [e1] at h1
      rw [e2] at h2
      rw [e5] at h5
      rw [e6] at h6
      obtain ⟨G1, B0⟩ := HF.out
      have hl2 := (Array.getElem?_eq_some_iff.1 G1).1
      have G1x := (BX.block _ hl2).trans G1
      have HX := Lib.hid (sight_laid (lo := w.heap.size) (w0 := w) (M := ⟨(j : Int), sortI zr, D.trick, D.leader, D.trump, lensI D.hands, D.won⟩) h1 h2.wr h5 h6.wr ⟨by omega, by omega⟩ ⟨by omega, by omega⟩ ⟨by omega, by omega⟩ ⟨by omega, by omega⟩ x1 x2 x3 x4 x5 x6 (by have := Hhn.out; have := Hf.out.1; show (Lit.int .i64 (j : Int)).wf = true; exact WalkArith.wf_i64 (by omega)) Hwf.out.1 Hwf.out.2 (by omega) (by omega) (by omega) (by omega) (Nat.le_succ _) G1x (B0.trans (BX.mono B0.size)))
      clear hV hD h1 h2 h5 h6 x1 x2 x3 x4 x5 x6 l1 u1 l2 u2 l5 u5 l6 u6 G1 B0 hl2
      simp only [putT, List.foldl_cons, List.foldl_nil, Made.val, Act.put, List.setIfInBounds_toArray, List.set_cons_zero, List.set_cons_succ]
      rw [e20, e1, e2, e5, e6]
      clear e20 e1 e2 e5 e6
      refine wpAny_one (i := 21) (by kernel_rfl) (by simp only [List.getElem?_toArray, List.getElem?_cons_succ, List.getElem?_cons_zero]; rfl) (fun K hK => ?_)
      rw [if_pos (by rfl)]
      refine wp_store_row 28 (.tmp 4) (.tmp 39) (by rfl) (w.heap.size + 1) #[.int .i64 (j : Int), .slice q1 (sortI zr).length d1, .slice q2 D.trick.length d2, .int .i64 D.leader, .int .i64 D.trump, .slice q5 (lensI D.hands).length d5, .slice q6 D.won.length d6] (by rfl) (by rfl) 28 _ G1x (by kernel_rfl) (by rfl) (by simp [Value.oneCell']) (hK.out _ _ ?_)
      clear hK K
      refine wpAny_one (i := 22) (by kernel_rfl) (by simp only [List.getElem?_toArray, List.getElem?_cons_succ, List.getElem?_cons_zero]; rfl) (fun K hK => ?_)
      go_simp
      refine hK.out _ _ ?_
      clear hK K G1x
      refine wpAny_end (by kernel_rfl) ?_
      go_wp2_with fail
      refine bodyPost_ret (results_row_tmp rfl _ _ (w.heap.size + 1) _ _ _ _ rfl HX.out.1 Tryd.underlying28 rfl (by kernel_rfl)) rfl ?_
      rw [HOK.out, HE.out]
      exact ⟨_, rfl, HX.out.2.1, HX.out.2.2⟩
end Go.Proofs.YtbojhbhniollaaaDoor
