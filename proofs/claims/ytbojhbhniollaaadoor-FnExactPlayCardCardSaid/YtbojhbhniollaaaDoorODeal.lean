/-
  A deal in a box of the call's own, changed in place.
-/
import Derived.Test.YtbojhbhniollaaaDoorSwapH
namespace Go.Proofs.YtbojhbhniollaaaDoor
open Go.RowKit
set_option linter.unusedVariables false
set_option linter.unusedSimpArgs false

def OD (lo o : Nat) (w : World) (D : MDeal) (q0 q3 q4 q5 : Option Addr) (d0 d3 d4 d5 n m n4 n5 : Nat) : Prop :=
  ∃ (S0 S3 S4 S5 : Nat → Prop), lo ≤ o ∧ (n = D.hands.length ∧ m = D.trick.length ∧ n4 = D.won.length ∧ n5 = D.points.length) ∧ w.heap[o]? = some (.cells #[.slice q0 n d0, .int .i64 D.leader, .int .i64 D.trump, .slice q3 m d3, .slice q4 n4 d4, .slice q5 n5 d5, .int .i64 D.left] 31 (0, 0)) ∧ OwnR S0 w (.slice q0 n d0) D.hands ∧ OwnI S3 w (.slice q3 m d3) D.trick ∧ OwnI S4 w (.slice q4 n4 d4) D.won ∧ OwnI S5 w (.slice q5 n5 d5) D.points ∧ (∀ b, S0 b → lo ≤ b ∧ b < w.heap.size ∧ b ≠ o) ∧ (∀ b, S3 b → lo ≤ b ∧ b < w.heap.size ∧ b ≠ o) ∧ (∀ b, S4 b → lo ≤ b ∧ b < w.heap.size ∧ b ≠ o) ∧ (∀ b, S5 b → lo ≤ b ∧ b < w.heap.size ∧ b ≠ o) ∧ (∀ b, S0 b → ¬ S3 b) ∧ (∀ b, S0 b → ¬ S4 b) ∧ (∀ b, S0 b → ¬ S5 b) ∧ (∀ b, S3 b → ¬ S4 b) ∧ (∀ b, S3 b → ¬ S5 b) ∧ (∀ b, S4 b → ¬ S5 b) ∧ (Lit.int .i64 D.leader).wf = true ∧ (Lit.int .i64 D.trump).wf = true ∧ (Lit.int .i64 D.left).wf = true
theorem OD.cells {lo o n m n4 n5 d0 d3 d4 d5 : Nat} {q0 q3 q4 q5 : Option Addr} {D : MDeal} {w : World} (h : OD lo o w D q0 q3 q4 q5 d0 d3 d4 d5 n m n4 n5) : w.heap[o]? = some (.cells #[.slice q0 n d0, .int .i64 D.leader, .int .i64 D.trump, .slice q3 m d3, .slice q4 n4 d4, .slice q5 n5 d5, .int .i64 D.left] 31 (0, 0)) := by
  obtain ⟨S0, S3, S4, S5, hlo, ⟨en, em, e4, e5⟩, g, h0, h3, h4, h5, s0, s3, s4, s5, x1, x2, x3, x4, x5, x6, wf0, wf1, wf2⟩ := h
  exact g
theorem OD.lens {lo o n m n4 n5 d0 d3 d4 d5 : Nat} {q0 q3 q4 q5 : Option Addr} {D : MDeal} {w : World} (h : OD lo o w D q0 q3 q4 q5 d0 d3 d4 d5 n m n4 n5) : lo ≤ o ∧ o < w.heap.size ∧ n = D.hands.length ∧ m = D.trick.length ∧ n4 = D.won.length ∧ n5 = D.points.length := by
  obtain ⟨S0, S3, S4, S5, hlo, ⟨en, em, e4, e5⟩, g, h0, h3, h4, h5, s0, s3, s4, s5, x1, x2, x3, x4, x5, x6, wf0, wf1, wf2⟩ := h
  exact ⟨hlo, (Array.getElem?_eq_some_iff.1 g).1, en, em, e4, e5⟩
theorem OD.of {lo o hi d0 d3 d4 d5 : Nat} {q0 q3 q4 q5 : Option Addr} {D : MDeal} {w : World} (h : OwnDeal (In lo hi) w (.agg #[.slice q0 D.hands.length d0, .int .i64 D.leader, .int .i64 D.trump, .slice q3 D.trick.length d3, .slice q4 D.won.length d4, .slice q5 D.points.length d5, .int .i64 D.left]) D) (hlo : lo ≤ o) (hhi : hi ≤ o) (g : w.heap[o]? = some (.cells #[.slice q0 D.hands.length d0, .int .i64 D.leader, .int .i64 D.trump, .slice q3 D.trick.length d3, .slice q4 D.won.length d4, .slice q5 D.points.length d5, .int .i64 D.left] 31 (0, 0))) :
    OD lo o w D q0 q3 q4 q5 d0 d3 d4 d5 D.hands.length D.trick.length D.won.length D.points.length := by
  obtain ⟨p0, p3, p4, p5, c0, c3, c4, c5, S0, S3, S4, S5, e, h0, h3, h4, h5, s0, s3, s4, s5, r⟩ := h
  simp at e
  obtain ⟨⟨rfl, rfl⟩, ⟨rfl, rfl⟩, ⟨rfl, rfl⟩, rfl, rfl⟩ := e
  have hg := (Array.getElem?_eq_some_iff.1 g).1
  have key : ∀ b, In lo hi b → lo ≤ b ∧ b < w.heap.size ∧ b ≠ o := fun b hb => by obtain ⟨h1, h2⟩ := hb; exact ⟨h1, by omega, by omega⟩
  exact ⟨S0, S3, S4, S5, hlo, ⟨rfl, rfl, rfl, rfl⟩, g, h0, h3, h4, h5, fun b hb => key b (s0 b hb), fun b hb => key b (s3 b hb), fun b hb => key b (s4 b hb), fun b hb => key b (s5 b hb), r⟩
theorem OD.rd {lo o n m n4 n5 d0 d3 d4 d5 : Nat} {q0 q3 q4 q5 : Option Addr} {D : MDeal} {w : World} (h : OD lo o w D q0 q3 q4 q5 d0 d3 d4 d5 n m n4 n5) : RdRows .i64 w (.slice q0 n d0) D.hands ∧ (∃ b, RdAt .i64 w (.slice q3 m d3) D.trick b) ∧ (∃ b, RdAt .i64 w (.slice q4 n4 d4) D.won b) ∧ (∃ b, RdAt .i64 w (.slice q5 n5 d5) D.points b) := by
  obtain ⟨S0, S3, S4, S5, hlo, ⟨en, em, e4, e5⟩, g, h0, h3, h4, h5, s0, s3, s4, s5, x1, x2, x3, x4, x5, x6, wf0, wf1, wf2⟩ := h
  exact ⟨h0.ss.rd, h3.wr.rd, h4.wr.rd, h5.wr.rd⟩
theorem OD.below {lo o n m n4 n5 d0 d3 d4 d5 : Nat} {q0 q3 q4 q5 : Option Addr} {D : MDeal} {w : World} {w' : World} (h : OD lo o w D q0 q3 q4 q5 d0 d3 d4 d5 n m n4 n5) (b : Below w.heap.size w w') : OD lo o w' D q0 q3 q4 q5 d0 d3 d4 d5 n m n4 n5 := by
  obtain ⟨S0, S3, S4, S5, hlo, ⟨en, em, e4, e5⟩, g, h0, h3, h4, h5, s0, s3, s4, s5, x1, x2, x3, x4, x5, x6, wf0, wf1, wf2⟩ := h
  have hs := b.size
  exact ⟨S0, S3, S4, S5, hlo, ⟨en, em, e4, e5⟩, (b.block _ (Array.getElem?_eq_some_iff.1 g).1).trans g, h0.below b, h3.below b, h4.below b, h5.below b, fun y hy => ⟨(s0 y hy).1, Nat.lt_of_lt_of_le (s0 y hy).2.1 hs, (s0 y hy).2.2⟩, fun y hy => ⟨(s3 y hy).1, Nat.lt_of_lt_of_le (s3 y hy).2.1 hs, (s3 y hy).2.2⟩, fun y hy => ⟨(s4 y hy).1, Nat.lt_of_lt_of_le (s4 y hy).2.1 hs, (s4 y hy).2.2⟩, fun y hy => ⟨(s5 y hy).1, Nat.lt_of_lt_of_le (s5 y hy).2.1 hs, (s5 y hy).2.2⟩, x1, x2, x3, x4, x5, x6, wf0, wf1, wf2⟩
theorem OD.hand {lo o n m n4 n5 d0 d3 d4 d5 : Nat} {q0 q3 q4 q5 : Option Addr} {D : MDeal} {w : World} (h : OD lo o w D q0 q3 q4 q5 d0 d3 d4 d5 n m n4 n5) {j : Nat} (hj : j < D.hands.length) :
    ∃ gb r, q0 = some ⟨gb, 0, none⟩ ∧ w.cell? ⟨gb, j, none⟩ = some r ∧ w.frozen? ⟨gb, j, none⟩ = false ∧ lo ≤ gb ∧ gb < w.heap.size ∧ gb ≠ o ∧ (∃ b, RdAt .i64 w r D.hands[j] b) := by
  obtain ⟨S0, S3, S4, S5, hlo, ⟨en, em, e4, e5⟩, g, h0, h3, h4, h5, s0, s3, s4, s5, x1, x2, x3, x4, x5, x6, wf0, wf1, wf2⟩ := h
  rw [en] at h0
  obtain ⟨hb, cap, r, e1, hS, hbl, hc, hf, ho⟩ := h0.row hj
  exact ⟨hb, r, (Value.slice.inj e1).1, hc, hf, (s0 hb hS).1, hbl, (s0 hb hS).2.2, ho.wr.rd⟩
theorem OD.putHand {lo o n m n4 n5 d0 d3 d4 d5 : Nat} {q0 q3 q4 q5 : Option Addr} {D : MDeal} {w : World} {w1 : World} {gb j : Nat} {r r' : Value} {zs' : List Int} (h : OD lo o w D q0 q3 q4 q5 d0 d3 d4 d5 n m n4 n5) (hj : j < D.hands.length) (hq : q0 = some ⟨gb, 0, none⟩) (hr : w.cell? ⟨gb, j, none⟩ = some r) (B : Below w.heap.size w w1) (ho : OwnI (In w.heap.size w1.heap.size) w1 r' zs') :
    OD lo o (w1.setCell ⟨gb, j, none⟩ r') { D with hands := D.hands.set j zs' } q0 q3 q4 q5 d0 d3 d4 d5 n m n4 n5 := by
  obtain ⟨S0, S3, S4, S5, hlo, ⟨en, em, e4, e5⟩, g, h0, h3, h4, h5, s0, s3, s4, s5, x1, x2, x3, x4, x5, x6, wf0, wf1, wf2⟩ := h
  subst hq en
  have hgb : S0 gb := by
    obtain ⟨hb, cap, r1, e1, hS, -⟩ := h0.row hj
    have := (Value.slice.inj e1).1
    have : gb = hb := by simpa using this
    rw [this]; exact hS
  have hsz := B.size
  have hp := h0.put hj rfl hr ⟨B.os, B.tape, B.output, B.size, fun k hk _ => B.block k hk⟩ (ho.mono (fun b hb _ => .inr hb))
  have ts := touchCell w1 gb j r'
  have hs1 : (w1.setCell ⟨gb, j, none⟩ r').heap.size = w1.heap.size := by simp [World.setCell]
  have hg := (Array.getElem?_eq_some_iff.1 g).1
  refine ⟨fun b => S0 b ∨ (w.heap.size ≤ b ∧ b < w1.heap.size), S3, S4, S5, hlo, ⟨by simp, em, e4, e5⟩, ?_, hp, (h3.below B).touch ts (fun b hb e => x1 gb hgb (e ▸ hb)), (h4.below B).touch ts (fun b hb e => x2 gb hgb (e ▸ hb)), (h5.below B).touch ts (fun b hb e => x3 gb hgb (e ▸ hb)), ?_, fun y hy => ⟨(s3 y hy).1, by have := (s3 y hy).2.1; omega, (s3 y hy).2.2⟩, fun y hy => ⟨(s4 y hy).1, by have := (s4 y hy).2.1; omega, (s4 y hy).2.2⟩, fun y hy => ⟨(s5 y hy).1, by have := (s5 y hy).2.1; omega, (s5 y hy).2.2⟩, ?_, ?_, ?_, x4, x5, x6, wf0, wf1, wf2⟩
  · rw [Below.heap_setCell _ _ _ _ (show o ≠ gb from fun e => (s0 gb hgb).2.2 e.symm), B.block _ hg]; exact g
  · intro y hy
    rcases hy with hy | hy
    · exact ⟨(s0 y hy).1, by have := (s0 y hy).2.1; omega, (s0 y hy).2.2⟩
    · exact ⟨by omega, by omega, by omega⟩
  · intro b hb hc
    rcases hb with hb | hb
    · exact x1 b hb hc
    · have := (s3 b hc).2.1; omega
  · intro b hb hc
    rcases hb with hb | hb
    · exact x2 b hb hc
    · have := (s4 b hc).2.1; omega
  · intro b hb hc
    rcases hb with hb | hb
    · exact x3 b hb hc
    · have := (s5 b hc).2.1; omega
theorem OD.trickI {lo o n m n4 n5 d0 d3 d4 d5 : Nat} {q0 q3 q4 q5 : Option Addr} {D : MDeal} {w : World} (h : OD lo o w D q0 q3 q4 q5 d0 d3 d4 d5 n m n4 n5) : OwnI (fun b => lo ≤ b ∧ b < w.heap.size ∧ b ≠ o) w (.slice q3 m d3) D.trick := by
  obtain ⟨S0, S3, S4, S5, hlo, ⟨en, em, e4, e5⟩, g, h0, h3, h4, h5, s0, s3, s4, s5, x1, x2, x3, x4, x5, x6, wf0, wf1, wf2⟩ := h
  exact h3.mono (fun b hb _ => s3 b hb)
theorem OD.addTrick {lo o n m n4 n5 d0 d3 d4 d5 : Nat} {q0 q3 q4 q5 : Option Addr} {D : MDeal} {w : World} {w' : World} {q3' : Option Addr} {d3' : Nat} {c : Int} (h : OD lo o w D q0 q3 q4 q5 d0 d3 d4 d5 n m n4 n5) (gr : w.grownBy w' (Value.slice q3 m d3).held) (ho : OwnI (fun b => (Value.slice q3 m d3).held = some b ∨ (w.heap.size ≤ b ∧ b < w'.heap.size)) w' (.slice q3' (m + 1) d3') (D.trick ++ [c])) :
    OD lo o (w'.setCell ⟨o, 3, none⟩ (.slice q3' (m + 1) d3')) { D with trick := D.trick ++ [c] } q0 q3' q4 q5 d0 d3' d4 d5 n (m + 1) n4 n5 := by
  obtain ⟨S0, S3, S4, S5, hlo, ⟨en, em, e4, e5⟩, g, h0, h3, h4, h5, s0, s3, s4, s5, x1, x2, x3, x4, x5, x6, wf0, wf1, wf2⟩ := h
  have hh : ∀ b, (Value.slice q3 m d3).held = some b → S3 b := fun b hb => (h3.held hb).1
  have t1 : Touch (fun k => (Value.slice q3 m d3).held = some k) w w' := ⟨gr.os, gr.tape, gr.output, gr.size, fun k hk hn => gr.block k hk (fun e => hn e.symm)⟩
  have t2 := touchCell w' o 3 (.slice q3' (m + 1) d3')
  have hs := gr.size
  have hs2 : (w'.setCell ⟨o, 3, none⟩ (.slice q3' (m + 1) d3')).heap.size = w'.heap.size := by simp [World.setCell]
  have hrl := (Array.getElem?_eq_some_iff.1 g).1
  have g' : w'.heap[o]? = some (.cells #[.slice q0 n d0, .int .i64 D.leader, .int .i64 D.trump, .slice q3 m d3, .slice q4 n4 d4, .slice q5 n5 d5, .int .i64 D.left] 31 (0, 0)) := (t1.block o hrl (fun e => (s3 o (hh o e)).2.2 rfl)).trans g
  have g2 := box_set g' 3 (.slice q3' (m + 1) d3')
  simp only [List.setIfInBounds_toArray, List.set_cons_zero, List.set_cons_succ] at g2
  refine ⟨S0, fun b => (Value.slice q3 m d3).held = some b ∨ (w.heap.size ≤ b ∧ b < w'.heap.size), S4, S5, hlo, ⟨en, by simp [em], e4, e5⟩, g2, (h0.touch t1 (fun b hb e => x1 b hb (hh b e))).touch t2 (fun b hb e => (s0 b hb).2.2 e), ?_, (h4.touch t1 (fun b hb e => x4 b (hh b e) hb)).touch t2 (fun b hb e => (s4 b hb).2.2 e), (h5.touch t1 (fun b hb e => x5 b (hh b e) hb)).touch t2 (fun b hb e => (s5 b hb).2.2 e), fun y hy => ⟨(s0 y hy).1, by have := (s0 y hy).2.1; omega, (s0 y hy).2.2⟩, ?_, fun y hy => ⟨(s4 y hy).1, by have := (s4 y hy).2.1; omega, (s4 y hy).2.2⟩, fun y hy => ⟨(s5 y hy).1, by have := (s5 y hy).2.1; omega, (s5 y hy).2.2⟩, ?_, x2, x3, ?_, ?_, x6, wf0, wf1, wf2⟩
  · refine ho.touch t2 (fun b hb e => ?_)
    rcases hb with hb | hb
    · exact (s3 b (hh b hb)).2.2 e
    · omega
  · intro y hy
    rcases hy with hy | hy
    · have := s3 y (hh y hy); exact ⟨this.1, by omega, this.2.2⟩
    · exact ⟨by omega, by omega, by omega⟩
  · intro b hb hc
    rcases hc with hc | hc
    · exact x1 b hb (hh b hc)
    · have := (s0 b hb).2.1; omega
  · intro b hc hb
    rcases hc with hc | hc
    · exact x4 b (hh b hc) hb
    · have := (s4 b hb).2.1; omega
  · intro b hc hb
    rcases hc with hc | hc
    · exact x5 b (hh b hc) hb
    · have := (s5 b hb).2.1; omega
theorem OD.setWon {lo o n m n4 n5 d0 d3 d4 d5 : Nat} {q0 q3 q4 q5 : Option Addr} {D : MDeal} {w : World} (h : OD lo o w D q0 q3 q4 q5 d0 d3 d4 d5 n m n4 n5) {i : Nat} (hi : i < D.won.length) {x : Int} (hx : (Lit.int .i64 x).wf = true) :
    ∃ b off, q4 = some ⟨b, off, none⟩ ∧ w.cell? ⟨b, off + i, none⟩ = some (.int .i64 D.won[i]) ∧ w.frozen? ⟨b, off + i, none⟩ = false ∧ lo ≤ b ∧ b < w.heap.size ∧ OD lo o (w.setCell ⟨b, off + i, none⟩ (.int .i64 x)) { D with won := D.won.set i x } q0 q3 q4 q5 d0 d3 d4 d5 n m n4 n5 := by
  obtain ⟨S0, S3, S4, S5, hlo, ⟨en, em, e4, e5⟩, g, h0, h3, h4, h5, s0, s3, s4, s5, x1, x2, x3, x4, x5, x6, wf0, wf1, wf2⟩ := h
  subst e4
  obtain ⟨b, off, e, hS, -, hc, hf, ho⟩ := h4.setAt hi hx
  have t := touchCell w b (off + i) (.int .i64 x)
  have hs : (w.setCell ⟨b, off + i, none⟩ (.int .i64 x)).heap.size = w.heap.size := by simp [World.setCell]
  refine ⟨b, off, e, hc, hf, (s4 b hS).1, (s4 b hS).2.1, S0, S3, S4, S5, hlo, ⟨en, em, by simp, e5⟩, ?_, h0.touch t (fun y hy e => x2 b (e ▸ hy) hS), h3.touch t (fun y hy e => x4 b (e ▸ hy) hS), ho, h5.touch t (fun y hy e => x6 b hS (e ▸ hy)), fun y hy => ⟨(s0 y hy).1, by have := (s0 y hy).2.1; omega, (s0 y hy).2.2⟩, fun y hy => ⟨(s3 y hy).1, by have := (s3 y hy).2.1; omega, (s3 y hy).2.2⟩, fun y hy => ⟨(s4 y hy).1, by have := (s4 y hy).2.1; omega, (s4 y hy).2.2⟩, fun y hy => ⟨(s5 y hy).1, by have := (s5 y hy).2.1; omega, (s5 y hy).2.2⟩, x1, x2, x3, x4, x5, x6, wf0, wf1, wf2⟩
  · rw [Below.heap_setCell _ _ _ _ (show o ≠ b from fun e => (s4 b hS).2.2 e.symm)]; exact g
theorem OD.setPoints {lo o n m n4 n5 d0 d3 d4 d5 : Nat} {q0 q3 q4 q5 : Option Addr} {D : MDeal} {w : World} (h : OD lo o w D q0 q3 q4 q5 d0 d3 d4 d5 n m n4 n5) {i : Nat} (hi : i < D.points.length) {x : Int} (hx : (Lit.int .i64 x).wf = true) :
    ∃ b off, q5 = some ⟨b, off, none⟩ ∧ w.cell? ⟨b, off + i, none⟩ = some (.int .i64 D.points[i]) ∧ w.frozen? ⟨b, off + i, none⟩ = false ∧ lo ≤ b ∧ b < w.heap.size ∧ OD lo o (w.setCell ⟨b, off + i, none⟩ (.int .i64 x)) { D with points := D.points.set i x } q0 q3 q4 q5 d0 d3 d4 d5 n m n4 n5 := by
  obtain ⟨S0, S3, S4, S5, hlo, ⟨en, em, e4, e5⟩, g, h0, h3, h4, h5, s0, s3, s4, s5, x1, x2, x3, x4, x5, x6, wf0, wf1, wf2⟩ := h
  subst e5
  obtain ⟨b, off, e, hS, -, hc, hf, ho⟩ := h5.setAt hi hx
  have t := touchCell w b (off + i) (.int .i64 x)
  have hs : (w.setCell ⟨b, off + i, none⟩ (.int .i64 x)).heap.size = w.heap.size := by simp [World.setCell]
  refine ⟨b, off, e, hc, hf, (s5 b hS).1, (s5 b hS).2.1, S0, S3, S4, S5, hlo, ⟨en, em, e4, by simp⟩, ?_, h0.touch t (fun y hy e => x3 b (e ▸ hy) hS), h3.touch t (fun y hy e => x5 b (e ▸ hy) hS), h4.touch t (fun y hy e => x6 b (e ▸ hy) hS), ho, fun y hy => ⟨(s0 y hy).1, by have := (s0 y hy).2.1; omega, (s0 y hy).2.2⟩, fun y hy => ⟨(s3 y hy).1, by have := (s3 y hy).2.1; omega, (s3 y hy).2.2⟩, fun y hy => ⟨(s4 y hy).1, by have := (s4 y hy).2.1; omega, (s4 y hy).2.2⟩, fun y hy => ⟨(s5 y hy).1, by have := (s5 y hy).2.1; omega, (s5 y hy).2.2⟩, x1, x2, x3, x4, x5, x6, wf0, wf1, wf2⟩
  · rw [Below.heap_setCell _ _ _ _ (show o ≠ b from fun e => (s5 b hS).2.2 e.symm)]; exact g
theorem OD.setLeader {lo o n m n4 n5 d0 d3 d4 d5 : Nat} {q0 q3 q4 q5 : Option Addr} {D : MDeal} {w : World} (h : OD lo o w D q0 q3 q4 q5 d0 d3 d4 d5 n m n4 n5) {x : Int} (hx : (Lit.int .i64 x).wf = true) :
    OD lo o (w.setCell ⟨o, 1, none⟩ (.int .i64 x)) { D with leader := x } q0 q3 q4 q5 d0 d3 d4 d5 n m n4 n5 := by
  obtain ⟨S0, S3, S4, S5, hlo, ⟨en, em, e4, e5⟩, g, h0, h3, h4, h5, s0, s3, s4, s5, x1, x2, x3, x4, x5, x6, wf0, wf1, wf2⟩ := h
  have t := touchCell w o 1 (.int .i64 x)
  have hs : (w.setCell ⟨o, 1, none⟩ (.int .i64 x)).heap.size = w.heap.size := by simp [World.setCell]
  have g2 := box_set g 1 (.int .i64 x)
  simp only [List.setIfInBounds_toArray, List.set_cons_zero, List.set_cons_succ] at g2
  exact ⟨S0, S3, S4, S5, hlo, ⟨en, em, e4, e5⟩, g2, h0.touch t (fun y hy e => (s0 y hy).2.2 e), h3.touch t (fun y hy e => (s3 y hy).2.2 e), h4.touch t (fun y hy e => (s4 y hy).2.2 e), h5.touch t (fun y hy e => (s5 y hy).2.2 e), fun y hy => ⟨(s0 y hy).1, by have := (s0 y hy).2.1; omega, (s0 y hy).2.2⟩, fun y hy => ⟨(s3 y hy).1, by have := (s3 y hy).2.1; omega, (s3 y hy).2.2⟩, fun y hy => ⟨(s4 y hy).1, by have := (s4 y hy).2.1; omega, (s4 y hy).2.2⟩, fun y hy => ⟨(s5 y hy).1, by have := (s5 y hy).2.1; omega, (s5 y hy).2.2⟩, x1, x2, x3, x4, x5, x6, hx, wf1, wf2⟩
theorem OD.noTrick {lo o n m n4 n5 d0 d3 d4 d5 : Nat} {q0 q3 q4 q5 : Option Addr} {D : MDeal} {w : World} (h : OD lo o w D q0 q3 q4 q5 d0 d3 d4 d5 n m n4 n5) (gb : Nat) :
    OD lo o (w.setCell ⟨o, 3, none⟩ (.slice (some ⟨gb, 0, none⟩) 0 0)) { D with trick := [] } q0 (some ⟨gb, 0, none⟩) q4 q5 d0 0 d4 d5 n 0 n4 n5 := by
  obtain ⟨S0, S3, S4, S5, hlo, ⟨en, em, e4, e5⟩, g, h0, h3, h4, h5, s0, s3, s4, s5, x1, x2, x3, x4, x5, x6, wf0, wf1, wf2⟩ := h
  have t := touchCell w o 3 (.slice (some ⟨gb, 0, none⟩) 0 0)
  have hs : (w.setCell ⟨o, 3, none⟩ (.slice (some ⟨gb, 0, none⟩) 0 0)).heap.size = w.heap.size := by simp [World.setCell]
  have g2 := box_set g 3 (.slice (some ⟨gb, 0, none⟩) 0 0)
  simp only [List.setIfInBounds_toArray, List.set_cons_zero, List.set_cons_succ] at g2
  exact ⟨S0, fun _ => False, S4, S5, hlo, ⟨en, rfl, e4, e5⟩, g2, h0.touch t (fun y hy e => (s0 y hy).2.2 e), OwnI.nil _ _ _, h4.touch t (fun y hy e => (s4 y hy).2.2 e), h5.touch t (fun y hy e => (s5 y hy).2.2 e), fun y hy => ⟨(s0 y hy).1, by have := (s0 y hy).2.1; omega, (s0 y hy).2.2⟩, fun y hy => hy.elim, fun y hy => ⟨(s4 y hy).1, by have := (s4 y hy).2.1; omega, (s4 y hy).2.2⟩, fun y hy => ⟨(s5 y hy).1, by have := (s5 y hy).2.1; omega, (s5 y hy).2.2⟩, fun _ _ hc => hc, x2, x3, fun _ hc => hc.elim, fun _ hc => hc.elim, x6, wf0, wf1, wf2⟩
theorem OD.final {lo o n m n4 n5 d0 d3 d4 d5 : Nat} {q0 q3 q4 q5 : Option Addr} {D : MDeal} {w : World} {lo' r : Nat} {w0 : World} {old : Array Value} (h : OD lo o w D q0 q3 q4 q5 d0 d3 d4 d5 n m n4 n5) (hr : r < lo) (hlo' : lo' ≤ r) (g1 : w.heap[r]? = some (.cells old 31 (0, 0))) (B : Below lo' w0 w) :
    (w.setRow r #[.slice q0 n d0, .int .i64 D.leader, .int .i64 D.trump, .slice q3 m d3, .slice q4 n4 d4, .slice q5 n5 d5, .int .i64 D.left]).heap[r]? = some (.cells #[.slice q0 n d0, .int .i64 D.leader, .int .i64 D.trump, .slice q3 m d3, .slice q4 n4 d4, .slice q5 n5 d5, .int .i64 D.left] 31 (0, 0)) ∧ WrDeal (In lo' (w.setRow r #[.slice q0 n d0, .int .i64 D.leader, .int .i64 D.trump, .slice q3 m d3, .slice q4 n4 d4, .slice q5 n5 d5, .int .i64 D.left]).heap.size) (w.setRow r #[.slice q0 n d0, .int .i64 D.leader, .int .i64 D.trump, .slice q3 m d3, .slice q4 n4 d4, .slice q5 n5 d5, .int .i64 D.left]) (.agg #[.slice q0 n d0, .int .i64 D.leader, .int .i64 D.trump, .slice q3 m d3, .slice q4 n4 d4, .slice q5 n5 d5, .int .i64 D.left]) D ∧ Below lo' w0 (w.setRow r #[.slice q0 n d0, .int .i64 D.leader, .int .i64 D.trump, .slice q3 m d3, .slice q4 n4 d4, .slice q5 n5 d5, .int .i64 D.left]) := by
  obtain ⟨S0, S3, S4, S5, hlo, ⟨en, em, e4, e5⟩, g, h0, h3, h4, h5, s0, s3, s4, s5, x1, x2, x3, x4, x5, x6, wf0, wf1, wf2⟩ := h
  subst en em e4 e5
  have tR := touchRow w r #[.slice q0 D.hands.length d0, .int .i64 D.leader, .int .i64 D.trump, .slice q3 D.trick.length d3, .slice q4 D.won.length d4, .slice q5 D.points.length d5, .int .i64 D.left]
  have hs : (w.setRow r #[.slice q0 D.hands.length d0, .int .i64 D.leader, .int .i64 D.trump, .slice q3 D.trick.length d3, .slice q4 D.won.length d4, .slice q5 D.points.length d5, .int .i64 D.left]).heap.size = w.heap.size := by simp [World.setRow]
  refine ⟨setRow_heap _ _ _ _ _ _ g1, ⟨q0, q3, q4, q5, d0, d3, d4, d5, S0, S3, S4, S5, rfl, h0.ss.touch tR (fun b hb e => by have := (s0 b hb).1; omega), h3.wr.touch tR (fun b hb e => by have := (s3 b hb).1; omega), h4.wr.touch tR (fun b hb e => by have := (s4 b hb).1; omega), h5.wr.touch tR (fun b hb e => by have := (s5 b hb).1; omega), fun b hb => ⟨by have := (s0 b hb).1; omega, by have := (s0 b hb).2.1; omega⟩, fun b hb => ⟨by have := (s3 b hb).1; omega, by have := (s3 b hb).2.1; omega⟩, fun b hb => ⟨by have := (s4 b hb).1; omega, by have := (s4 b hb).2.1; omega⟩, fun b hb => ⟨by have := (s5 b hb).1; omega, by have := (s5 b hb).2.1; omega⟩, x1, x2, x3, x4, x5, x6, wf0, wf1, wf2⟩, below_setRow B hlo' _⟩
end Go.Proofs.YtbojhbhniollaaaDoor
