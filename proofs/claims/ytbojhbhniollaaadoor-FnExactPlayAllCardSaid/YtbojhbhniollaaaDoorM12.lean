/-
  Several texts in one: A deal in a box of the call's own, changed in place. TotalCards by contract, both sides. TurnOf by contract, both sides. Beats and ValueOf, both sides. fold by contract: over a step that is a closure with two captured variables. WinnerOf by contract, both sides. TrickPoints by contract, both sides. Contracts of the library, of the kit, at this dump: slices_Sort_int, slices_Sort_int_none, slices_Contains_int, slices_Contains_int_empty.
-/
import Derived.Test.YtbojhbhniollaaaDoorSwapH
import Derived.Test.YtbojhbhniollaaaDoorM4
import Derived.Test.YtbojhbhniollaaaDoorM5
import Derived.Test.YtbojhbhniollaaaDoorM7
import Derived.Test.YtbojhbhniollaaaDoorM8
import Derived.Maps.RangeWalk
import Derived.Maps.Own
import Derived.Shelf.Small.Bits
import Derived.Shelf.Small.Wraps
import Derived.Shelf.Strconv.Itoa0
import Derived.Shelf.Sort.Plain
import Derived.Shelf.Slices.Turned
import Derived.Ground.Names2Prog
import Derived.Shelf.Slices.SearchI
import Derived.Shelf.Slices.In.SortNone
import Derived.Test.YtbojhbhniollaaaDoorProg
namespace Go.Proofs.YtbojhbhniollaaaDoor
open Go.RowKit
set_option linter.unusedVariables false
set_option linter.unusedSimpArgs false

def OD (lo o : Nat) (w : World) (D : MDeal) (q0 q3 q4 q5 : Option Addr) (d0 d3 d4 d5 n m n4 n5 : Nat) : Prop :=
  ∃ (S0 S3 S4 S5 : Nat → Prop), lo ≤ o ∧ (n = D.hands.length ∧ m = D.trick.length ∧ n4 = D.won.length ∧ n5 = D.points.length) ∧ w.heap[o]? = some (.cells #[.slice q0 n d0, .int .i64 D.leader, .int .i64 D.trump, .slice q3 m d3, .slice q4 n4 d4, .slice q5 n5 d5, .int .i64 D.left] 31 (0, 0)) ∧ OwnR S0 w (.slice q0 n d0) D.hands ∧ OwnI S3 w (.slice q3 m d3) D.trick ∧ OwnI S4 w (.slice q4 n4 d4) D.won ∧ OwnI S5 w (.slice q5 n5 d5) D.points ∧ (∀ b, S0 b → lo ≤ b ∧ b < w.heap.size ∧ b ≠ o) ∧ (∀ b, S3 b → lo ≤ b ∧ b < w.heap.size ∧ b ≠ o) ∧ (∀ b, S4 b → lo ≤ b ∧ b < w.heap.size ∧ b ≠ o) ∧ (∀ b, S5 b → lo ≤ b ∧ b < w.heap.size ∧ b ≠ o) ∧ (∀ b, S0 b → ¬ S3 b) ∧ (∀ b, S0 b → ¬ S4 b) ∧ (∀ b, S0 b → ¬ S5 b) ∧ (∀ b, S3 b → ¬ S4 b) ∧ (∀ b, S3 b → ¬ S5 b) ∧ (∀ b, S4 b → ¬ S5 b) ∧ (Lit.int .i64 D.leader).wf = true ∧ (Lit.int .i64 D.trump).wf = true ∧ (Lit.int .i64 D.left).wf = true
theorem OD.cells {lo o n m n4 n5 d0 d3 d4 d5 : Nat} {q0 q3 q4 q5 : Option Addr} {D : MDeal} {w : World} (h : OD lo o w D q0 q3 q4 q5 d0 d3 d4 d5 n m n4 n5) : w.heap[o]? = some (.cells #[.slice q0 n d0, .int .i64 D.leader, .int .i64 D.trump, .slice q3 m d3, .slice q4 n4 d4, .slice q5 n5 d5, .int .i64 D.left] 31 (0, 0)) := by
  obtain ⟨S0, S3, S4, S5, hlo, ⟨en, em, e4, e5⟩, g, h0, h3, h4, h5, s0, s3, s4, s5, x1, x2, x3, x4, x5, x6, wf0, wf1, wf2⟩ := h
  exact g
theorem OD.lens {lo o n m n4 n5 d0 d3 d4 d5 : Nat} {q0 q3 q4 q5 : Option Addr} {D : MDeal} {w : World} (h : OD lo o w D q0 q3 q4 q5 d0 d3 d4 d5 n m n4 n5) : lo ≤ o ∧ o < w.heap.size ∧ n = D.hands.length ∧ m = D.trick.length ∧ n4 = D.won.length ∧ n5 = D.points.length := by
  obtain ⟨S0, S3, S4, S5, hlo, ⟨en, em, e4, e5⟩, g, h0, h3, h4, h5, s0, s3, s4, s5, x1, x2, x3, x4, x5, x6, wf0, wf1, wf2⟩ := h
  exact ⟨hlo, (Array.getElem?_eq_some_iff.1 g).1, en, em, e4, e5⟩
theorem OD.of {lo o hi d0 d3 d4 d5 : Nat} {q0 q3 q4 q5 : Option Addr} {D : MDeal} {w : World} (h : OwnDeal (In lo hi) w (.agg #[.slice q0 D.hands.length d0, .int .i64 D.leader, .int .i64 D.trump, .slice q3 D.trick.length d3, .slice q4 D.won.length d4, .slice q5 D.points.length d5, .int .i64 D.left]) D) (hlo : lo ≤ o) (hhi : hi ≤ o) (g : w.heap[o]? = some (.cells #[.slice q0 D.hands.length d0, .int .i64 D.leader, .int .i64 D.trump, .slice q3 D.trick.length d3, .slice q4 D.won.length d4, .slice q5 D.points.length d5, .int .i64 D.left] 31 (0, 0))) :
    OD lo o w D q0 q3 q4 q5 d0 d3 d4 d5 D.hands.length D.trick.length D.won.length D.points.length := by
  obtain ⟨p0, p3, p4, p5, c0, c3, c4, c5, S0, S3, S4, S5, e, h0, h3, h4, h5, s0, s3, s4, s5, r⟩ := h
  simp at e
  obtain ⟨⟨rfl, rfl⟩, ⟨rfl, rfl⟩, ⟨rfl, rfl⟩, rfl, rfl⟩ := e
  have hg := (Array.getElem?_eq_some_iff.1 g).1
  have key : ∀ b, In lo hi b → lo ≤ b ∧ b < w.heap.size ∧ b ≠ o := fun b hb => by obtain ⟨h1, h2⟩ := hb; exact ⟨h1, by omega, by omega⟩
  exact ⟨S0, S3, S4, S5, hlo, ⟨rfl, rfl, rfl, rfl⟩, g, h0, h3, h4, h5, fun b hb => key b (s0 b hb), fun b hb => key b (s3 b hb), fun b hb => key b (s4 b hb), fun b hb => key b (s5 b hb), r⟩
theorem OD.rd {lo o n m n4 n5 d0 d3 d4 d5 : Nat} {q0 q3 q4 q5 : Option Addr} {D : MDeal} {w : World} (h : OD lo o w D q0 q3 q4 q5 d0 d3 d4 d5 n m n4 n5) : RdRows .i64 w (.slice q0 n d0) D.hands ∧ (∃ b, RdAt .i64 w (.slice q3 m d3) D.trick b) ∧ (∃ b, RdAt .i64 w (.slice q4 n4 d4) D.won b) ∧ (∃ b, RdAt .i64 w (.slice q5 n5 d5) D.points b) := by
  obtain ⟨S0, S3, S4, S5, hlo, ⟨en, em, e4, e5⟩, g, h0, h3, h4, h5, s0, s3, s4, s5, x1, x2, x3, x4, x5, x6, wf0, wf1, wf2⟩ := h
  exact ⟨h0.ss.rd, h3.wr.rd, h4.wr.rd, h5.wr.rd⟩
theorem OD.below {lo o n m n4 n5 d0 d3 d4 d5 : Nat} {q0 q3 q4 q5 : Option Addr} {D : MDeal} {w : World} {w' : World} (h : OD lo o w D q0 q3 q4 q5 d0 d3 d4 d5 n m n4 n5) (b : Below w.heap.size w w') : OD lo o w' D q0 q3 q4 q5 d0 d3 d4 d5 n m n4 n5 := by
  obtain ⟨S0, S3, S4, S5, hlo, ⟨en, em, e4, e5⟩, g, h0, h3, h4, h5, s0, s3, s4, s5, x1, x2, x3, x4, x5, x6, wf0, wf1, wf2⟩ := h
  have hs := b.size
  exact ⟨S0, S3, S4, S5, hlo, ⟨en, em, e4, e5⟩, (b.block _ (Array.getElem?_eq_some_iff.1 g).1).trans g, h0.below b, h3.below b, h4.below b, h5.below b, fun y hy => ⟨(s0 y hy).1, Nat.lt_of_lt_of_le (s0 y hy).2.1 hs, (s0 y hy).2.2⟩, fun y hy => ⟨(s3 y hy).1, Nat.lt_of_lt_of_le (s3 y hy).2.1 hs, (s3 y hy).2.2⟩, fun y hy => ⟨(s4 y hy).1, Nat.lt_of_lt_of_le (s4 y hy).2.1 hs, (s4 y hy).2.2⟩, fun y hy => ⟨(s5 y hy).1, Nat.lt_of_lt_of_le (s5 y hy).2.1 hs, (s5 y hy).2.2⟩, x1, x2, x3, x4, x5, x6, wf0, wf1, wf2⟩
theorem OD.hand {lo o n m n4 n5 d0 d3 d4 d5 : Nat} {q0 q3 q4 q5 : Option Addr} {D : MDeal} {w : World} (h : OD lo o w D q0 q3 q4 q5 d0 d3 d4 d5 n m n4 n5) {j : Nat} (hj : j < D.hands.length) :
    ∃ gb r, q0 = some ⟨gb, 0, none⟩ ∧ w.cell? ⟨gb, j, none⟩ = some r ∧ w.frozen? ⟨gb, j, none⟩ = false ∧ lo ≤ gb ∧ gb < w.heap.size ∧ gb ≠ o ∧ (∃ b, RdAt .i64 w r D.hands[j] b) := by
  obtain ⟨S0, S3, S4, S5, hlo, ⟨en, em, e4, e5⟩, g, h0, h3, h4, h5, s0, s3, s4, s5, x1, x2, x3, x4, x5, x6, wf0, wf1, wf2⟩ := h
  rw [en] at h0
  obtain ⟨hb, cap, r, e1, hS, hbl, hc, hf, ho⟩ := h0.row hj
  exact ⟨hb, r, (Value.slice.inj e1).1, hc, hf, (s0 hb hS).1, hbl, (s0 hb hS).2.2, ho.wr.rd⟩
theorem OD.putHand {lo o n m n4 n5 d0 d3 d4 d5 : Nat} {q0 q3 q4 q5 : Option Addr} {D : MDeal} {w : World} {w1 : World} {gb j : Nat} {r r' : Value} {zs' : List Int} (h : OD lo o w D q0 q3 q4 q5 d0 d3 d4 d5 n m n4 n5) (hj : j < D.hands.length) (hq : q0 = some ⟨gb, 0, none⟩) (hr : w.cell? ⟨gb, j, none⟩ = some r) (B : Below w.heap.size w w1) (ho : OwnI (In w.heap.size w1.heap.size) w1 r' zs') :
    OD lo o (w1.setCell ⟨gb, j, none⟩ r') { D with hands := D.hands.set j zs' } q0 q3 q4 q5 d0 d3 d4 d5 n m n4 n5 := by
  obtain ⟨S0, S3, S4, S5, hlo, ⟨en, em, e4, e5⟩, g, h0, h3, h4, h5, s0, s3, s4, s5, x1, x2, x3, x4, x5, x6, wf0, wf1, wf2⟩ := h
  subst hq en
  have hgb : S0 gb := by
    obtain ⟨hb, cap, r1, e1, hS, -⟩ := h0.row hj
    have := (Value.slice.inj e1).1
    have : gb = hb := by simpa using this
    rw [this]; exact hS
  have hsz := B.size
  have hp := h0.put hj rfl hr ⟨B.os, B.tape, B.output, B.size, fun k hk _ => B.block k hk⟩ (ho.mono (fun b hb _ => .inr hb))
  have ts := touchCell w1 gb j r'
  have hs1 : (w1.setCell ⟨gb, j, none⟩ r').heap.size = w1.heap.size := by simp [World.setCell]
  have hg := (Array.getElem?_eq_some_iff.1 g).1
  refine ⟨fun b => S0 b ∨ (w.heap.size ≤ b ∧ b < w1.heap.size), S3, S4, S5, hlo, ⟨by simp, em, e4, e5⟩, ?_, hp, (h3.below B).touch ts (fun b hb e => x1 gb hgb (e ▸ hb)), (h4.below B).touch ts (fun b hb e => x2 gb hgb (e ▸ hb)), (h5.below B).touch ts (fun b hb e => x3 gb hgb (e ▸ hb)), ?_, fun y hy => ⟨(s3 y hy).1, by have := (s3 y hy).2.1; omega, (s3 y hy).2.2⟩, fun y hy => ⟨(s4 y hy).1, by have := (s4 y hy).2.1; omega, (s4 y hy).2.2⟩, fun y hy => ⟨(s5 y hy).1, by have := (s5 y hy).2.1; omega, (s5 y hy).2.2⟩, ?_, ?_, ?_, x4, x5, x6, wf0, wf1, wf2⟩
  · rw [Below.heap_setCell _ _ _ _ (show o ≠ gb from fun e => (s0 gb hgb).2.2 e.symm), B.block _ hg]; exact g
  · intro y hy
    rcases hy with hy | hy
    · exact ⟨(s0 y hy).1, by have := (s0 y hy).2.1; omega, (s0 y hy).2.2⟩
    · exact ⟨by omega, by omega, by omega⟩
  · intro b hb hc
    rcases hb with hb | hb
    · exact x1 b hb hc
    · have := (s3 b hc).2.1; omega
  · intro b hb hc
    rcases hb with hb | hb
    · exact x2 b hb hc
    · have := (s4 b hc).2.1; omega
  · intro b hb hc
    rcases hb with hb | hb
    · exact x3 b hb hc
    · have := (s5 b hc).2.1; omega
theorem OD.trickI {lo o n m n4 n5 d0 d3 d4 d5 : Nat} {q0 q3 q4 q5 : Option Addr} {D : MDeal} {w : World} (h : OD lo o w D q0 q3 q4 q5 d0 d3 d4 d5 n m n4 n5) : OwnI (fun b => lo ≤ b ∧ b < w.heap.size ∧ b ≠ o) w (.slice q3 m d3) D.trick := by
  obtain ⟨S0, S3, S4, S5, hlo, ⟨en, em, e4, e5⟩, g, h0, h3, h4, h5, s0, s3, s4, s5, x1, x2, x3, x4, x5, x6, wf0, wf1, wf2⟩ := h
  exact h3.mono (fun b hb _ => s3 b hb)
theorem OD.addTrick {lo o n m n4 n5 d0 d3 d4 d5 : Nat} {q0 q3 q4 q5 : Option Addr} {D : MDeal} {w : World} {w' : World} {q3' : Option Addr} {d3' : Nat} {c : Int} (h : OD lo o w D q0 q3 q4 q5 d0 d3 d4 d5 n m n4 n5) (gr : w.grownBy w' (Value.slice q3 m d3).held) (ho : OwnI (fun b => (Value.slice q3 m d3).held = some b ∨ (w.heap.size ≤ b ∧ b < w'.heap.size)) w' (.slice q3' (m + 1) d3') (D.trick ++ [c])) :
    OD lo o (w'.setCell ⟨o, 3, none⟩ (.slice q3' (m + 1) d3')) { D with trick := D.trick ++ [c] } q0 q3' q4 q5 d0 d3' d4 d5 n (m + 1) n4 n5 := by
  obtain ⟨S0, S3, S4, S5, hlo, ⟨en, em, e4, e5⟩, g, h0, h3, h4, h5, s0, s3, s4, s5, x1, x2, x3, x4, x5, x6, wf0, wf1, wf2⟩ := h
  have hh : ∀ b, (Value.slice q3 m d3).held = some b → S3 b := fun b hb => (h3.held hb).1
  have t1 : Touch (fun k => (Value.slice q3 m d3).held = some k) w w' := ⟨gr.os, gr.tape, gr.output, gr.size, fun k hk hn => gr.block k hk (fun e => hn e.symm)⟩
  have t2 := touchCell w' o 3 (.slice q3' (m + 1) d3')
  have hs := gr.size
  have hs2 : (w'.setCell ⟨o, 3, none⟩ (.slice q3' (m + 1) d3')).heap.size = w'.heap.size := by simp [World.setCell]
  have hrl := (Array.getElem?_eq_some_iff.1 g).1
  have g' : w'.heap[o]? = some (.cells #[.slice q0 n d0, .int .i64 D.leader, .int .i64 D.trump, .slice q3 m d3, .slice q4 n4 d4, .slice q5 n5 d5, .int .i64 D.left] 31 (0, 0)) := (t1.block o hrl (fun e => (s3 o (hh o e)).2.2 rfl)).trans g
  have g2 := box_set g' 3 (.slice q3' (m + 1) d3')
  simp only [List.setIfInBounds_toArray, List.set_cons_zero, List.set_cons_succ] at g2
  refine ⟨S0, fun b => (Value.slice q3 m d3).held = some b ∨ (w.heap.size ≤ b ∧ b < w'.heap.size), S4, S5, hlo, ⟨en, by simp [em], e4, e5⟩, g2, (h0.touch t1 (fun b hb e => x1 b hb (hh b e))).touch t2 (fun b hb e => (s0 b hb).2.2 e), ?_, (h4.touch t1 (fun b hb e => x4 b (hh b e) hb)).touch t2 (fun b hb e => (s4 b hb).2.2 e), (h5.touch t1 (fun b hb e => x5 b (hh b e) hb)).touch t2 (fun b hb e => (s5 b hb).2.2 e), fun y hy => ⟨(s0 y hy).1, by have := (s0 y hy).2.1; omega, (s0 y hy).2.2⟩, ?_, fun y hy => ⟨(s4 y hy).1, by have := (s4 y hy).2.1; omega, (s4 y hy).2.2⟩, fun y hy => ⟨(s5 y hy).1, by have := (s5 y hy).2.1; omega, (s5 y hy).2.2⟩, ?_, x2, x3, ?_, ?_, x6, wf0, wf1, wf2⟩
  · refine ho.touch t2 (fun b hb e => ?_)
    rcases hb with hb | hb
    · exact (s3 b (hh b hb)).2.2 e
    · omega
  · intro y hy
    rcases hy with hy | hy
    · have := s3 y (hh y hy); exact ⟨this.1, by omega, this.2.2⟩
    · exact ⟨by omega, by omega, by omega⟩
  · intro b hb hc
    rcases hc with hc | hc
    · exact x1 b hb (hh b hc)
    · have := (s0 b hb).2.1; omega
  · intro b hc hb
    rcases hc with hc | hc
    · exact x4 b (hh b hc) hb
    · have := (s4 b hb).2.1; omega
  · intro b hc hb
    rcases hc with hc | hc
    · exact x5 b (hh b hc) hb
    · have := (s5 b hb).2.1; omega
theorem OD.setWon {lo o n m n4 n5 d0 d3 d4 d5 : Nat} {q0 q3 q4 q5 : Option Addr} {D : MDeal} {w : World} (h : OD lo o w D q0 q3 q4 q5 d0 d3 d4 d5 n m n4 n5) {i : Nat} (hi : i < D.won.length) {x : Int} (hx : (Lit.int .i64 x).wf = true) :
    ∃ b off, q4 = some ⟨b, off, none⟩ ∧ w.cell? ⟨b, off + i, none⟩ = some (.int .i64 D.won[i]) ∧ w.frozen? ⟨b, off + i, none⟩ = false ∧ lo ≤ b ∧ b < w.heap.size ∧ OD lo o (w.setCell ⟨b, off + i, none⟩ (.int .i64 x)) { D with won := D.won.set i x } q0 q3 q4 q5 d0 d3 d4 d5 n m n4 n5 := by
  obtain ⟨S0, S3, S4, S5, hlo, ⟨en, em, e4, e5⟩, g, h0, h3, h4, h5, s0, s3, s4, s5, x1, x2, x3, x4, x5, x6, wf0, wf1, wf2⟩ := h
  subst e4
  obtain ⟨b, off, e, hS, -, hc, hf, ho⟩ := h4.setAt hi hx
  have t := touchCell w b (off + i) (.int .i64 x)
  have hs : (w.setCell ⟨b, off + i, none⟩ (.int .i64 x)).heap.size = w.heap.size := by simp [World.setCell]
  refine ⟨b, off, e, hc, hf, (s4 b hS).1, (s4 b hS).2.1, S0, S3, S4, S5, hlo, ⟨en, em, by simp, e5⟩, ?_, h0.touch t (fun y hy e => x2 b (e ▸ hy) hS), h3.touch t (fun y hy e => x4 b (e ▸ hy) hS), ho, h5.touch t (fun y hy e => x6 b hS (e ▸ hy)), fun y hy => ⟨(s0 y hy).1, by have := (s0 y hy).2.1; omega, (s0 y hy).2.2⟩, fun y hy => ⟨(s3 y hy).1, by have := (s3 y hy).2.1; omega, (s3 y hy).2.2⟩, fun y hy => ⟨(s4 y hy).1, by have := (s4 y hy).2.1; omega, (s4 y hy).2.2⟩, fun y hy => ⟨(s5 y hy).1, by have := (s5 y hy).2.1; omega, (s5 y hy).2.2⟩, x1, x2, x3, x4, x5, x6, wf0, wf1, wf2⟩
  · rw [Below.heap_setCell _ _ _ _ (show o ≠ b from fun e => (s4 b hS).2.2 e.symm)]; exact g
theorem OD.setPoints {lo o n m n4 n5 d0 d3 d4 d5 : Nat} {q0 q3 q4 q5 : Option Addr} {D : MDeal} {w : World} (h : OD lo o w D q0 q3 q4 q5 d0 d3 d4 d5 n m n4 n5) {i : Nat} (hi : i < D.points.length) {x : Int} (hx : (Lit.int .i64 x).wf = true) :
    ∃ b off, q5 = some ⟨b, off, none⟩ ∧ w.cell? ⟨b, off + i, none⟩ = some (.int .i64 D.points[i]) ∧ w.frozen? ⟨b, off + i, none⟩ = false ∧ lo ≤ b ∧ b < w.heap.size ∧ OD lo o (w.setCell ⟨b, off + i, none⟩ (.int .i64 x)) { D with points := D.points.set i x } q0 q3 q4 q5 d0 d3 d4 d5 n m n4 n5 := by
  obtain ⟨S0, S3, S4, S5, hlo, ⟨en, em, e4, e5⟩, g, h0, h3, h4, h5, s0, s3, s4, s5, x1, x2, x3, x4, x5, x6, wf0, wf1, wf2⟩ := h
  subst e5
  obtain ⟨b, off, e, hS, -, hc, hf, ho⟩ := h5.setAt hi hx
  have t := touchCell w b (off + i) (.int .i64 x)
  have hs : (w.setCell ⟨b, off + i, none⟩ (.int .i64 x)).heap.size = w.heap.size := by simp [World.setCell]
  refine ⟨b, off, e, hc, hf, (s5 b hS).1, (s5 b hS).2.1, S0, S3, S4, S5, hlo, ⟨en, em, e4, by simp⟩, ?_, h0.touch t (fun y hy e => x3 b (e ▸ hy) hS), h3.touch t (fun y hy e => x5 b (e ▸ hy) hS), h4.touch t (fun y hy e => x6 b (e ▸ hy) hS), ho, fun y hy => ⟨(s0 y hy).1, by have := (s0 y hy).2.1; omega, (s0 y hy).2.2⟩, fun y hy => ⟨(s3 y hy).1, by have := (s3 y hy).2.1; omega, (s3 y hy).2.2⟩, fun y hy => ⟨(s4 y hy).1, by have := (s4 y hy).2.1; omega, (s4 y hy).2.2⟩, fun y hy => ⟨(s5 y hy).1, by have := (s5 y hy).2.1; omega, (s5 y hy).2.2⟩, x1, x2, x3, x4, x5, x6, wf0, wf1, wf2⟩
  · rw [Below.heap_setCell _ _ _ _ (show o ≠ b from fun e => (s5 b hS).2.2 e.symm)]; exact g
theorem OD.setLeader {lo o n m n4 n5 d0 d3 d4 d5 : Nat} {q0 q3 q4 q5 : Option Addr} {D : MDeal} {w : World} (h : OD lo o w D q0 q3 q4 q5 d0 d3 d4 d5 n m n4 n5) {x : Int} (hx : (Lit.int .i64 x).wf = true) :
    OD lo o (w.setCell ⟨o, 1, none⟩ (.int .i64 x)) { D with leader := x } q0 q3 q4 q5 d0 d3 d4 d5 n m n4 n5 := by
  obtain ⟨S0, S3, S4, S5, hlo, ⟨en, em, e4, e5⟩, g, h0, h3, h4, h5, s0, s3, s4, s5, x1, x2, x3, x4, x5, x6, wf0, wf1, wf2⟩ := h
  have t := touchCell w o 1 (.int .i64 x)
  have hs : (w.setCell ⟨o, 1, none⟩ (.int .i64 x)).heap.size = w.heap.size := by simp [World.setCell]
  have g2 := box_set g 1 (.int .i64 x)
  simp only [List.setIfInBounds_toArray, List.set_cons_zero, List.set_cons_succ] at g2
  exact ⟨S0, S3, S4, S5, hlo, ⟨en, em, e4, e5⟩, g2, h0.touch t (fun y hy e => (s0 y hy).2.2 e), h3.touch t (fun y hy e => (s3 y hy).2.2 e), h4.touch t (fun y hy e => (s4 y hy).2.2 e), h5.touch t (fun y hy e => (s5 y hy).2.2 e), fun y hy => ⟨(s0 y hy).1, by have := (s0 y hy).2.1; omega, (s0 y hy).2.2⟩, fun y hy => ⟨(s3 y hy).1, by have := (s3 y hy).2.1; omega, (s3 y hy).2.2⟩, fun y hy => ⟨(s4 y hy).1, by have := (s4 y hy).2.1; omega, (s4 y hy).2.2⟩, fun y hy => ⟨(s5 y hy).1, by have := (s5 y hy).2.1; omega, (s5 y hy).2.2⟩, x1, x2, x3, x4, x5, x6, hx, wf1, wf2⟩
theorem OD.noTrick {lo o n m n4 n5 d0 d3 d4 d5 : Nat} {q0 q3 q4 q5 : Option Addr} {D : MDeal} {w : World} (h : OD lo o w D q0 q3 q4 q5 d0 d3 d4 d5 n m n4 n5) (gb : Nat) :
    OD lo o (w.setCell ⟨o, 3, none⟩ (.slice (some ⟨gb, 0, none⟩) 0 0)) { D with trick := [] } q0 (some ⟨gb, 0, none⟩) q4 q5 d0 0 d4 d5 n 0 n4 n5 := by
  obtain ⟨S0, S3, S4, S5, hlo, ⟨en, em, e4, e5⟩, g, h0, h3, h4, h5, s0, s3, s4, s5, x1, x2, x3, x4, x5, x6, wf0, wf1, wf2⟩ := h
  have t := touchCell w o 3 (.slice (some ⟨gb, 0, none⟩) 0 0)
  have hs : (w.setCell ⟨o, 3, none⟩ (.slice (some ⟨gb, 0, none⟩) 0 0)).heap.size = w.heap.size := by simp [World.setCell]
  have g2 := box_set g 3 (.slice (some ⟨gb, 0, none⟩) 0 0)
  simp only [List.setIfInBounds_toArray, List.set_cons_zero, List.set_cons_succ] at g2
  exact ⟨S0, fun _ => False, S4, S5, hlo, ⟨en, rfl, e4, e5⟩, g2, h0.touch t (fun y hy e => (s0 y hy).2.2 e), OwnI.nil _ _ _, h4.touch t (fun y hy e => (s4 y hy).2.2 e), h5.touch t (fun y hy e => (s5 y hy).2.2 e), fun y hy => ⟨(s0 y hy).1, by have := (s0 y hy).2.1; omega, (s0 y hy).2.2⟩, fun y hy => hy.elim, fun y hy => ⟨(s4 y hy).1, by have := (s4 y hy).2.1; omega, (s4 y hy).2.2⟩, fun y hy => ⟨(s5 y hy).1, by have := (s5 y hy).2.1; omega, (s5 y hy).2.2⟩, fun _ _ hc => hc, x2, x3, fun _ hc => hc.elim, fun _ hc => hc.elim, x6, wf0, wf1, wf2⟩
theorem OD.final {lo o n m n4 n5 d0 d3 d4 d5 : Nat} {q0 q3 q4 q5 : Option Addr} {D : MDeal} {w : World} {lo' r : Nat} {w0 : World} {old : Array Value} (h : OD lo o w D q0 q3 q4 q5 d0 d3 d4 d5 n m n4 n5) (hr : r < lo) (hlo' : lo' ≤ r) (g1 : w.heap[r]? = some (.cells old 31 (0, 0))) (B : Below lo' w0 w) :
    (w.setRow r #[.slice q0 n d0, .int .i64 D.leader, .int .i64 D.trump, .slice q3 m d3, .slice q4 n4 d4, .slice q5 n5 d5, .int .i64 D.left]).heap[r]? = some (.cells #[.slice q0 n d0, .int .i64 D.leader, .int .i64 D.trump, .slice q3 m d3, .slice q4 n4 d4, .slice q5 n5 d5, .int .i64 D.left] 31 (0, 0)) ∧ WrDeal (In lo' (w.setRow r #[.slice q0 n d0, .int .i64 D.leader, .int .i64 D.trump, .slice q3 m d3, .slice q4 n4 d4, .slice q5 n5 d5, .int .i64 D.left]).heap.size) (w.setRow r #[.slice q0 n d0, .int .i64 D.leader, .int .i64 D.trump, .slice q3 m d3, .slice q4 n4 d4, .slice q5 n5 d5, .int .i64 D.left]) (.agg #[.slice q0 n d0, .int .i64 D.leader, .int .i64 D.trump, .slice q3 m d3, .slice q4 n4 d4, .slice q5 n5 d5, .int .i64 D.left]) D ∧ Below lo' w0 (w.setRow r #[.slice q0 n d0, .int .i64 D.leader, .int .i64 D.trump, .slice q3 m d3, .slice q4 n4 d4, .slice q5 n5 d5, .int .i64 D.left]) := by
  obtain ⟨S0, S3, S4, S5, hlo, ⟨en, em, e4, e5⟩, g, h0, h3, h4, h5, s0, s3, s4, s5, x1, x2, x3, x4, x5, x6, wf0, wf1, wf2⟩ := h
  subst en em e4 e5
  have tR := touchRow w r #[.slice q0 D.hands.length d0, .int .i64 D.leader, .int .i64 D.trump, .slice q3 D.trick.length d3, .slice q4 D.won.length d4, .slice q5 D.points.length d5, .int .i64 D.left]
  have hs : (w.setRow r #[.slice q0 D.hands.length d0, .int .i64 D.leader, .int .i64 D.trump, .slice q3 D.trick.length d3, .slice q4 D.won.length d4, .slice q5 D.points.length d5, .int .i64 D.left]).heap.size = w.heap.size := by simp [World.setRow]
  refine ⟨setRow_heap _ _ _ _ _ _ g1, ⟨q0, q3, q4, q5, d0, d3, d4, d5, S0, S3, S4, S5, rfl, h0.ss.touch tR (fun b hb e => by have := (s0 b hb).1; omega), h3.wr.touch tR (fun b hb e => by have := (s3 b hb).1; omega), h4.wr.touch tR (fun b hb e => by have := (s4 b hb).1; omega), h5.wr.touch tR (fun b hb e => by have := (s5 b hb).1; omega), fun b hb => ⟨by have := (s0 b hb).1; omega, by have := (s0 b hb).2.1; omega⟩, fun b hb => ⟨by have := (s3 b hb).1; omega, by have := (s3 b hb).2.1; omega⟩, fun b hb => ⟨by have := (s4 b hb).1; omega, by have := (s4 b hb).2.1; omega⟩, fun b hb => ⟨by have := (s5 b hb).1; omega, by have := (s5 b hb).2.1; omega⟩, x1, x2, x3, x4, x5, x6, wf0, wf1, wf2⟩, below_setRow B hlo' _⟩
end Go.Proofs.YtbojhbhniollaaaDoor
namespace Go.Proofs.YtbojhbhniollaaaDoor
open Go.RowKit

set_option maxRecDepth 100000 in
theorem totalCards_any (v : Value) (zss : List (List Int)) (w : World) (h : RdRows .i64 w v zss) (hl : zss.length ≤ 1048576) (hl2 : sumLen zss ≤ 1048576) :
    Calls Tryd.prog 73 #[v] w fun e w' => e = .returned (.int .i64 (sumLen zss)) ∧ w = w' := by
  have hrow := fun j (hj : j < zss.length) => h.row hj
  obtain ⟨a, cap, rfl, -, -⟩ := id h
  obtain ⟨n, hn⟩ : ∃ n, n = zss.length := ⟨_, rfl⟩
  have Hn := Lib.hid hn
  have Hrow := Lib.hid hrow
  rw [← hn] at hl ⊢
  clear hn hrow h
  obtain ⟨S, hS⟩ : ∃ S, S = sumLen zss := ⟨_, rfl⟩
  have HS := Lib.hid hS
  rw [← hS] at hl2 ⊢
  clear hS
  go_enter Tryd.func73, Tryd.ntmps73
  go_wp2_with fail
  go_loop [3, 5, 8] (fun l _ i => ∃ (k x : Nat), k ≤ n ∧ i = .int .i64 k ∧ l = .int .i64 x ∧ x ≤ S ∧ Hid (x = sumLen (zss.take k))) (fun _ _ i => n - (intOf i).toNat)
  case atStart => exact ⟨0, 0, Nat.zero_le _, rfl, rfl, Nat.zero_le _, Lib.hid rfl⟩
  case round =>
    obtain ⟨k, x, hk, rfl, rfl, hxS, hx⟩ := hrel
    by_cases hlt : k < n
    · have hz : k < zss.length := by rw [← Hn.out]; exact hlt
      obtain ⟨blk, off, cap', p, c, b, hv, hc, -, -⟩ := Hrow.out k hz
      have ha := (Value.slice.inj hv).1
      clear hv
      subst ha
      have hst := sumLen_take zss k hz
      obtain ⟨m, hm⟩ : ∃ m, m = (zss[k]'hz).length := ⟨_, rfl⟩
      rw [← hm, ← hx.out] at hst
      rw [← hm] at hc
      have hxm : x + m ≤ S := by
        rw [HS.out, ← hst]
        exact sumLen_take_le zss (k + 1)
      have hx2 : Hid (x + m = sumLen (zss.take (k + 1))) := Lib.hid hst.symm
      clear hm hst
      go_wp2_with fail
      go_round
      case rel => exact ⟨k + 1, x + m, by omega, by go_num, by go_num, hxm, hx2⟩
      case measure => simp [intOf]; omega
    · obtain rfl : k = n := by omega
      have hx2 : Hid (x = S) := Lib.hid (by rw [hx.out, HS.out, List.take_of_length_le (by rw [Hn.out]; exact Nat.le_refl _)])
      go_wp2_with fail
      go_ret
      exact ⟨by rw [← hx2.out]; rfl, rfl⟩
set_option maxRecDepth 100000 in
theorem sTotalCards_any (v : Value) (zss : List (List Int)) (w : World) (h : RdRows .i64 w v zss) (hl : zss.length ≤ 1048576) (hl2 : sumLen zss ≤ 1048576) :
    Calls Tryd.prog 67 #[v] w fun e w' => e = .returned (.int .i64 (sumLen zss)) ∧ w = w' := by
  have hrow := fun j (hj : j < zss.length) => h.row hj
  obtain ⟨a, cap, rfl, -, -⟩ := id h
  obtain ⟨n, hn⟩ : ∃ n, n = zss.length := ⟨_, rfl⟩
  have Hn := Lib.hid hn
  have Hrow := Lib.hid hrow
  rw [← hn] at hl ⊢
  clear hn hrow h
  obtain ⟨S, hS⟩ : ∃ S, S = sumLen zss := ⟨_, rfl⟩
  have HS := Lib.hid hS
  rw [← hS] at hl2 ⊢
  clear hS
  go_enter Tryd.func67, Tryd.ntmps67
  go_wp2_with fail
  go_loop [3, 4] (fun l i => ∃ (k x : Nat), k ≤ n ∧ i = .int .i64 k ∧ l = .int .i64 x ∧ x ≤ S ∧ Hid (x = sumLen (zss.take k))) (fun _ i => n - (intOf i).toNat)
  case atStart => exact ⟨0, 0, Nat.zero_le _, rfl, rfl, Nat.zero_le _, Lib.hid rfl⟩
  case round =>
    obtain ⟨k, x, hk, rfl, rfl, hxS, hx⟩ := hrel
    by_cases hlt : k < n
    · have hz : k < zss.length := by rw [← Hn.out]; exact hlt
      obtain ⟨blk, off, cap', p, c, b, hv, hc, -, -⟩ := Hrow.out k hz
      have ha := (Value.slice.inj hv).1
      clear hv
      subst ha
      have hst := sumLen_take zss k hz
      obtain ⟨m, hm⟩ : ∃ m, m = (zss[k]'hz).length := ⟨_, rfl⟩
      rw [← hm, ← hx.out] at hst
      rw [← hm] at hc
      have hxm : x + m ≤ S := by
        rw [HS.out, ← hst]
        exact sumLen_take_le zss (k + 1)
      have hx2 : Hid (x + m = sumLen (zss.take (k + 1))) := Lib.hid hst.symm
      clear hm hst
      go_wp2_with fail
      go_round
      case rel => exact ⟨k + 1, x + m, by omega, by go_num, by go_num, hxm, hx2⟩
      case measure => simp [intOf]; omega
    · obtain rfl : k = n := by omega
      have hx2 : Hid (x = S) := Lib.hid (by rw [hx.out, HS.out, List.take_of_length_le (by rw [Hn.out]; exact Nat.le_refl _)])
      go_wp2_with fail
      go_ret
      exact ⟨by rw [← hx2.out]; rfl, rfl⟩
end Go.Proofs.YtbojhbhniollaaaDoor
namespace Go.Proofs.YtbojhbhniollaaaDoor
open Go.RowKit

/-- Who is to play. -/
def turnOf (D : MDeal) : Int := if sumLen D.hands = 0 ∨ ¬ (0 ≤ D.leader ∧ D.leader ≤ (D.hands.length : Int) - 1) then -1 else (D.leader + D.trick.length) % D.hands.length

set_option linter.unusedVariables false in
set_option maxRecDepth 100000 in
theorem turnOf_any (a0 a1 : Addr) (v : Value) (D : MDeal) (w : World) (h : RdDeal w v D) (hf : D.Few) (hS : Sent a0 a1 w) :
    Calls Tryd.prog 54 #[v] w fun e w' => e = .returned (.int .i64 (turnOf D)) ∧ Below w.heap.size w w' := by
  obtain ⟨v0, v3, v4, v5, b3, b4, b5, rfl, h0, h3, h4, h5, wf1, wf2, wf6⟩ := h
  obtain ⟨f0, fs0, f3, f4, f5⟩ := hf
  obtain ⟨p0, c0, e0, -⟩ := id h0
  obtain ⟨p3, c3, e3, -⟩ := id h3
  subst e0 e3
  have B0 := fun o => (Below.refl w.heap.size w).alloc (Nat.le_refl _) o
  have HT := Lib.hid (fun wx (hx : Below w.heap.size w wx) => totalCards_any _ _ wx (h0.below hx) f0 fs0)
  have HS := Lib.hid (fun wx (hx : Below w.heap.size w wx) => hS.below hx (Nat.le_refl _))
  have bl := bounds_i64 wf1
  unfold turnOf
  obtain ⟨S, hS⟩ : ∃ S, S = sumLen D.hands := ⟨_, rfl⟩
  obtain ⟨n, hn⟩ : ∃ n, n = D.hands.length := ⟨_, rfl⟩
  obtain ⟨m, hm⟩ : ∃ m, m = D.trick.length := ⟨_, rfl⟩
  obtain ⟨l, hl⟩ : ∃ l, l = D.leader := ⟨_, rfl⟩
  rw [← hS] at HT fs0 ⊢
  rw [← hn] at f0 HT ⊢
  rw [← hm] at f3 ⊢
  rw [← hl] at bl ⊢
  clear hS hn hm hl h0 h3 h4 h5 wf1
  by_cases hs : S = 0
  · rw [if_pos (.inl hs)]
    subst hs
    go_enter Tryd.func54, Tryd.ntmps54
    go_wp2_with fail
    refine (HT.out _ (B0 _)).mono ?_
    rintro e _w ⟨rfl, rfl⟩
    go_wp2_with fail
    go_ret
    exact ⟨rfl, B0 _⟩
  · have hsz : (S : Int) ≠ 0 := by omega
    have HI := Lib.hid (fun wx => inR_any l 0 ((n : Int) - 1) wx _ rfl)
    by_cases hr : 0 ≤ l ∧ l ≤ (n : Int) - 1
    · rw [if_neg (by intro h; rcases h with h | h; exact hs h; exact h hr)]
      rw [decide_eq_true hr] at HI
      obtain ⟨hr0, hr1⟩ := hr
      have HM := Lib.hid (fun wx hw => mod_any a0 a1 (l + m) n wx (WalkArith.wf_i64 (by omega)) (HS.out wx hw))
      have hmd : modI (l + m) n = (l + m) % n := if_pos ⟨by omega, by omega⟩
      rw [hmd] at HM
      go_enter Tryd.func54, Tryd.ntmps54
      go_wp2_with fail
      refine (HT.out _ (B0 _)).mono ?_
      rintro e _w ⟨rfl, rfl⟩
      go_wp2_with fail
      refine (HI.out _).mono ?_
      rintro e _w ⟨rfl, rfl⟩
      go_wp2_with fail
      refine (HM.out _ (B0 _)).mono ?_
      rintro e _w ⟨rfl, rfl⟩
      go_wp2_with fail
      go_ret
      exact ⟨rfl, B0 _⟩
    · rw [if_pos (.inr hr)]
      rw [decide_eq_false hr] at HI
      clear hr
      go_enter Tryd.func54, Tryd.ntmps54
      go_wp2_with fail
      refine (HT.out _ (B0 _)).mono ?_
      rintro e _w ⟨rfl, rfl⟩
      go_wp2_with fail
      refine (HI.out _).mono ?_
      rintro e _w ⟨rfl, rfl⟩
      go_wp2_with fail
      go_ret
      exact ⟨rfl, B0 _⟩

set_option linter.unusedVariables false in
set_option maxRecDepth 100000 in
theorem sTurnOf_any (v : Value) (D : MDeal) (w : World) (h : RdDeal w v D) (hf : D.Few) :
    Calls Tryd.prog 49 #[v] w fun e w' => e = .returned (.int .i64 (turnOf D)) ∧ Below w.heap.size w w' := by
  obtain ⟨v0, v3, v4, v5, b3, b4, b5, rfl, h0, h3, h4, h5, wf1, wf2, wf6⟩ := h
  obtain ⟨f0, fs0, f3, f4, f5⟩ := hf
  obtain ⟨p0, c0, e0, -⟩ := id h0
  obtain ⟨p3, c3, e3, -⟩ := id h3
  subst e0 e3
  have B0 := fun o => (Below.refl w.heap.size w).alloc (Nat.le_refl _) o
  have HT := Lib.hid (fun wx (hx : Below w.heap.size w wx) => sTotalCards_any _ _ wx (h0.below hx) f0 fs0)
  have bl := bounds_i64 wf1
  unfold turnOf
  have hle : D.hands.length = 0 → sumLen D.hands = 0 := fun h => by rw [List.length_eq_zero_iff.1 h]; rfl
  obtain ⟨S, hS⟩ : ∃ S, S = sumLen D.hands := ⟨_, rfl⟩
  obtain ⟨n, hn⟩ : ∃ n, n = D.hands.length := ⟨_, rfl⟩
  obtain ⟨m, hm⟩ : ∃ m, m = D.trick.length := ⟨_, rfl⟩
  obtain ⟨l, hl⟩ : ∃ l, l = D.leader := ⟨_, rfl⟩
  rw [← hS] at HT fs0 hle ⊢
  rw [← hn] at f0 HT hle ⊢
  rw [← hm] at f3 ⊢
  rw [← hl] at bl ⊢
  clear hS hn hm hl h0 h3 h4 h5 wf1
  by_cases hs : S = 0
  · rw [if_pos (.inl hs)]
    subst hs
    clear hle
    by_cases hn : n = 0
    · subst hn
      go_enter Tryd.func49, Tryd.ntmps49
      go_wp2_with fail
      go_ret
      exact ⟨rfl, B0 _⟩
    · have hnz : (n : Int) ≠ 0 := by omega
      go_enter Tryd.func49, Tryd.ntmps49
      go_wp2_with fail
      refine (HT.out _ (B0 _)).mono ?_
      rintro e _w ⟨rfl, rfl⟩
      go_wp2_with fail
      go_ret
      exact ⟨rfl, B0 _⟩
  · have hsz : (S : Int) ≠ 0 := by omega
    have hnz : (n : Int) ≠ 0 := fun h => hs (hle (by omega))
    clear hle
    have q1 : ((n : Int) == 0) = false := by simpa using hnz
    have q2 : ((S : Int) == 0) = false := by simpa using hsz
    have HI := Lib.hid (fun wx => inM_any l 0 ((n : Int) - 1) wx _ rfl)
    by_cases hr : 0 ≤ l ∧ l ≤ (n : Int) - 1
    · rw [if_neg (by intro h; rcases h with h | h; exact hs h; exact h hr)]
      rw [decide_eq_true hr] at HI
      obtain ⟨hr0, hr1⟩ := hr
      have hb0 := Int.emod_nonneg (l + m) hnz
      have hb1 := Int.emod_lt_of_pos (l + m) (show (0 : Int) < n by omega)
      go_enter Tryd.func49, Tryd.ntmps49
      go_wp2_with fail
      refine (HT.out _ (B0 _)).mono ?_
      rintro e _w ⟨rfl, rfl⟩
      go_wp2_with fail
      refine (HI.out _).mono ?_
      rintro e _w ⟨rfl, rfl⟩
      go_wp2_with fail
      go_ret
      exact ⟨rfl, B0 _⟩
    · rw [if_pos (.inr hr)]
      rw [decide_eq_false hr] at HI
      clear hr
      go_enter Tryd.func49, Tryd.ntmps49
      go_wp2_with fail
      refine (HT.out _ (B0 _)).mono ?_
      rintro e _w ⟨rfl, rfl⟩
      go_wp2_with fail
      refine (HI.out _).mono ?_
      rintro e _w ⟨rfl, rfl⟩
      go_wp2_with fail
      go_ret
      exact ⟨rfl, B0 _⟩
end Go.Proofs.YtbojhbhniollaaaDoor
namespace Go.Proofs.YtbojhbhniollaaaDoor
open Go.RowKit

def beats (a b t : Int) : Bool := isCard a && isCard b && (if suitOf a = suitOf b then decide (rankOf b < rankOf a) else decide (suitOf a = t))
theorem beats_0 {a b t : Int} (h : isCard a = false) : beats a b t = false := by simp [beats, h]
theorem beats_1 {a b t : Int} (h : isCard b = false) : beats a b t = false := by simp [beats, h]
theorem beats_2 {a b t : Int} (ha : isCard a = true) (hb : isCard b = true) (hs : suitOf a = suitOf b) : beats a b t = decide (rankOf b < rankOf a) := by simp [beats, ha, hb, hs]
theorem beats_2s {a b t : Int} (ha : isCard a = true) (hb : isCard b = true) (hs : suitOf a = suitOf b) : beats a b t = decide (b < a) := by
  rw [beats_2 ha hb hs, rank_in ha, rank_in hb]
  rw [suit_in ha, suit_in hb] at hs
  have := isCard_t ha
  have := isCard_t hb
  have : (b % 13 < a % 13) ↔ b < a := by omega
  simp only [this]
theorem beats_3 {a b t : Int} (ha : isCard a = true) (hb : isCard b = true) (hs : ¬ suitOf a = suitOf b) : beats a b t = decide (suitOf a = t) := by simp [beats, ha, hb, hs]

set_option maxRecDepth 100000 in
set_option maxHeartbeats 1000000 in
theorem sBeats_any (a b t : Int) (w : World) :
    Calls Tryd.prog 71 #[.int .i64 a, .int .i64 b, .int .i64 t] w fun e w' => e = .returned (.bool (beats a b t)) ∧ w = w' := by
  cases ha : isCard a with
  | false =>
    have Hr := Lib.hid (beats_0 (b := b) (t := t) ha)
    have Ha := Lib.hid ha
    clear ha
    go_enter Tryd.func71, Tryd.ntmps71
    go_wp2_with fail
    refine (sIsCard_r _ _ _ Ha.out).mono ?_
    rintro e _w ⟨rfl, rfl⟩
    go_wp2_with fail
    go_ret
    exact ⟨by rw [Hr.out]; rfl, rfl⟩
  | true =>
    cases hb : isCard b with
    | false =>
      have Hr := Lib.hid (beats_1 (a := a) (t := t) hb)
      have Ha := Lib.hid ha
      have Hb := Lib.hid hb
      clear ha hb
      go_enter Tryd.func71, Tryd.ntmps71
      go_wp2_with fail
      refine (sIsCard_r _ _ _ Ha.out).mono ?_
      rintro e _w ⟨rfl, rfl⟩
      go_wp2_with fail
      refine (sIsCard_r _ _ _ Hb.out).mono ?_
      rintro e _w ⟨rfl, rfl⟩
      go_wp2_with fail
      go_ret
      exact ⟨by rw [Hr.out]; rfl, rfl⟩
    | true =>
      have Ha := Lib.hid ha
      have Hb := Lib.hid hb
      obtain ⟨x, hx⟩ : ∃ x, suitOf a = x := ⟨_, rfl⟩
      obtain ⟨y, hy⟩ : ∃ y, suitOf b = y := ⟨_, rfl⟩
      have Hx := Lib.hid hx
      have Hy := Lib.hid hy
      by_cases hs : suitOf a = suitOf b
      · have Hr := Lib.hid (beats_2s (t := t) ha hb hs)
        have hxy : x = y := by rw [← hx, ← hy, hs]
        clear ha hb hx hy hs
        subst hxy
        go_enter Tryd.func71, Tryd.ntmps71
        go_wp2_with fail
        refine (sIsCard_r _ _ _ Ha.out).mono ?_
        rintro e _w ⟨rfl, rfl⟩
        go_wp2_with fail
        refine (sIsCard_r _ _ _ Hb.out).mono ?_
        rintro e _w ⟨rfl, rfl⟩
        go_wp2_with fail
        refine (sSuitOf_r _ _ _ Hx.out).mono ?_
        rintro e _w ⟨rfl, rfl⟩
        go_wp2_with fail
        refine (sSuitOf_r _ _ _ Hy.out).mono ?_
        rintro e _w ⟨rfl, rfl⟩
        go_wp2_with fail
        go_ret
        exact ⟨by rw [Hr.out]; rfl, rfl⟩
      · have Hr := Lib.hid (beats_3 (t := t) ha hb hs)
        have hxy : ¬ x = y := by rw [← hx, ← hy]; exact hs
        rw [hx] at Hr
        clear ha hb hx hy hs
        go_enter Tryd.func71, Tryd.ntmps71
        go_wp2_with fail
        refine (sIsCard_r _ _ _ Ha.out).mono ?_
        rintro e _w ⟨rfl, rfl⟩
        go_wp2_with fail
        refine (sIsCard_r _ _ _ Hb.out).mono ?_
        rintro e _w ⟨rfl, rfl⟩
        go_wp2_with fail
        refine (sSuitOf_r _ _ _ Hx.out).mono ?_
        rintro e _w ⟨rfl, rfl⟩
        go_wp2_with fail
        refine (sSuitOf_r _ _ _ Hy.out).mono ?_
        rintro e _w ⟨rfl, rfl⟩
        go_wp2_with fail
        refine (sSuitOf_r _ _ _ Hx.out).mono ?_
        rintro e _w ⟨rfl, rfl⟩
        go_wp2_with fail
        go_ret
        exact ⟨by rw [Hr.out]; rfl, rfl⟩
set_option maxRecDepth 100000 in
set_option maxHeartbeats 1000000 in
theorem beats_any (a b t : Int) (w : World) :
    Calls Tryd.prog 104 #[.int .i64 a, .int .i64 b, .int .i64 t] w fun e w' => e = .returned (.bool (beats a b t)) ∧ w = w' := by
  cases ha : isCard a with
  | false =>
    have Hr := Lib.hid (beats_0 (b := b) (t := t) ha)
    have Ha := Lib.hid ha
    clear ha
    go_enter Tryd.func104, Tryd.ntmps104
    go_wp2_with fail
    refine (isCard_r _ _ _ Ha.out).mono ?_
    rintro e _w ⟨rfl, rfl⟩
    go_wp2_with fail
    go_ret
    exact ⟨by rw [Hr.out]; rfl, rfl⟩
  | true =>
    cases hb : isCard b with
    | false =>
      have Hr := Lib.hid (beats_1 (a := a) (t := t) hb)
      have Ha := Lib.hid ha
      have Hb := Lib.hid hb
      clear ha hb
      go_enter Tryd.func104, Tryd.ntmps104
      go_wp2_with fail
      refine (isCard_r _ _ _ Ha.out).mono ?_
      rintro e _w ⟨rfl, rfl⟩
      go_wp2_with fail
      refine (isCard_r _ _ _ Hb.out).mono ?_
      rintro e _w ⟨rfl, rfl⟩
      go_wp2_with fail
      go_ret
      exact ⟨by rw [Hr.out]; rfl, rfl⟩
    | true =>
      have Ha := Lib.hid ha
      have Hb := Lib.hid hb
      obtain ⟨x, hx⟩ : ∃ x, suitOf a = x := ⟨_, rfl⟩
      obtain ⟨y, hy⟩ : ∃ y, suitOf b = y := ⟨_, rfl⟩
      have Hx := Lib.hid hx
      have Hy := Lib.hid hy
      by_cases hs : suitOf a = suitOf b
      · have Hr := Lib.hid (beats_2 (t := t) ha hb hs)
        have hxy : x = y := by rw [← hx, ← hy, hs]
        obtain ⟨p, hp⟩ : ∃ p, rankOf a = p := ⟨_, rfl⟩
        obtain ⟨q, hq⟩ : ∃ q, rankOf b = q := ⟨_, rfl⟩
        have Hp := Lib.hid hp
        have Hq := Lib.hid hq
        rw [hp, hq] at Hr
        clear ha hb hx hy hs hp hq
        subst hxy
        go_enter Tryd.func104, Tryd.ntmps104
        go_wp2_with fail
        refine (isCard_r _ _ _ Ha.out).mono ?_
        rintro e _w ⟨rfl, rfl⟩
        go_wp2_with fail
        refine (isCard_r _ _ _ Hb.out).mono ?_
        rintro e _w ⟨rfl, rfl⟩
        go_wp2_with fail
        refine (suitOf_r _ _ _ Hx.out).mono ?_
        rintro e _w ⟨rfl, rfl⟩
        go_wp2_with fail
        refine (suitOf_r _ _ _ Hy.out).mono ?_
        rintro e _w ⟨rfl, rfl⟩
        go_wp2_with fail
        refine (rankOf_r _ _ _ Hp.out).mono ?_
        rintro e _w ⟨rfl, rfl⟩
        go_wp2_with fail
        refine (rankOf_r _ _ _ Hq.out).mono ?_
        rintro e _w ⟨rfl, rfl⟩
        go_wp2_with fail
        go_ret
        exact ⟨by rw [Hr.out]; rfl, rfl⟩
      · have Hr := Lib.hid (beats_3 (t := t) ha hb hs)
        have hxy : ¬ x = y := by rw [← hx, ← hy]; exact hs
        rw [hx] at Hr
        clear ha hb hx hy hs
        go_enter Tryd.func104, Tryd.ntmps104
        go_wp2_with fail
        refine (isCard_r _ _ _ Ha.out).mono ?_
        rintro e _w ⟨rfl, rfl⟩
        go_wp2_with fail
        refine (isCard_r _ _ _ Hb.out).mono ?_
        rintro e _w ⟨rfl, rfl⟩
        go_wp2_with fail
        refine (suitOf_r _ _ _ Hx.out).mono ?_
        rintro e _w ⟨rfl, rfl⟩
        go_wp2_with fail
        refine (suitOf_r _ _ _ Hy.out).mono ?_
        rintro e _w ⟨rfl, rfl⟩
        go_wp2_with fail
        refine (suitOf_r _ _ _ Hx.out).mono ?_
        rintro e _w ⟨rfl, rfl⟩
        go_wp2_with fail
        go_ret
        exact ⟨by rw [Hr.out]; rfl, rfl⟩
end Go.Proofs.YtbojhbhniollaaaDoor
namespace Go.Proofs.YtbojhbhniollaaaDoor
open Go.RowKit

set_option maxRecDepth 100000 in
set_option maxHeartbeats 1000000 in
theorem foldWin_any (v : Value) (zs : List Int) (b : Nat) (c1 c2 : Value) (S : Nat → Int) (w : World) (h : RdAt .i64 w v zs b) (hl : zs.length ≤ 1099511627776)
    (step : ∀ k, k < zs.length → ∀ wx, Below w.heap.size w wx → Calls Tryd.prog 103 #[.int .i64 (S k), .int .i64 k, c1, c2] wx fun e w' => e = .returned (.int .i64 (S (k + 1))) ∧ Below wx.heap.size wx w') :
    Calls Tryd.prog 102 #[v, .int .i64 (S 0), .func (.func 103) #[] #[c1, c2]] w fun e w' => e = .returned (.int .i64 (S zs.length)) ∧ Below w.heap.size w w' := by
  obtain ⟨a, cap, rfl, -, -, hcell⟩ := h
  obtain ⟨n, hn⟩ : ∃ n, n = zs.length := ⟨_, rfl⟩
  rw [← hn] at hl step ⊢
  have Hs := Lib.hid step
  clear hn step hcell
  obtain ⟨x0, hx0⟩ : ∃ x0, x0 = S 0 := ⟨_, rfl⟩
  have H0 := Lib.hid hx0
  rw [← hx0]
  clear hx0
  go_enter Tryd.func102, Tryd.ntmps102
  go_wp2_with fail
  go_loopw [1, 7, 10] (fun r _ i wr => ∃ (k : Nat) (x : Int), k ≤ n ∧ i = .int .i64 k ∧ r = .int .i64 x ∧ Hid (x = S k) ∧ Below w.heap.size w wr) (fun _ _ i _ => n - (intOf i).toNat)
  case atStart => exact ⟨0, x0, Nat.zero_le _, rfl, rfl, H0, Below.refl _ _⟩
  case round =>
    obtain ⟨k, x, hk, rfl, rfl, hx, B⟩ := hrel
    by_cases hlt : k < n
    · have HC := Hs.out k hlt wr B
      rw [← hx.out] at HC
      obtain ⟨y, hy⟩ : ∃ y, y = S (k + 1) := ⟨_, rfl⟩
      have Hy := Lib.hid hy
      rw [← hy] at HC
      have HC := Lib.hid HC
      clear hy
      go_wp2_with fail
      refine HC.out.mono ?_
      rintro e w1 ⟨rfl, B1⟩
      replace B := B.trans (B1.mono B.size)
      clear B1 HC
      go_wp2_with fail
      go_roundw
      case rel => exact ⟨k + 1, y, by omega, by go_num, rfl, Hy, B⟩
      case measure => simp [intOf]; omega
    · obtain rfl : k = n := by omega
      go_wp2_with fail
      go_ret
      exact ⟨by rw [← hx.out]; rfl, B⟩
set_option maxRecDepth 100000 in
set_option maxHeartbeats 1000000 in
theorem foldRank_any (v : Value) (zs : List Int) (b : Nat) (c1 c2 : Value) (S : Nat → Int) (w : World) (h : RdAt .i64 w v zs b) (hl : zs.length ≤ 1099511627776)
    (step : ∀ k, k < zs.length → ∀ wx, Below w.heap.size w wx → Calls Tryd.prog 123 #[.int .i64 (S k), .int .i64 k, c1, c2] wx fun e w' => e = .returned (.int .i64 (S (k + 1))) ∧ Below wx.heap.size wx w') :
    Calls Tryd.prog 102 #[v, .int .i64 (S 0), .func (.func 123) #[] #[c1, c2]] w fun e w' => e = .returned (.int .i64 (S zs.length)) ∧ Below w.heap.size w w' := by
  obtain ⟨a, cap, rfl, -, -, hcell⟩ := h
  obtain ⟨n, hn⟩ : ∃ n, n = zs.length := ⟨_, rfl⟩
  rw [← hn] at hl step ⊢
  have Hs := Lib.hid step
  clear hn step hcell
  obtain ⟨x0, hx0⟩ : ∃ x0, x0 = S 0 := ⟨_, rfl⟩
  have H0 := Lib.hid hx0
  rw [← hx0]
  clear hx0
  go_enter Tryd.func102, Tryd.ntmps102
  go_wp2_with fail
  go_loopw [1, 7, 10] (fun r _ i wr => ∃ (k : Nat) (x : Int), k ≤ n ∧ i = .int .i64 k ∧ r = .int .i64 x ∧ Hid (x = S k) ∧ Below w.heap.size w wr) (fun _ _ i _ => n - (intOf i).toNat)
  case atStart => exact ⟨0, x0, Nat.zero_le _, rfl, rfl, H0, Below.refl _ _⟩
  case round =>
    obtain ⟨k, x, hk, rfl, rfl, hx, B⟩ := hrel
    by_cases hlt : k < n
    · have HC := Hs.out k hlt wr B
      rw [← hx.out] at HC
      obtain ⟨y, hy⟩ : ∃ y, y = S (k + 1) := ⟨_, rfl⟩
      have Hy := Lib.hid hy
      rw [← hy] at HC
      have HC := Lib.hid HC
      clear hy
      go_wp2_with fail
      refine HC.out.mono ?_
      rintro e w1 ⟨rfl, B1⟩
      replace B := B.trans (B1.mono B.size)
      clear B1 HC
      go_wp2_with fail
      go_roundw
      case rel => exact ⟨k + 1, y, by omega, by go_num, rfl, Hy, B⟩
      case measure => simp [intOf]; omega
    · obtain rfl : k = n := by omega
      go_wp2_with fail
      go_ret
      exact ⟨by rw [← hx.out]; rfl, B⟩
end Go.Proofs.YtbojhbhniollaaaDoor
namespace Go.Proofs.YtbojhbhniollaaaDoor
open Go.RowKit

/-- The index of the card that wins among the first k. -/
def winsAt (zs : List Int) (t : Int) : Nat → Nat
  | 0 => 0
  | k + 1 => if beats (zs.getD k 0) (zs.getD (winsAt zs t k) 0) t = true then k else winsAt zs t k
theorem winsAt_le (zs : List Int) (t : Int) : ∀ k, winsAt zs t k ≤ k - 1
  | 0 => Nat.le_refl _
  | k + 1 => by
    have := winsAt_le zs t k
    rw [winsAt]; split <;> omega
theorem beats_self (a t : Int) (h : isCard a = true) : beats a a t = false := by rw [beats_2 h h rfl]; simp
def winnerOf (zs : List Int) (t : Int) : Int := if zs = [] ∨ isHand zs = false then -1 else (winsAt zs t zs.length : Int)
theorem winner_0 (t : Int) : winnerOf [] t = -1 := rfl
theorem winner_1 {zs : List Int} (t : Int) (h : isHand zs = false) : winnerOf zs t = -1 := if_pos (.inr h)
theorem winner_2 {zs : List Int} (t : Int) (h : isHand zs = true) (hz : zs ≠ []) : winnerOf zs t = winsAt zs t zs.length := if_neg (by rw [h]; simp [hz])
theorem cell_blk2 {w : World} {b : Nat} {c : Array Value} {t : TypeId} {fr : Nat × Nat} (h : w.heap[b]? = some (.cells c t fr)) (i : Nat) : w.cell? ⟨b, i, none⟩ = c[i]? := by
  simp [World.cell?, h]

set_option maxRecDepth 100000 in
set_option maxHeartbeats 1000000 in
theorem winStep_any (zs : List Int) (b off n cap tb ub : Nat) (t : Int) (m k : Nat) (w : World) (hc : Cells .i64 w b off zs) (hn : n = zs.length) (_hl : n ≤ 1099511627776) (hm : m < n) (hk : k < n)
    (ht : w.cell? ⟨tb, 0, none⟩ = some (.slice (some ⟨b, off, none⟩) n cap)) (hu : w.cell? ⟨ub, 0, none⟩ = some (.int .i64 t)) :
    Calls Tryd.prog 103 #[.int .i64 m, .int .i64 k, .pointer (some ⟨tb, 0, none⟩), .pointer (some ⟨ub, 0, none⟩)] w fun e w' =>
      e = .returned (.int .i64 ((if beats (zs.getD k 0) (zs.getD m 0) t = true then k else m : Nat) : Int)) ∧ Below w.heap.size w w' := by
  obtain ⟨x, hx⟩ : ∃ x, x = zs.getD k 0 := ⟨_, rfl⟩
  obtain ⟨y, hy⟩ : ∃ y, y = zs.getD m 0 := ⟨_, rfl⟩
  have h1 : w.cell? ⟨b, off + k, none⟩ = some (.int .i64 x) := by rw [hc k (by omega), hx]; simp [List.getD, show k < zs.length by omega]
  have h2 : w.cell? ⟨b, off + m, none⟩ = some (.int .i64 y) := by rw [hc m (by omega), hy]; simp [List.getD, show m < zs.length by omega]
  rw [← hx, ← hy]
  clear hx hy hc hn
  have hkz : (0 : Int) ≤ (k : Int) := by omega
  have hkn : (k : Int) < (n : Int) := by omega
  have hmz : (0 : Int) ≤ (m : Int) := by omega
  have hmn : (m : Int) < (n : Int) := by omega
  cases e1 : beats x y t with
  | true =>
    go_enter Tryd.func103, Tryd.ntmps103
    go_wp2_with fail
    go_quiet ((go_at_call 104; exact Calls.quiet_of_same (flip_same (beats_any _ _ _ _) (congrArg Value.bool e1))))
    go_wp2_with fail
    go_ret
    exact ⟨rfl, below_drewN (Below.refl _ _) _⟩
  | false =>
    go_enter Tryd.func103, Tryd.ntmps103
    go_wp2_with fail
    go_quiet ((go_at_call 104; exact Calls.quiet_of_same (flip_same (beats_any _ _ _ _) (congrArg Value.bool e1))))
    go_wp2_with fail
    go_ret
    exact ⟨rfl, below_drewN (Below.refl _ _) _⟩

set_option maxRecDepth 100000 in
set_option maxHeartbeats 1000000 in
theorem winnerOf_any (v : Value) (zs : List Int) (b : Nat) (t : Int) (w : World) (h : RdAt .i64 w v zs b) (hl : zs.length ≤ 1099511627776) :
    Calls Tryd.prog 79 #[v, .int .i64 t] w fun e w' => e = .returned (.int .i64 (winnerOf zs t)) ∧ Below w.heap.size w w' := by
  have HI : Hid (∀ wx, Below w.heap.size w wx → Calls Tryd.prog 75 #[v] wx fun e w' => e = .returned (.bool (isHand zs)) ∧ Below wx.heap.size wx w') := Lib.hid (fun wx hb => isHand_any v zs b wx (h.below hb) (by omega))
  have hB0 : ∀ o1 o2, Below w.heap.size w ((w.alloc o1).alloc o2) := fun o1 o2 => ((Below.refl _ _).alloc (Nat.le_refl _) _).alloc (by simp) _
  rcases h.open with ⟨rfl, a, cap, rfl, -⟩ | ⟨hz, off, cap, rfl, -, hc⟩
  · clear HI
    go_enter Tryd.func79, Tryd.ntmps79
    go_wp2_with fail
    go_ret
    exact ⟨by rw [winner_0]; rfl, hB0 _ _⟩
  · cases e1 : isHand zs with
    | false =>
      rw [e1] at HI
      have Hr := Lib.hid (winner_1 t e1)
      obtain ⟨n, hn⟩ : ∃ n, n = zs.length := ⟨_, rfl⟩
      have hnp : 0 < n := by have := List.length_pos_iff.2 hz; omega
      have hne : ¬ n = 0 := by omega
      have hn0 : ((n : Int) == 0) = false := by simp; omega
      rw [← hn] at hl HI ⊢
      clear hc h e1 hn hz
      go_enter Tryd.func79, Tryd.ntmps79
      go_wp2_with fail
      refine (HI.out _ (hB0 _ _)).mono ?_
      rintro e w1 ⟨rfl, B1⟩
      have B := (hB0 _ _).trans (B1.mono (hB0 _ _).size)
      go_wp2_with fail
      go_ret
      exact ⟨by rw [Hr.out]; rfl, B⟩
    | true =>
      rw [e1] at HI
      have Hr := Lib.hid (winner_2 t e1 hz)
      have hlt := h.lt hz
      obtain ⟨n, hn⟩ : ∃ n, n = zs.length := ⟨_, rfl⟩
      have Hn := Lib.hid hn
      have hnp : 0 < n := by have := List.length_pos_iff.2 hz; omega
      have hne : ¬ n = 0 := by omega
      have hn0 : ((n : Int) == 0) = false := by simp; omega
      have HR : Hid (∀ wx, Below w.heap.size w wx → RdAt .i64 wx (.slice (some ⟨b, off, none⟩) n cap) zs b) := Lib.hid (fun wx hb => by rw [hn]; exact h.below hb)
      have HCl : Hid (∀ wx, Below w.heap.size w wx → Cells .i64 wx b off zs) := Lib.hid (fun wx hb j hj => by rw [World.cell?_of_block (w := w) (a := ⟨b, off + j, none⟩) (hb.block _ hlt)]; exact hc j hj)
      rw [← hn] at hl HI ⊢
      clear hc h e1 hz hn
      go_enter Tryd.func79, Tryd.ntmps79
      go_wp2_with fail
      refine (HI.out _ (hB0 _ _)).mono ?_
      rintro e w1 ⟨rfl, B1⟩
      have B := (hB0 _ _).trans (B1.mono (hB0 _ _).size)
      have hcell : w1.cell? ⟨w.heap.size, 0, none⟩ = some (.slice (some ⟨b, off, none⟩) n cap) := by
        rw [B1.cell (p := ⟨w.heap.size, 0, none⟩) (by simp; omega)]
        simp
      have hcell2 : w1.cell? ⟨w.heap.size + 1, 0, none⟩ = some (.int .i64 t) := by
        rw [B1.cell (p := ⟨w.heap.size + 1, 0, none⟩) (by simp)]
        simp
      have hw1 : w.heap.size + 1 < w1.heap.size := by have := B1.size; simp at this; omega
      have HF := foldWin_any _ zs b (.pointer (some ⟨w.heap.size, 0, none⟩)) (.pointer (some ⟨w.heap.size + 1, 0, none⟩)) (fun k => (winsAt zs t k : Int)) w1 (HR.out _ B) (by rw [← Hn.out]; exact hl) (fun k hk wx hbx => by
        have := winStep_any zs b off n cap w.heap.size (w.heap.size + 1) t (winsAt zs t k) k wx (HCl.out _ (B.trans (hbx.mono B.size))) Hn.out hl (by have := winsAt_le zs t k; have := Hn.out; omega) (by rw [Hn.out]; exact hk)
          (by rw [hbx.cell (p := ⟨w.heap.size, 0, none⟩) (by show w.heap.size < _; omega)]; exact hcell) (by rw [hbx.cell (p := ⟨w.heap.size + 1, 0, none⟩) hw1]; exact hcell2)
        exact this)
      rw [← Hn.out] at HF
      have HF := Lib.hid HF
      clear B1
      go_wp2_with fail
      refine HF.out.mono ?_
      rintro e w2 ⟨rfl, B2⟩
      replace B := B.trans (B2.mono B.size)
      go_wp2_with fail
      go_ret
      exact ⟨by rw [Hr.out, Hn.out]; rfl, B⟩

set_option maxRecDepth 100000 in
set_option maxHeartbeats 1000000 in
theorem sWinnerOf_any (v : Value) (zs : List Int) (b : Nat) (t : Int) (w : World) (h : RdAt .i64 w v zs b) (hl : zs.length ≤ 1099511627776) :
    Calls Tryd.prog 52 #[v, .int .i64 t] w fun e w' => e = .returned (.int .i64 (winnerOf zs t)) ∧ Below w.heap.size w w' := by
  have HI := sIsHand_any v zs b w h (by omega)
  rcases h.open with ⟨rfl, a, cap, rfl, -⟩ | ⟨hz, off, cap, rfl, -, hc⟩
  · clear HI
    go_enter Tryd.func52, Tryd.ntmps52
    go_wp2_with fail
    go_ret
    exact ⟨by rw [winner_0]; rfl, Below.refl _ _⟩
  · cases e1 : isHand zs with
    | false =>
      rw [e1] at HI
      have Hr := Lib.hid (winner_1 t e1)
      have HI := Lib.hid HI
      obtain ⟨n, hn⟩ : ∃ n, n = zs.length := ⟨_, rfl⟩
      have hnp : 0 < n := by have := List.length_pos_iff.2 hz; omega
      have hne : ¬ n = 0 := by omega
      have hn0 : ((n : Int) == 0) = false := by simp; omega
      rw [← hn] at hl HI ⊢
      clear hc h e1 hn hz
      go_enter Tryd.func52, Tryd.ntmps52
      go_wp2_with fail
      refine HI.out.mono ?_
      rintro e w1 ⟨rfl, B⟩
      go_wp2_with fail
      go_ret
      exact ⟨by rw [Hr.out]; rfl, B⟩
    | true =>
      rw [e1] at HI
      have Hr := Lib.hid (winner_2 t e1 hz)
      have HI := Lib.hid HI
      have hlt := h.lt hz
      have HC0 : Hid (isCard (zs.getD 0 0) = true) := Lib.hid (by
        have hp := List.length_pos_iff.2 hz
        unfold isHand at e1
        simp only [decide_eq_true_eq] at e1
        have := (e1 0 hp).1
        simpa [List.getD, hp] using this)
      obtain ⟨n, hn⟩ : ∃ n, n = zs.length := ⟨_, rfl⟩
      have Hn := Lib.hid hn
      have hnp : 0 < n := by have := List.length_pos_iff.2 hz; omega
      have hne : ¬ n = 0 := by omega
      have hn0 : ((n : Int) == 0) = false := by simp; omega
      have HCl : Hid (∀ wx, Below w.heap.size w wx → ∀ j, j < n → wx.cell? ⟨b, off + j, none⟩ = some (.int .i64 (zs.getD j 0))) := Lib.hid (fun wx hb j hj => by rw [World.cell?_of_block (w := w) (a := ⟨b, off + j, none⟩) (hb.block _ hlt), hc j (by omega)]; simp [List.getD, show j < zs.length by omega])
      have Hw1 : Hid (winsAt zs t 1 = 0) := Lib.hid (by simp [winsAt])
      rw [← hn] at hl HI ⊢
      clear hc h e1 hz hn
      go_enter Tryd.func52, Tryd.ntmps52
      go_wp2_with fail
      refine HI.out.mono ?_
      rintro e w1 ⟨rfl, B⟩
      clear HI
      go_wp2_with fail
      go_loopw [5, 6] (fun m i wr => ∃ k x : Nat, 1 ≤ k ∧ k ≤ n ∧ i = .int .i64 k ∧ m = .int .i64 x ∧ Hid (x = winsAt zs t k) ∧ x < n ∧ Below w.heap.size w wr) (fun _ i _ => n - (intOf i).toNat)
      case atStart => exact ⟨1, 0, Nat.le_refl _, hnp, rfl, rfl, Lib.hid Hw1.out.symm, hnp, B⟩
      case round =>
        clear B
        obtain ⟨k, x, hk1, hk, rfl, rfl, hx, hxn, B⟩ := hrel
        by_cases hlt2 : k < n
        · obtain ⟨y, hy⟩ : ∃ y, y = zs.getD k 0 := ⟨_, rfl⟩
          obtain ⟨u, hu⟩ : ∃ u, u = zs.getD x 0 := ⟨_, rfl⟩
          have h1 := HCl.out wr B k hlt2
          have h2 := HCl.out wr B x hxn
          rw [← hy] at h1
          rw [← hu] at h2
          have hkz : (0 : Int) ≤ (k : Int) := by omega
          have hkn : (k : Int) < (n : Int) := by omega
          have hmz : (0 : Int) ≤ (x : Int) := by omega
          have hmn : (x : Int) < (n : Int) := by omega
          cases e1 : beats y u t with
          | true =>
            have hx2 : Hid (k = winsAt zs t (k + 1)) := Lib.hid (by rw [winsAt, ← hx.out, ← hy, ← hu, e1]; rfl)
            clear hy hu
            go_wp2_with fail
            go_quiet ((go_at_call 71; exact Calls.quiet_of_same (flip_same (sBeats_any _ _ _ _) (congrArg Value.bool e1))))
            go_wp2_with fail
            go_roundw
            case rel => exact ⟨k + 1, k, by omega, by omega, by go_num, rfl, hx2, hlt2, below_drewN B _⟩
            case measure => simp [intOf]; omega
          | false =>
            have hx2 : Hid (x = winsAt zs t (k + 1)) := Lib.hid (by rw [winsAt, ← hx.out, ← hy, ← hu, e1]; rfl)
            clear hy hu
            go_wp2_with fail
            go_quiet ((go_at_call 71; exact Calls.quiet_of_same (flip_same (sBeats_any _ _ _ _) (congrArg Value.bool e1))))
            go_wp2_with fail
            go_roundw
            case rel => exact ⟨k + 1, x, by omega, by omega, by go_num, rfl, hx2, hxn, below_drewN B _⟩
            case measure => simp [intOf]; omega
        · obtain rfl : k = n := by omega
          go_wp2_with fail
          go_ret
          exact ⟨by rw [Hr.out, ← Hn.out, ← hx.out]; rfl, B⟩
end Go.Proofs.YtbojhbhniollaaaDoor
namespace Go.Proofs.YtbojhbhniollaaaDoor
open Go.RowKit Go.Maps

def cntR (zs : List Int) (r : Int) : Nat := (zs.filter fun x => rankOf x == r).length
theorem cntR_take (zs : List Int) (r : Int) (k : Nat) (h : k < zs.length) : cntR (zs.take (k + 1)) r = cntR (zs.take k) r + (if rankOf (zs.getD k 0) = r then 1 else 0) := by
  unfold cntR
  have e : zs.getD k 0 = zs[k] := by simp [List.getD, h]
  rw [List.take_succ_eq_append_getElem h, List.filter_append, List.length_append, e]
  congr 1
  by_cases e : rankOf zs[k] = r <;> simp [e]
theorem cntR_le (zs : List Int) (r : Int) : cntR zs r ≤ zs.length := List.length_filter_le _ _
def valT (c : Int) : Int := if rankOf c = 12 then 11 else if rankOf c = 11 then 4 else if rankOf c = 10 then 3 else if rankOf c = 9 then 2 else if rankOf c = 8 then 10 else 0
def pts (zs : List Int) : Int := (zs.map valT).sum
theorem pts_take (zs : List Int) (k : Nat) (h : k < zs.length) : pts (zs.take (k + 1)) = pts (zs.take k) + valT (zs.getD k 0) := by
  unfold pts
  have e : zs.getD k 0 = zs[k] := by simp [List.getD, h]
  rw [List.take_succ_eq_append_getElem h, List.map_append, List.sum_append, e]
  simp
theorem pts_cnt : ∀ zs : List Int, pts zs = 11 * (cntR zs 12 : Int) + 10 * (cntR zs 8 : Int) + 4 * (cntR zs 11 : Int) + 3 * (cntR zs 10 : Int) + 2 * (cntR zs 9 : Int)
  | [] => rfl
  | x :: zs => by
    have ih := pts_cnt zs
    have e1 : pts (x :: zs) = valT x + pts zs := by simp [pts]
    have e2 : ∀ r, (cntR (x :: zs) r : Int) = (if rankOf x = r then 1 else 0) + (cntR zs r : Int) := fun r => by
      unfold cntR
      by_cases h : rankOf x = r
      · simp [h]; omega
      · simp [h]
    rw [e1, ih, e2, e2, e2, e2, e2]
    unfold valT
    generalize rankOf x = y
    by_cases h12 : y = 12
    · subst h12; simp; omega
    by_cases h11 : y = 11
    · subst h11; simp; omega
    by_cases h10 : y = 10
    · subst h10; simp; omega
    by_cases h9 : y = 9
    · subst h9; simp; omega
    by_cases h8 : y = 8
    · subst h8; simp; omega
    simp [h12, h11, h10, h9, h8]
theorem pts_bd (zs : List Int) : 0 ≤ pts zs ∧ pts zs ≤ 11 * zs.length := by
  induction zs with
  | nil => simp [pts]
  | cons x zs ih =>
    have e1 : pts (x :: zs) = valT x + pts zs := by simp [pts]
    have : 0 ≤ valT x ∧ valT x ≤ 11 := by unfold valT; repeat' split
                                          all_goals omega
    rw [e1]; simp; omega

set_option maxRecDepth 100000 in
set_option maxHeartbeats 1000000 in
theorem rankStep_any (zs : List Int) (b off n cap tb ub : Nat) (t : Int) (m k : Nat) (w : World) (hc : Cells .i64 w b off zs) (hn : n = zs.length) (_hl : n ≤ 1099511627776) (hm : m ≤ n) (hk : k < n)
    (ht : w.cell? ⟨tb, 0, none⟩ = some (.slice (some ⟨b, off, none⟩) n cap)) (hu : w.cell? ⟨ub, 0, none⟩ = some (.int .i64 t)) :
    Calls Tryd.prog 123 #[.int .i64 m, .int .i64 k, .pointer (some ⟨tb, 0, none⟩), .pointer (some ⟨ub, 0, none⟩)] w fun e w' =>
      e = .returned (.int .i64 ((m + (if rankOf (zs.getD k 0) = t then 1 else 0) : Nat) : Int)) ∧ Below w.heap.size w w' := by
  obtain ⟨x, hx⟩ : ∃ x, x = zs.getD k 0 := ⟨_, rfl⟩
  have h1 : w.cell? ⟨b, off + k, none⟩ = some (.int .i64 x) := by rw [hc k (by omega), hx]; simp [List.getD, show k < zs.length by omega]
  rw [← hx]
  clear hx hc hn
  have hkz : (0 : Int) ≤ (k : Int) := by omega
  have hkn : (k : Int) < (n : Int) := by omega
  obtain ⟨u, hu2⟩ : ∃ u, rankOf x = u := ⟨_, rfl⟩
  have HU := Lib.hid hu2
  by_cases e1 : u = t
  · have Hr : Hid (m + (if rankOf x = t then 1 else 0) = m + 1) := Lib.hid (by rw [hu2, if_pos e1])
    have hq : (u == t) = true := by simpa using e1
    clear e1 hu2
    rw [Hr.out]
    go_enter Tryd.func123, Tryd.ntmps123
    go_wp2_with fail
    go_quiet ((go_at_call 122; exact Calls.quiet_of_same (flip_same (rankOf_r _ _ _ HU.out) rfl)))
    go_wp2_with fail
    go_ret
    exact ⟨rfl, below_drewN (Below.refl _ _) _⟩
  · have Hr : Hid (m + (if rankOf x = t then 1 else 0) = m) := Lib.hid (by rw [hu2, if_neg e1]; rfl)
    have hq : (u == t) = false := by simpa using e1
    clear e1 hu2
    rw [Hr.out]
    go_enter Tryd.func123, Tryd.ntmps123
    go_wp2_with fail
    go_quiet ((go_at_call 122; exact Calls.quiet_of_same (flip_same (rankOf_r _ _ _ HU.out) rfl)))
    go_wp2_with fail
    go_ret
    exact ⟨rfl, below_drewN (Below.refl _ _) _⟩

set_option maxRecDepth 100000 in
set_option maxHeartbeats 1000000 in
theorem countRank_any (v : Value) (zs : List Int) (b : Nat) (t : Int) (w : World) (h : RdAt .i64 w v zs b) (hl : zs.length ≤ 1099511627776) :
    Calls Tryd.prog 105 #[v, .int .i64 t] w fun e w' => e = .returned (.int .i64 (cntR zs t)) ∧ Below w.heap.size w w' := by
  obtain ⟨n, hn⟩ : ∃ n, n = zs.length := ⟨_, rfl⟩
  have Hn := Lib.hid hn
  have h0 := h
  obtain ⟨a, cap, rfl, -⟩ := id h
  have HR : Hid (∀ wx, Below w.heap.size w wx → RdAt .i64 wx (.slice a n cap) zs b) := Lib.hid (fun wx hb => by rw [hn]; exact h0.below hb)
  have HCl : Hid (∀ k, k < n → ∃ off, a = some ⟨b, off, none⟩ ∧ ∀ wx, Below w.heap.size w wx → Cells .i64 wx b off zs) := Lib.hid (fun k hk => by
    rcases h0.open with ⟨h00, -⟩ | ⟨hz, off, cap', he, -, hc⟩
    · rw [hn, h00] at hk; simp at hk
    · refine ⟨off, (Value.slice.inj he).1, fun wx hb j hj => ?_⟩
      rw [World.cell?_of_block (w := w) (a := ⟨b, off + j, none⟩) (hb.block _ (h0.lt hz))]; exact hc j hj)
  rw [← hn] at hl ⊢
  have B : Below w.heap.size w ((w.alloc (.cells #[.slice a n cap] 23)).alloc (.cells #[.int .i64 t] 3)) := ((Below.refl _ _).alloc (Nat.le_refl _) _).alloc (by simp) _
  obtain ⟨w1, hw1⟩ : ∃ w1, w1 = ((w.alloc (.cells #[.slice a n cap] 23)).alloc (.cells #[.int .i64 t] 3)) := ⟨_, rfl⟩
  have hcell : w1.cell? ⟨w.heap.size, 0, none⟩ = some (.slice a n cap) := by rw [hw1]; simp
  have hcell2 : w1.cell? ⟨w.heap.size + 1, 0, none⟩ = some (.int .i64 t) := by rw [hw1]; simp
  have hs1 : w.heap.size + 1 < w1.heap.size := by rw [hw1]; simp
  rw [← hw1] at B
  have HF := foldRank_any _ zs b (.pointer (some ⟨w.heap.size, 0, none⟩)) (.pointer (some ⟨w.heap.size + 1, 0, none⟩)) (fun k => (cntR (zs.take k) t : Int)) w1 (HR.out _ B) (by rw [← Hn.out]; exact hl) (fun k hk wx hbx => by
    obtain ⟨off, ha, hcl⟩ := HCl.out k (by rw [Hn.out]; exact hk)
    have := rankStep_any zs b off n cap w.heap.size (w.heap.size + 1) t (cntR (zs.take k) t) k wx (hcl _ (B.trans (hbx.mono B.size))) Hn.out hl (by have := cntR_le (zs.take k) t; rw [List.length_take] at this; have := Hn.out; omega) (by rw [Hn.out]; exact hk)
      (by rw [hbx.cell (p := ⟨w.heap.size, 0, none⟩) (by show w.heap.size < _; omega), ← ha]; exact hcell) (by rw [hbx.cell (p := ⟨w.heap.size + 1, 0, none⟩) hs1]; exact hcell2)
    rw [← cntR_take zs t k hk] at this
    exact this)
  simp only [List.take_zero, List.take_length] at HF
  rw [show cntR [] t = 0 from rfl] at HF
  have HF := Lib.hid HF
  subst hw1
  clear h h0 hn hcell hcell2 hs1
  go_enter Tryd.func105, Tryd.ntmps105
  go_wp2_with fail
  refine HF.out.mono ?_
  rintro e w2 ⟨rfl, B2⟩
  replace B := B.trans (B2.mono B.size)
  go_wp2_with fail
  go_ret
  exact ⟨rfl, B⟩

theorem wpList_insert_own {H : Type} {P : Program} (w : World) {ops : Array Oper} {rest : List Oper} {o : Oper} {a : Act} {Q : Exit → Act → World → Prop}
    (hg : o.guard = none) (m x v : Operand) (t : TypeId) (hop : o.op = Op.insert t m x v)
    (k e : TypeId) (K : Keyed P k) (ht : P.underlying t = some (.map k e)) (R : Value → Option (DataW H × List MemPlace)) (b n : Nat) (D : DataW H)
    (hm : a.eval m = .map (some b)) (hown : w.ownsMap P k R b n D) (hn : n < maxLen) (key val : Value) (kl : Lit) (hx : a.eval x = key) (hv : a.eval v = val) (hkey : keyOf P k key = some kl)
    (d : DataW H) (ps : List MemPlace) (hval : R val = some (d, ps))
    (hK : ∀ w', w'.ownsMap P k R b (n + 1) (D.put kl d) → w.grownBy w' (some b) → wpList P ops Q rest (a.put o.dst undef) w') :
    wpList P ops Q (o :: rest) a w := by
  refine wpList_plain hg fun K' hK' => ?_
  obtain ⟨w', hrun, r1, r2⟩ := hown.update K ht hn hkey hval
  unfold Oper.wp
  simp [execOp, hop, hm, hx, hv, hrun, Result.andThen]
  exact hK' _ _ (hK w' r1 r2)

def ptMap : DataW Unit := .map [(.int .i64 8, .lit (.int .i64 10)), (.int .i64 9, .lit (.int .i64 2)), (.int .i64 10, .lit (.int .i64 3)), (.int .i64 11, .lit (.int .i64 4)), (.int .i64 12, .lit (.int .i64 11))]
theorem has_pt {x : Int} (h : Maps.has ptMap (.int .i64 x) = true) : x = 8 ∨ x = 9 ∨ x = 10 ∨ x = 11 ∨ x = 12 := by
  simp only [Maps.has, ptMap, List.any_cons, List.any_nil, Lit.sameKey, Bool.or_eq_true, decide_eq_true_eq, Bool.or_false] at h
  omega
/-- What has been counted of the five kinds. -/
def doneP (zs : List Int) (left : Lit → Bool) : Int :=
  (if left (.int .i64 12) then 0 else 11 * (cntR zs 12 : Int)) + (if left (.int .i64 8) then 0 else 10 * (cntR zs 8 : Int)) + (if left (.int .i64 11) then 0 else 4 * (cntR zs 11 : Int)) + (if left (.int .i64 10) then 0 else 3 * (cntR zs 10 : Int)) + (if left (.int .i64 9) then 0 else 2 * (cntR zs 9 : Int))
theorem doneP_bd (zs : List Int) (left : Lit → Bool) : 0 ≤ doneP zs left ∧ doneP zs left ≤ 30 * zs.length := by
  have h1 := cntR_le zs 12
  have h2 := cntR_le zs 8
  have h3 := cntR_le zs 11
  have h4 := cntR_le zs 10
  have h5 := cntR_le zs 9
  unfold doneP
  repeat' split
  all_goals omega
theorem doneP_start (zs : List Int) : doneP zs (Maps.has ptMap) = 0 := by
  unfold doneP
  rw [if_pos (by rfl), if_pos (by rfl), if_pos (by rfl), if_pos (by rfl), if_pos (by rfl)]; rfl
theorem doneP_end (zs : List Int) {left : Lit → Bool} (h : ∀ kl, left kl = false) : doneP zs left = pts zs := by
  rw [pts_cnt]; unfold doneP; simp [h]
theorem doneP_step (zs : List Int) {left : Lit → Bool} {x c : Int} (hx : left (.int .i64 x) = true) (hp : Maps.has ptMap (.int .i64 x) = true) (hat : ∀ zd, ptMap.atKey (.int .i64 x) zd = .lit (.int .i64 c)) :
    doneP zs (fun z => left z && !z.sameKey (.int .i64 x)) = doneP zs left + c * (cntR zs x : Int) ∧ 0 ≤ c ∧ c ≤ 11 := by
  have hh := hat (.lit (.int .i64 0))
  rcases has_pt hp with rfl | rfl | rfl | rfl | rfl
  · have e : (10 : Int) = c := by
      have h2 : (DataW.lit (.int .i64 10) : DataW Unit) = .lit (.int .i64 c) := hh
      simpa using h2
    subst e; unfold doneP; simp [Lit.sameKey, hx]; omega
  · have e : (2 : Int) = c := by
      have h2 : (DataW.lit (.int .i64 2) : DataW Unit) = .lit (.int .i64 c) := hh
      simpa using h2
    subst e; unfold doneP; simp [Lit.sameKey, hx]
  · have e : (3 : Int) = c := by
      have h2 : (DataW.lit (.int .i64 3) : DataW Unit) = .lit (.int .i64 c) := hh
      simpa using h2
    subst e; unfold doneP; simp [Lit.sameKey, hx]; omega
  · have e : (4 : Int) = c := by
      have h2 : (DataW.lit (.int .i64 4) : DataW Unit) = .lit (.int .i64 c) := hh
      simpa using h2
    subst e; unfold doneP; simp [Lit.sameKey, hx]; omega
  · have e : (11 : Int) = c := by
      have h2 : (DataW.lit (.int .i64 11) : DataW Unit) = .lit (.int .i64 c) := hh
      simpa using h2
    subst e; unfold doneP; simp [Lit.sameKey, hx]; omega

set_option maxRecDepth 100000 in
set_option maxHeartbeats 1000000 in
theorem points_any (v : Value) (zs : List Int) (b : Nat) (w : World) (h : RdAt .i64 w v zs b) (hl : zs.length ≤ 1099511627776) :
    Calls Tryd.prog 80 #[v] w fun e w' => e = .returned (.int .i64 (pts zs)) ∧ Below w.heap.size w w' := by
  have HC : Hid (∀ wx t, Below w.heap.size w wx → Calls Tryd.prog 105 #[v, .int .i64 t] wx fun e w' => e = .returned (.int .i64 (cntR zs t)) ∧ Below wx.heap.size wx w') := Lib.hid (fun wx t hb => countRank_any v zs b t wx (h.below hb) hl)
  obtain ⟨p0, cap0, rfl, -⟩ := id h
  have hmm := @run_makeMap Tryd.prog
  have law : Keyed Tryd.prog 3 := int_keyed Tryd.underlying3
  have hown0 := World.ownsMap_made (H := Unit) w Tryd.prog 3 (plainElem Tryd.prog 3)
  have B0 : Below w.heap.size w (w.alloc (.map #[] 0)) := (Below.refl _ _).alloc (Nat.le_refl _) _
  obtain ⟨n, hn⟩ : ∃ n, n = zs.length := ⟨_, rfl⟩
  have Hn := Lib.hid hn
  rw [← hn] at hl HC ⊢
  clear h hn
  go_enter Tryd.func80, Tryd.ntmps80
  go_wp2_with (first
    | (refine wpList_insert_own _ rfl _ _ _ 103 rfl 3 3 law Tryd.underlying103 _ w.heap.size _ _ rfl (by assumption) (by first | decide | (unfold maxLen; omega)) _ _ _ rfl rfl (keyOf_int_mk Tryd.underlying3 (WalkArith.wf_i64 (by omega))) _ [] (plainElem_int Tryd.underlying3 (WalkArith.wf_i64 (by omega))) ?_; intro w1 hown1 hgrow1; have B1 := below_touch (by assumption : Below w.heap.size w _) hgrow1 (Nat.le_refl _))
    | (at_range; refine wpList_range_own _ rfl _ 103 rfl 3 3 law Tryd.underlying103 _ w.heap.size _ _ rfl (by assumption) ?_; intro w0 hrg0 hg0 hs0)
    | go_in)
  have B2 := below_touch B1 (hg0.but (some w.heap.size)) (Nat.le_refl _)
  obtain ⟨r, hr⟩ : ∃ r, r = w1.heap.size := ⟨_, rfl⟩
  rw [← hr] at hrg0 ⊢
  have hrg : w0.ranges Tryd.prog 3 (plainElem Tryd.prog 3) w.heap.size r (0 + 1 + 1 + 1 + 1 + 1) ptMap (Maps.has ptMap) (Maps.size ptMap) := hrg0
  have hrs : w.heap.size ≤ r := by rw [hr]; exact B1.size
  clear hrg0 hr hs0 hg0
  clear hown0
  go_frame
  go_loopw [4, 5, 6] (fun t _ _ wr => ∃ (left : Lit → Bool) (cnt : Nat) (x : Int), t = .int .i64 x ∧ Hid (x = doneP zs left) ∧ Hid (∀ z, left z = true → Maps.has ptMap z = true) ∧ wr.ranges Tryd.prog 3 (plainElem Tryd.prog 3) w.heap.size r (0 + 1 + 1 + 1 + 1 + 1) ptMap left cnt ∧ Below w.heap.size w wr) (fun _ _ _ wr => wr.rangeLeft w.heap.size r)
  case atStart => exact ⟨_, _, 0, rfl, Lib.hid (doneP_start zs).symm, Lib.hid (fun z h => h), hrg, B2⟩
  case round =>
    clear hrg B2 B1 hgrow1 hown1
    obtain ⟨left, cnt, x, rfl, hx, hh, hrg, B⟩ := hrel
    have hbx := doneP_bd zs left
    rw [← hx.out, ← Hn.out] at hbx
    obtain ⟨hb0, hb1⟩ := hbx
    go_wp2_with (first
      | (at_next; refine wpList_next_ranges_ii _ rfl _ rfl 3 3 .i64 .i64 law Tryd.underlying3 Tryd.underlying3 w.heap.size r (0 + 1 + 1 + 1 + 1 + 1) _ _ _ rfl hrg ?_ ?_)
      | go_in)
    · intro _ hl0
      have hr1 : Hid (x = pts zs) := Lib.hid (by rw [hx.out]; exact doneP_end zs hl0)
      clear hl0 hrg hh hx
      go_wp2_with fail
      go_ret
      exact ⟨by rw [← hr1.out]; rfl, B⟩
    · intro y c w1 cnt1 hwy hwc hly hat hrg1 hlt hg1 hs1 hen
      have hB1 : Below w.heap.size w w1 := below_touch B hg1 hrs
      obtain ⟨hd1, hc0, hc1⟩ := doneP_step zs hly (hh.out _ hly) hat
      have hk := cntR_le zs y
      rw [← Hn.out] at hk
      have HC1 := HC.out w1 y hB1
      rw [← hx.out] at hd1
      obtain ⟨K, hK⟩ : ∃ K, K = cntR zs y := ⟨_, rfl⟩
      rw [← hK] at hk hd1 HC1
      have hp0 : 0 ≤ c * (K : Int) := Int.mul_nonneg hc0 (by omega)
      have hp1 : c * (K : Int) ≤ 11 * (K : Int) := Int.mul_le_mul_of_nonneg_right hc1 (by omega)
      have HC1 := Lib.hid HC1
      have hd2 : Hid (x + c * (K : Int) = doneP zs (fun z => left z && !z.sameKey (.int .i64 y))) := Lib.hid hd1.symm
      have hh2 : Hid (∀ z, (left z && !z.sameKey (.int .i64 y)) = true → Maps.has ptMap z = true) := Lib.hid (fun z hz => hh.out z (by simp at hz; exact hz.1))
      have Hlt := Lib.hid hlt
      have hleq := Lib.hid hrg.left_eq
      clear hly hat hd1 hK hrg B hg1 hs1 hlt hwy hwc
      go_wp2_with fail
      refine HC1.out.mono ?_
      rintro e w2 ⟨rfl, B4⟩
      have hrg2 := hrg1.kept (row := none) ⟨B4.os, B4.tape, B4.output, B4.size, fun i hi _ => B4.block i hi⟩ (by simp) (by simp)
      have B := hB1.trans (B4.mono hB1.size)
      clear hrg1 B4 HC1 hen hB1
      go_wp2_with fail
      go_roundw
      case rel => exact ⟨_, cnt1, x + c * (K : Int), rfl, hd2, hh2, hrg2, B⟩
      case measure => rw [hrg2.left_eq, hleq.out]; exact Hlt.out

set_option maxRecDepth 100000 in
set_option maxHeartbeats 1000000 in
theorem sPoints_any (v : Value) (zs : List Int) (b : Nat) (w : World) (h : RdAt .i64 w v zs b) (hl : zs.length ≤ 1099511627776) :
    Calls Tryd.prog 53 #[v] w fun e w' => e = .returned (.int .i64 (pts zs)) ∧ w = w' := by
  obtain ⟨a, cap, rfl, -, -, hcell⟩ := h
  obtain ⟨n, hn⟩ : ∃ n, n = zs.length := ⟨_, rfl⟩
  have Hn := Lib.hid hn
  rw [← hn] at hl ⊢
  clear hn
  go_enter Tryd.func53, Tryd.ntmps53
  go_wp2_with fail
  go_loop [3, 4] (fun t i => ∃ (k : Nat) (x : Int), k ≤ n ∧ i = .int .i64 k ∧ t = .int .i64 x ∧ Hid (x = pts (zs.take k))) (fun _ i => n - (intOf i).toNat)
  case atStart => exact ⟨0, 0, Nat.zero_le _, rfl, rfl, Lib.hid rfl⟩
  case round =>
    obtain ⟨k, x, hk, rfl, rfl, hx⟩ := hrel
    have hpb := pts_bd (zs.take k)
    rw [← hx.out, List.length_take, ← Hn.out] at hpb
    have hpb0 := hpb.1
    have hpb1 : x ≤ 11 * (n : Int) := by have := hpb.2; omega
    clear hpb
    by_cases hlt : k < n
    · have hz : k < zs.length := by rw [← Hn.out]; exact hlt
      rcases hcell with h0 | ⟨off, rfl, hc⟩
      · subst h0; simp at hz
      obtain ⟨y, hy⟩ : ∃ y, Hid (y = zs[k]) := ⟨_, Lib.hid rfl⟩
      have hyd : Hid (zs.getD k 0 = y) := Lib.hid (by rw [hy.out]; simp [List.getD, hz])
      have h1 : w.cell? ⟨b, off + k, none⟩ = some (.int .i64 y) := by rw [hc k hz, hy.out]
      have hstep := pts_take zs k hz
      clear hc
      by_cases h12 : rankOf y = 12
      · have HU : Hid (rankOf y = 12) := Lib.hid h12
        have hv : Hid (x + 11 = pts (zs.take (k + 1))) := Lib.hid (by rw [hstep, hyd.out, ← hx.out]; unfold valT; rw [HU.out]; rfl)
        clear hstep
        go_wp2_with fail
        refine (sRankOf_r _ _ _ HU.out).mono ?_
        rintro e _w ⟨rfl, rfl⟩
        go_wp2_with fail
        go_round
        case rel => exact ⟨k + 1, x + 11, by omega, by go_num, rfl, hv⟩
        case measure => simp [intOf]; omega
      by_cases h11 : rankOf y = 11
      · have HU : Hid (rankOf y = 11) := Lib.hid h11
        have hv : Hid (x + 4 = pts (zs.take (k + 1))) := Lib.hid (by rw [hstep, hyd.out, ← hx.out]; unfold valT; rw [HU.out]; rfl)
        clear hstep
        go_wp2_with fail
        refine (sRankOf_r _ _ _ HU.out).mono ?_
        rintro e _w ⟨rfl, rfl⟩
        go_wp2_with fail
        go_round
        case rel => exact ⟨k + 1, x + 4, by omega, by go_num, rfl, hv⟩
        case measure => simp [intOf]; omega
      by_cases h10 : rankOf y = 10
      · have HU : Hid (rankOf y = 10) := Lib.hid h10
        have hv : Hid (x + 3 = pts (zs.take (k + 1))) := Lib.hid (by rw [hstep, hyd.out, ← hx.out]; unfold valT; rw [HU.out]; rfl)
        clear hstep
        go_wp2_with fail
        refine (sRankOf_r _ _ _ HU.out).mono ?_
        rintro e _w ⟨rfl, rfl⟩
        go_wp2_with fail
        go_round
        case rel => exact ⟨k + 1, x + 3, by omega, by go_num, rfl, hv⟩
        case measure => simp [intOf]; omega
      by_cases h9 : rankOf y = 9
      · have HU : Hid (rankOf y = 9) := Lib.hid h9
        have hv : Hid (x + 2 = pts (zs.take (k + 1))) := Lib.hid (by rw [hstep, hyd.out, ← hx.out]; unfold valT; rw [HU.out]; rfl)
        clear hstep
        go_wp2_with fail
        refine (sRankOf_r _ _ _ HU.out).mono ?_
        rintro e _w ⟨rfl, rfl⟩
        go_wp2_with fail
        go_round
        case rel => exact ⟨k + 1, x + 2, by omega, by go_num, rfl, hv⟩
        case measure => simp [intOf]; omega
      by_cases h8 : rankOf y = 8
      · have HU : Hid (rankOf y = 8) := Lib.hid h8
        have hv : Hid (x + 10 = pts (zs.take (k + 1))) := Lib.hid (by rw [hstep, hyd.out, ← hx.out]; unfold valT; rw [HU.out]; rfl)
        clear hstep
        go_wp2_with fail
        refine (sRankOf_r _ _ _ HU.out).mono ?_
        rintro e _w ⟨rfl, rfl⟩
        go_wp2_with fail
        go_round
        case rel => exact ⟨k + 1, x + 10, by omega, by go_num, rfl, hv⟩
        case measure => simp [intOf]; omega
      obtain ⟨u, hu⟩ : ∃ u, rankOf y = u := ⟨_, rfl⟩
      have HU := Lib.hid hu
      have hv : Hid (x = pts (zs.take (k + 1))) := Lib.hid (by rw [hstep, hyd.out, ← hx.out]; unfold valT; simp [h12, h11, h10, h9, h8])
      have q12 : (u == 12) = false := by rw [hu] at h12; simpa using h12
      have q11 : (u == 11) = false := by rw [hu] at h11; simpa using h11
      have q10 : (u == 10) = false := by rw [hu] at h10; simpa using h10
      have q9 : (u == 9) = false := by rw [hu] at h9; simpa using h9
      have q8 : (u == 8) = false := by rw [hu] at h8; simpa using h8
      clear h12 h11 h10 h9 h8 hu hstep
      go_wp2_with fail
      refine (sRankOf_r _ _ _ HU.out).mono ?_
      rintro e _w ⟨rfl, rfl⟩
      go_wp2_with fail
      go_round
      case rel => exact ⟨k + 1, x, by omega, by go_num, rfl, hv⟩
      case measure => simp [intOf]; omega
    · obtain rfl : k = n := by omega
      have hv : Hid (x = pts zs) := Lib.hid (by rw [hx.out, List.take_of_length_le (by rw [Hn.out]; exact Nat.le_refl _)])
      go_wp2_with fail
      go_ret
      exact ⟨by rw [← hv.out]; rfl, rfl⟩
end Go.Proofs.YtbojhbhniollaaaDoor
namespace Go.Proofs
open Go.Shelf
def Tryd.lays189_ren : Go.Shelf.Ren := ⟨fun | 189 => 65 | 125 => 92 | 257 => 91 | 128 => 117 | 129 => 118 | 294 => 108 | 295 => 109 | 296 => 110 | 297 => 111 | 298 => 112 | 299 => 113 | 216 => 114 | 300 => 115 | 301 => 116 | 328 => 128 | 329 => 129 | 330 => 130 | 331 => 131 | 332 => 132 | 215 => 133 | 343 => 140 | n => n, fun | 28 => 23 | 3 => 3 | 46 => 89 | 0 => 0 | 51 => 117 | 53 => 82 | 4 => 4 | 183 => 109 | 182 => 108 | 131 => 114 | 5 => 5 | 9 => 9 | 218 => 128 | 222 => 132 | 228 => 139 | 229 => 140 | n => n, fun | n => n⟩
theorem Tryd.lays189 : Go.Proofs.Lays.n189 Tryd.prog Tryd.lays189_ren := {
  mixed := by kernel_rfl
  f125 := Tryd.func92.trans (congrArg some (by kernel_rfl))
  f128 := Tryd.func117.trans (congrArg some (by kernel_rfl))
  f129 := Tryd.func118.trans (congrArg some (by kernel_rfl))
  f189 := Tryd.func65.trans (congrArg some (by kernel_rfl))
  f215 := Tryd.func133.trans (congrArg some (by kernel_rfl))
  f216 := Tryd.func114.trans (congrArg some (by kernel_rfl))
  f257 := Tryd.func91.trans (congrArg some (by kernel_rfl))
  f294 := Tryd.func108.trans (congrArg some (by kernel_rfl))
  f295 := Tryd.func109.trans (congrArg some (by kernel_rfl))
  f296 := Tryd.func110.trans (congrArg some (by kernel_rfl))
  f297 := Tryd.func111.trans (congrArg some (by kernel_rfl))
  f298 := Tryd.func112.trans (congrArg some (by kernel_rfl))
  f299 := Tryd.func113.trans (congrArg some (by kernel_rfl))
  f300 := Tryd.func115.trans (congrArg some (by kernel_rfl))
  f301 := Tryd.func116.trans (congrArg some (by kernel_rfl))
  f328 := Tryd.func128.trans (congrArg some (by kernel_rfl))
  f329 := Tryd.func129.trans (congrArg some (by kernel_rfl))
  f330 := Tryd.func130.trans (congrArg some (by kernel_rfl))
  f331 := Tryd.func131.trans (congrArg some (by kernel_rfl))
  f332 := Tryd.func132.trans (congrArg some (by kernel_rfl))
  f343 := Tryd.func140.trans (congrArg some (by kernel_rfl))
  t0 := Tryd.underlying0
  a0 := Tryd.isAgg0
  z0 := Tryd.sizeOf0
  v0 := Tryd.zeroValue0
  t3 := Tryd.underlying3
  a3 := Tryd.isAgg3
  z3 := Tryd.sizeOf3
  v3 := Tryd.zeroValue3
  t4 := Tryd.underlying4
  a4 := Tryd.isAgg4
  z4 := Tryd.sizeOf4
  v4 := Tryd.zeroValue4
  t5 := Tryd.underlying5
  a5 := Tryd.isAgg5
  z5 := Tryd.sizeOf5
  v5 := Tryd.zeroValue5
  t9 := Tryd.underlying9
  a9 := Tryd.isAgg9
  z9 := Tryd.sizeOf9
  v9 := Tryd.zeroValue9
  t28 := Tryd.underlying23
  a28 := Tryd.isAgg23
  z28 := Tryd.sizeOf23
  v28 := Tryd.zeroValue23
  t46 := Tryd.underlying89
  a46 := Tryd.isAgg89
  z46 := Tryd.sizeOf89
  v46 := Tryd.zeroValue89
  t51 := Tryd.underlying117
  a51 := Tryd.isAgg117
  z51 := Tryd.sizeOf117
  v51 := Tryd.zeroValue117
  t53 := Tryd.underlying82
  a53 := Tryd.isAgg82
  z53 := Tryd.sizeOf82
  v53 := Tryd.zeroValue82
  t131 := Tryd.underlying114
  a131 := Tryd.isAgg114
  z131 := Tryd.sizeOf114
  v131 := Tryd.zeroValue114
  t182 := Tryd.underlying108
  a182 := Tryd.isAgg108
  z182 := Tryd.sizeOf108
  v182 := Tryd.zeroValue108
  t183 := Tryd.underlying109
  a183 := Tryd.isAgg109
  z183 := Tryd.sizeOf109
  v183 := Tryd.zeroValue109
  t218 := Tryd.underlying128
  a218 := Tryd.isAgg128
  z218 := Tryd.sizeOf128
  v218 := Tryd.zeroValue128
  t222 := Tryd.underlying132
  a222 := Tryd.isAgg132
  z222 := Tryd.sizeOf132
  v222 := Tryd.zeroValue132
  t228 := Tryd.underlying139
  a228 := Tryd.isAgg139
  z228 := Tryd.sizeOf139
  v228 := Tryd.zeroValue139
  t229 := Tryd.underlying140
  a229 := Tryd.isAgg140
  z229 := Tryd.sizeOf140
  v229 := Tryd.zeroValue140 }
open Go.Sort Go.RowKit in
theorem Tryd.slices_Sort_int (blk off cap : Nat) (zs : List Int) (w : World) (hH : Holds (Value.int .i64) w blk off zs.toArray) (hblk : blk < w.heap.size) (hsz : zs.length < 4611686018427387904) :
    Calls Tryd.prog 65 #[.slice (some ⟨blk, off, none⟩) zs.length cap] w fun e w' =>
      e = .returned (.tuple #[]) ∧ ∃ n os, w' = grow (putRow (Value.int .i64) (Sort.ahead w n) blk off (zs.mergeSort fun x y => decide (x ≤ y)).toArray) os := Any.slices_Sort_int Tryd.lays189 blk off cap zs w hH hblk hsz
def Tryd.lays107_ren : Go.Shelf.Ren := ⟨fun | 107 => 99 | 108 => 120 | n => n, fun | 28 => 23 | 3 => 3 | 4 => 4 | 0 => 0 | n => n, fun | n => n⟩
theorem Tryd.lays107 : Go.Proofs.Lays.n107 Tryd.prog Tryd.lays107_ren := {
  mixed := by kernel_rfl
  f107 := Tryd.func99.trans (congrArg some (by kernel_rfl))
  f108 := Tryd.func120.trans (congrArg some (by kernel_rfl))
  t0 := Tryd.underlying0
  a0 := Tryd.isAgg0
  z0 := Tryd.sizeOf0
  v0 := Tryd.zeroValue0
  t3 := Tryd.underlying3
  a3 := Tryd.isAgg3
  z3 := Tryd.sizeOf3
  v3 := Tryd.zeroValue3
  t4 := Tryd.underlying4
  a4 := Tryd.isAgg4
  z4 := Tryd.sizeOf4
  v4 := Tryd.zeroValue4
  t28 := Tryd.underlying23
  a28 := Tryd.isAgg23
  z28 := Tryd.sizeOf23
  v28 := Tryd.zeroValue23 }
open Go.Lib in
theorem Tryd.slices_Contains_int (b off n c : Nat) (zs : List Int) (x : Int) (w : World) (hz : n ≤ zs.length) (hbig : n ≤ 9223372036854775807) (hc : ∀ j, j < zs.length → w.cell? ⟨b, off + j, none⟩ = some (.int .i64 (zs.getD j 0))) :
    Calls Tryd.prog 99 #[.slice (some ⟨b, off, none⟩) n c, .int .i64 x] w fun e w' => e = .returned (.bool ((zs.take n).contains x)) ∧ w' = w := Any.slices_Contains_int Tryd.lays107 b off n c zs x w hz hbig hc
open Go.Lib in
theorem Tryd.slices_Contains_int_empty (a : Option Addr) (c : Nat) (x : Int) (w : World) :
    Calls Tryd.prog 99 #[.slice a 0 c, .int .i64 x] w fun e w' => e = .returned (.bool false) ∧ w' = w := Any.slices_Contains_int_empty Tryd.lays107 a c x w
open Go.RowKit Go.Sort in
theorem Tryd.slices_Sort_int_none (p : Option Addr) (cap : Nat) (w : World) :
    Calls Tryd.prog 65 #[.slice p 0 cap] w fun e w' => e = .returned (.tuple #[]) ∧ w' = w := Any.slices_Sort_int_none Tryd.lays189 p cap w
end Go.Proofs
