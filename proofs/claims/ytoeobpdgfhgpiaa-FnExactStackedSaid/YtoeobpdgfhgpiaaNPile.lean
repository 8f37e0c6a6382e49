/-
  The struct Pile: what can be read of it, what may be written and in which blocks; the laws' helpers over it.
-/
import Derived.Test.YtoeobpdgfhgpiaaFr
import Derived.Test.YtoeobpdgfhgpiaaSetR
import Derived.Test.YtoeobpdgfhgpiaaSPile
import Derived.Deep.Cut
namespace Go.Proofs.Ytoeobpdgfhgpiaa
open Go.RowKit
set_option linter.unusedVariables false
set_option linter.unusedSimpArgs false

/-- .. and its lists may be written, each in blocks of its own out of S. -/
def WrPile (S : Nat → Prop) (w : World) (v : Value) (D : MPile) : Prop :=
  ∃ (p0 : Option Addr) (c0 : Nat) (S0 : Nat → Prop), v = .agg #[.slice p0 D.cards.length c0, .int .i64 D.hidden] ∧ WrIn .i64 S0 w (.slice p0 D.cards.length c0) D.cards ∧ (∀ b, S0 b → S b) ∧ (Lit.int .i64 D.hidden).wf = true
theorem WrPile.rd {S : Nat → Prop} {w : World} {v : Value} {D : MPile} (h : WrPile S w v D) : RdPile w v D := by
  obtain ⟨p0, c0, S0, e, h0, s0, wf0⟩ := h
  obtain ⟨b0, r0⟩ := h0.rd
  exact ⟨_, b0, e, r0, wf0⟩
theorem WrPile.touch {S U : Nat → Prop} {w w' : World} {v : Value} {D : MPile} (h : WrPile S w v D) (t : Touch U w w') (hd : ∀ b, S b → ¬ U b) : WrPile S w' v D := by
  obtain ⟨p0, c0, S0, e, h0, s0, wf0⟩ := h
  exact ⟨p0, c0, S0, e, h0.touch t (fun b hb => hd b (s0 b hb)), s0, wf0⟩
theorem WrPile.below {S : Nat → Prop} {w w' : World} {v : Value} {D : MPile} (h : WrPile S w v D) (b : Below w.heap.size w w') : WrPile S w' v D := h.touch (Below.touch (S := fun _ => False) b) (fun _ _ hx => hx)
theorem WrPile.mono {S U : Nat → Prop} {w : World} {v : Value} {D : MPile} (h : WrPile S w v D) (hs : ∀ b, S b → U b) : WrPile U w v D := by
  obtain ⟨p0, c0, S0, e, h0, s0, wf0⟩ := h
  exact ⟨p0, c0, S0, e, h0, fun b hb => hs b (s0 b hb), wf0⟩
theorem WrPile.shape {S : Nat → Prop} {w : World} {v : Value} {D : MPile} (h : WrPile S w v D) : ∃ (p0 : Option Addr) (c0 : Nat), v = .agg #[.slice p0 D.cards.length c0, .int .i64 D.hidden] := by
  obtain ⟨p0, c0, S0, e, h0, s0, wf0⟩ := h
  exact ⟨p0, c0, e⟩

set_option maxRecDepth 100000 in
set_option maxHeartbeats 1000000 in
theorem toPile_w (v : Value) (D : MPile) (w : World) (h : RdPile w v D) (hf : D.Few) :
    Calls Try.prog 13 #[v] w fun e w' => ∃ v', e = .returned v' ∧ WrPile (In w.heap.size w'.heap.size) w' v' D ∧ Below w.heap.size w w' := by
  obtain ⟨v0, b0, rfl, h0, wf0⟩ := h
  obtain ⟨p0, c0, e0, -⟩ := id h0
  subst e0
  obtain ⟨f0, -⟩ := hf
  have Q := Lib.hid (threeBoxes w (.cells #[.slice p0 D.cards.length c0, .int .i64 D.hidden] 30) (.cells #[.slice none 0 0, .int .i64 0] 32) (.cells #[.slice none 0 0, .int .i64 0] 32))
  obtain ⟨W0, hW0⟩ : ∃ W0, W0 = (((w.alloc (.cells #[.slice p0 D.cards.length c0, .int .i64 D.hidden] 30)).alloc (.cells #[.slice none 0 0, .int .i64 0] 32)).alloc (.cells #[.slice none 0 0, .int .i64 0] 32)) := ⟨_, rfl⟩
  have B : Below w.heap.size w W0 := by rw [hW0]; exact (((Below.refl _ _).alloc (Nat.le_refl _) _).alloc (by simp) _).alloc (by simp; omega) _
  obtain ⟨bl, hbl⟩ : ∃ b, b = w.heap.size + 1 + 1 := ⟨_, rfl⟩
  obtain ⟨br, hbr⟩ : ∃ b, b = w.heap.size + 1 := ⟨_, rfl⟩
  have hS0 : bl < W0.heap.size := by rw [hW0, hbl]; simp
  rw [← hW0] at Q
  have HW := Lib.hid hW0
  clear hW0
  obtain ⟨G1, G2, G3⟩ := Q.out
  clear Q
  have e3 : w.heap.size + 2 = bl := by omega
  rw [← hbr] at G2
  rw [e3] at G3
  have hd1 : w.heap.size < br := by omega
  have hd2 : br < bl := by omega
  have Hbl := Lib.hid hbl
  have Hbr := Lib.hid hbr
  clear hbl hbr e3
  go_enter Try.func13, Try.ntmps13
  go_wp2_with fail
  rw [← HW.out, ← Hbl.out, ← Hbr.out]
  refine (toIntS_any _ _ _ W0 (h0.below B) (by omega)).mono ?_
  rintro e w0 ⟨u0, rfl, y0, bb, -⟩
  have x0 := WrIn.of (lo := W0.heap.size) y0 (Nat.le_refl _)
  clear y0
  obtain ⟨pu0, cu0, eu⟩ := x0.shape
  subst eu
  have l0 : bl < W0.heap.size := hS0
  have HQ0 : Hid (W0.heap.size ≤ w0.heap.size) := Lib.hid bb.size
  have HB0 : Hid (w.heap.size ≤ W0.heap.size) := Lib.hid B.size
  replace B := B.trans (bb.mono B.size)
  replace G1 := (bb.block _ (by omega)).trans G1
  replace G2 := (bb.block _ (by omega)).trans G2
  replace G3 := (bb.block _ (by omega)).trans G3
  replace hS0 := Nat.lt_of_lt_of_le hS0 bb.size
  clear bb
  have c1_1 := box_cell G1 1
  have c3_0 := box_cell G3 0
  have z3_0 := box_free G3 0
  have c3_1 := box_cell G3 1
  have z3_1 := box_free G3 1
  simp at c1_1 c3_0 c3_1
  have G3f := (box_set (box_set G3 0 (.slice pu0 D.cards.length cu0)) 1 (.int .i64 D.hidden))
  simp only [List.setIfInBounds_toArray, List.set_cons_zero, List.set_cons_succ] at G3f
  have G2a : ((w0.setCell ⟨bl, 0, none⟩ (.slice pu0 D.cards.length cu0)).setCell ⟨bl, 1, none⟩ (.int .i64 D.hidden)).heap[br]? = some (.cells #[.slice none 0 0, .int .i64 0] 32 (0, 0)) := by
    rw [Below.heap_setCell _ _ _ _ (show br ≠ bl by omega), Below.heap_setCell _ _ _ _ (show br ≠ bl by omega)]; exact G2
  obtain ⟨X0, hX0⟩ : ∃ X, X = ((w0.setCell ⟨bl, 0, none⟩ (.slice pu0 D.cards.length cu0)).setCell ⟨bl, 1, none⟩ (.int .i64 D.hidden)) := ⟨_, rfl⟩
  have G3x : X0.heap[bl]? = some (.cells #[.slice pu0 D.cards.length cu0, .int .i64 D.hidden] 32 (0, 0)) := by rw [hX0]; exact G3f
  have G2x : X0.heap[br]? = some (.cells #[.slice none 0 0, .int .i64 0] 32 (0, 0)) := by rw [hX0]; exact G2a
  have HX0 := Lib.hid hX0
  clear G3f G2a hX0
  go_upto_region 4 with fail
  rw [← HX0.out]
  clear c1_1 c3_0 z3_0 c3_1 z3_1
  refine wp_region_lit ?_
  refine wpList_load_row rfl 32 _ rfl bl rfl 32 _ _ _ G3x Try.underlying32 rfl (by kernel_rfl) ?_
  refine wpList_store_row rfl 32 _ _ rfl br #[.slice pu0 D.cards.length cu0, .int .i64 D.hidden] rfl rfl 32 _ G2x (by kernel_rfl) rfl (by simp [Value.oneCell']) ?_
  go_wp2_with fail
  obtain ⟨X, hX⟩ : ∃ X, X = (X0.setRow br #[.slice pu0 D.cards.length cu0, .int .i64 D.hidden]) := ⟨_, rfl⟩
  have N2 := setRow_heap X0 br _ #[.slice pu0 D.cards.length cu0, .int .i64 D.hidden] _ _ G2x
  rw [← hX] at N2
  have K : ∀ i, i ≠ bl → i ≠ br → X.heap[i]? = w0.heap[i]? := fun i hi hr => by rw [hX, HX0.out]; rw [setRow_other _ _ _ _ hr, Below.heap_setCell _ _ _ _ hi, Below.heap_setCell _ _ _ _ hi]
  have Z : X.heap.size = w0.heap.size := by rw [hX, HX0.out]; simp [World.setCell]
  have NB : Below w.heap.size w X := by rw [hX, HX0.out]; exact below_setRow ((B.setCell (show w.heap.size ≤ bl by omega) (.slice pu0 D.cards.length cu0)).setCell (show w.heap.size ≤ bl by omega) (.int .i64 D.hidden)) (by omega) _
  have b0 : Below 0 w0 X := by rw [hX, HX0.out]; exact below_setRow (((Below.refl 0 w0).setCell (Nat.zero_le _) (.slice pu0 D.cards.length cu0)).setCell (Nat.zero_le _) (.int .i64 D.hidden)) (Nat.zero_le _) _
  have tX : Touch (fun k => k = bl ∨ k = br) w0 X := ⟨b0.os, b0.tape, b0.output, b0.size, fun k _ hn => K k (fun e => hn (.inl e)) (fun e => hn (.inr e))⟩
  clear b0
  rw [← hX]
  replace x0 := x0.touch tX (fun b h1 h2 => by have := h1.1; have := l0; omega)
  have q0 := HQ0.out
  have qb0 := HB0.out
  have HWr : WrPile (In w.heap.size X.heap.size) X (.agg #[.slice pu0 D.cards.length cu0, .int .i64 D.hidden]) D := ⟨pu0, cu0, (In W0.heap.size w0.heap.size), rfl, x0, (fun b hb => by obtain ⟨h1, h2⟩ := hb; constructor <;> omega), wf0⟩
  (try simp only [Exit.inBlock, Exit.then]); refine bodyPost_ret (results_cell_row rfl _ _ br _ _ _ _ rfl N2 Try.underlying32 rfl (by kernel_rfl)) rfl ?_
  exact ⟨_, rfl, HWr, NB⟩
def MPile.total (D : MPile) : Nat := D.cards.length
def MPile.marked (D : MPile) (k : Int) : MPile := { D with cards := marksI (k) D.cards.length }
theorem MPile.total_le {D : MPile} (hf : D.Few) : D.total ≤ 1048576 := by
  obtain ⟨f0, -⟩ := hf
  unfold MPile.total
  omega
set_option maxRecDepth 100000 in
set_option maxHeartbeats 1000000 in
theorem markPile_any {S : Nat → Prop} (v : Value) (D : MPile) (k : Int) (w : World) (h : WrPile S w v D) (hf : D.Few) (k0 : 0 ≤ k) (k1 : k ≤ 1099400000000) (hS : ∀ b, S b → b < w.heap.size) :
    Calls Try.prog 18 #[v, .int .i64 k] w fun e w' => e = .returned (.int .i64 (k + (D.total : Nat))) ∧ WrPile S w' v (D.marked k) ∧ Touch S w w' := by
  obtain ⟨p0, c0, S0, rfl, h0, s0, wf0⟩ := h
  obtain ⟨f0, -⟩ := hf
  unfold MPile.total
  obtain ⟨n0, hn0⟩ : ∃ n, n = D.cards.length := ⟨_, rfl⟩
  have Hn0 := Lib.hid hn0
  have nb0 : n0 ≤ 1048576 := by omega
  clear hn0
  obtain ⟨W0, hW0⟩ : ∃ W, W = w.alloc (.cells #[.slice p0 D.cards.length c0, .int .i64 D.hidden] 32) := ⟨_, rfl⟩
  have G1 : W0.heap[w.heap.size]? = some (.cells #[.slice p0 D.cards.length c0, .int .i64 D.hidden] 32 (0, 0)) := by rw [hW0]; exact heap_alloc_new _ _
  have B : Below w.heap.size w W0 := by rw [hW0]; exact (Below.refl _ _).alloc (Nat.le_refl _) _
  have l1 : w.heap.size < W0.heap.size := by rw [hW0]; simp
  have HW := Lib.hid hW0
  clear hW0
  replace h0 := h0.touch (Below.touch (S := fun _ => False) B) (fun _ _ hx => hx)
  have z0 : ∀ b, S0 b → b < w.heap.size := fun b hb => hS b (s0 b hb)
  have TT : Touch S w W0 := Below.touch B
  go_enter Try.func18, Try.ntmps18
  go_wp2_with fail
  rw [← HW.out]
  refine (markIn h0 (k := k) (by omega) (by omega) (by omega)).mono ?_
  rintro e w0 ⟨he, hw0, tt, -⟩
  rw [← Hn0.out] at he
  subst he
  replace G1 := touch_heap tt G1 (fun hb => absurd (z0 _ hb) (Nat.lt_irrefl _))
  replace l1 := Nat.lt_of_lt_of_le l1 tt.size
  replace TT := TT.trans (tt.mono s0)
  clear tt
  go_wp2_with fail
  go_ret
  have hn0 := Hn0.out
  refine ⟨congrArg (fun z => Ending.returned (.int .i64 z)) (show k + (n0 : Int) = k + ((D.cards.length : Nat) : Int) by omega), ?_, TT⟩
  subst hn0
  unfold MPile.marked
  refine ⟨p0, c0, S0, ?_, ?_, s0, wf0⟩
  · simp [marksI_length, marksII_length]
  · have := hw0
    simpa [marksI_length, marksII_length] using this
set_option maxRecDepth 100000 in
set_option maxHeartbeats 1000000 in
theorem heldPile_any (v : Value) (D : MPile) (k : Int) (w : World) (h : RdPile w v (D.marked k)) (hf : D.Few) (k0 : 0 ≤ k) (k1 : k ≤ 1099400000000) :
    Calls Try.prog 20 #[v, .int .i64 k] w fun e w' => e = .returned (.int .i64 (k + (D.total : Nat))) ∧ Below w.heap.size w w' := by
  obtain ⟨v0, b0, rfl, h0, wf0⟩ := h
  obtain ⟨p0, c0, e0, -⟩ := id h0
  subst e0
  obtain ⟨f0, -⟩ := hf
  unfold MPile.total
  unfold MPile.marked at *
  dsimp only at *
  skip
  simp only [marksI_length, marksII_length] at *
  obtain ⟨n0, hn0⟩ : ∃ n, n = D.cards.length := ⟨_, rfl⟩
  have Hn0 := Lib.hid hn0
  have nb0 : n0 ≤ 1048576 := by omega
  clear hn0
  obtain ⟨W0, hW0⟩ : ∃ W, W = w.alloc (.cells #[.slice p0 D.cards.length c0, .int .i64 D.hidden] 32) := ⟨_, rfl⟩
  have G1 : W0.heap[w.heap.size]? = some (.cells #[.slice p0 D.cards.length c0, .int .i64 D.hidden] 32 (0, 0)) := by rw [hW0]; exact heap_alloc_new _ _
  have B : Below w.heap.size w W0 := by rw [hW0]; exact (Below.refl _ _).alloc (Nat.le_refl _) _
  have l1 : w.heap.size < W0.heap.size := by rw [hW0]; simp
  have HW := Lib.hid hW0
  clear hW0
  go_enter Try.func20, Try.ntmps20
  go_wp2_with fail
  rw [← HW.out]
  refine (heldIntS_any _ _ (k) D.cards.length _ (by have hx := h0.below B; exact hx) (by omega) (by omega) (by omega)).mono ?_
  rintro e _w ⟨he, rfl⟩
  rw [← Hn0.out] at he
  subst he
  have nn0 : decide (k + (n0 : Int) < 0) = false := by simp; omega
  go_wp2_with fail
  go_ret
  have hn0 := Hn0.out
  exact ⟨congrArg (fun z => Ending.returned (.int .i64 z)) (show k + (n0 : Int) = k + ((D.cards.length : Nat) : Int) by omega), B⟩

end Go.Proofs.Ytoeobpdgfhgpiaa
