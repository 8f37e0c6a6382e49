/-
  Games and rules copied: what a call owns of a game; l22Copy, l24Copy.
-/
import Derived.Test.YtijdhpkeojkphaaGreatDoorNGame
import Derived.Test.YtijdhpkeojkphaaGreatDoorM12
import Derived.Test.YtijdhpkeojkphaaGreatDoorM9
import Derived.Lib.AppendZerosOnto
import Derived.Deep.RegionHeld3
namespace Go.Proofs.YtijdhpkeojkphaaGreatDoor
open Go.RowKit
set_option linter.unusedVariables false
set_option linter.unusedSimpArgs false

/-- A game of the call's own: its lists may grow. -/
def OwnGame (S : Nat → Prop) (w : World) (v : Value) (D : MGame) : Prop :=
  ∃ (p4 p5 p8 p9 p10 : Option Addr) (c4 c5 c8 c9 c10 : Nat) (S0 S8 S9 S10 : Nat → Prop), v = .agg #[.int .i64 D.rules.players, .int .i64 D.rules.each, .bool D.rules.sameSuit, .bool D.rules.sameRank, .slice p4 D.rules.wild.length c4, .slice p5 D.rules.skip.length c5, .int .i64 D.rules.take, .int .i64 D.rules.limit, .slice p8 D.hands.length c8, .slice p9 D.stock.length c9, .slice p10 D.heap.length c10, .int .i64 D.turn, .int .i64 D.moves, .int .i64 D.passes] ∧ WrRules S0 w (.agg #[.int .i64 D.rules.players, .int .i64 D.rules.each, .bool D.rules.sameSuit, .bool D.rules.sameRank, .slice p4 D.rules.wild.length c4, .slice p5 D.rules.skip.length c5, .int .i64 D.rules.take, .int .i64 D.rules.limit]) D.rules ∧ OwnR S8 w (.slice p8 D.hands.length c8) D.hands ∧ OwnI S9 w (.slice p9 D.stock.length c9) D.stock ∧ OwnI S10 w (.slice p10 D.heap.length c10) D.heap ∧
    (∀ b, S0 b → S b) ∧ (∀ b, S8 b → S b) ∧ (∀ b, S9 b → S b) ∧ (∀ b, S10 b → S b) ∧ (∀ b, S0 b → ¬ S8 b) ∧ (∀ b, S0 b → ¬ S9 b) ∧ (∀ b, S0 b → ¬ S10 b) ∧ (∀ b, S8 b → ¬ S9 b) ∧ (∀ b, S8 b → ¬ S10 b) ∧ (∀ b, S9 b → ¬ S10 b) ∧ (Lit.int .i64 D.turn).wf = true ∧ (Lit.int .i64 D.moves).wf = true ∧ (Lit.int .i64 D.passes).wf = true
theorem OwnGame.wr {S : Nat → Prop} {w : World} {v : Value} {D : MGame} (h : OwnGame S w v D) : WrGame S w v D := by
  obtain ⟨p4, p5, p8, p9, p10, c4, c5, c8, c9, c10, S0, S8, S9, S10, e, h0, h8, h9, h10, r⟩ := h
  exact ⟨p4, p5, p8, p9, p10, c4, c5, c8, c9, c10, S0, S8, S9, S10, e, h0, h8.ss, h9.wr, h10.wr, r⟩
theorem OwnGame.below {S : Nat → Prop} {w w' : World} {v : Value} {D : MGame} (h : OwnGame S w v D) (b : Below w.heap.size w w') : OwnGame S w' v D := by
  obtain ⟨p4, p5, p8, p9, p10, c4, c5, c8, c9, c10, S0, S8, S9, S10, e, h0, h8, h9, h10, r⟩ := h
  exact ⟨p4, p5, p8, p9, p10, c4, c5, c8, c9, c10, S0, S8, S9, S10, e, h0.below b, h8.below b, h9.below b, h10.below b, r⟩
theorem OwnGame.mono {S T : Nat → Prop} {w : World} {v : Value} {D : MGame} (h : OwnGame S w v D) (hs : ∀ b, S b → T b) : OwnGame T w v D := by
  obtain ⟨p4, p5, p8, p9, p10, c4, c5, c8, c9, c10, S0, S8, S9, S10, e, h0, h8, h9, h10, s0, s8, s9, s10, r⟩ := h
  exact ⟨p4, p5, p8, p9, p10, c4, c5, c8, c9, c10, S0, S8, S9, S10, e, h0, h8, h9, h10, fun b hb => hs b (s0 b hb), fun b hb => hs b (s8 b hb), fun b hb => hs b (s9 b hb), fun b hb => hs b (s10 b hb), r⟩
theorem OwnGame.touch {S T : Nat → Prop} {w w' : World} {v : Value} {D : MGame} (h : OwnGame S w v D) (t : Touch T w w') (hd : ∀ b, S b → ¬ T b) : OwnGame S w' v D := by
  obtain ⟨p4, p5, p8, p9, p10, c4, c5, c8, c9, c10, S0, S8, S9, S10, e, h0, h8, h9, h10, s0, s8, s9, s10, r⟩ := h
  exact ⟨p4, p5, p8, p9, p10, c4, c5, c8, c9, c10, S0, S8, S9, S10, e, h0.touch t (fun b hb => hd b (s0 b hb)), h8.touch t (fun b hb => hd b (s8 b hb)), h9.touch t (fun b hb => hd b (s9 b hb)), h10.touch t (fun b hb => hd b (s10 b hb)), s0, s8, s9, s10, r⟩
theorem touch_setRow (w : World) (g : Nat) (cs : Array Value) : Touch (fun k => k = g) w (w.setRow g cs) := by
  have b : Below 0 w (w.setRow g cs) := below_setRow (Below.refl _ _) (Nat.zero_le _) _
  exact ⟨b.os, b.tape, b.output, b.size, fun k _ hn => setRow_other _ _ _ _ hn⟩
theorem touch_setCell (w : World) (g i : Nat) (v : Value) : Touch (fun k => k = g) w (w.setCell ⟨g, i, none⟩ v) := by
  have b : Below 0 w (w.setCell ⟨g, i, none⟩ v) := (Below.refl _ _).setCell (Nat.zero_le _) _
  exact ⟨b.os, b.tape, b.output, b.size, fun k _ hn => Below.heap_setCell _ _ _ _ hn⟩
/-- A game laid into its box. -/
theorem game_laid {lo r l0 u0 l8 u8 l9 u9 l10 u10 d4 d5 d8 d9 d10 : Nat} {w0 wx : World} {q4 q5 q8 q9 q10 : Option Addr} {old : Array Value} {D : MGame} (h0 : WrRules (In l0 u0) wx (.agg #[.int .i64 D.rules.players, .int .i64 D.rules.each, .bool D.rules.sameSuit, .bool D.rules.sameRank, .slice q4 D.rules.wild.length d4, .slice q5 D.rules.skip.length d5, .int .i64 D.rules.take, .int .i64 D.rules.limit]) D.rules) (h8 : OwnR (In l8 u8) wx (.slice q8 D.hands.length d8) D.hands) (h9 : OwnI (In l9 u9) wx (.slice q9 D.stock.length d9) D.stock) (h10 : OwnI (In l10 u10) wx (.slice q10 D.heap.length d10) D.heap)
    (i0 : lo ≤ l0 ∧ u0 ≤ wx.heap.size) (i8 : lo ≤ l8 ∧ u8 ≤ wx.heap.size) (i9 : lo ≤ l9 ∧ u9 ≤ wx.heap.size) (i10 : lo ≤ l10 ∧ u10 ≤ wx.heap.size)
    (d1 : u0 ≤ l8 ∨ u8 ≤ l0) (d2 : u0 ≤ l9 ∨ u9 ≤ l0) (d3 : u0 ≤ l10 ∨ u10 ≤ l0) (d4' : u8 ≤ l9 ∨ u9 ≤ l8) (d5' : u8 ≤ l10 ∨ u10 ≤ l8) (d6 : u9 ≤ l10 ∨ u10 ≤ l9)
    (wf0 : (Lit.int .i64 D.turn).wf = true) (wf1 : (Lit.int .i64 D.moves).wf = true) (wf2 : (Lit.int .i64 D.passes).wf = true) (r0 : r < l0) (r8 : r < l8) (r9 : r < l9) (r10 : r < l10) (hr : lo ≤ r) (g1 : wx.heap[r]? = some (.cells old 32 (0, 0))) (B : Below lo w0 wx) :
    (wx.setRow r #[.int .i64 D.rules.players, .int .i64 D.rules.each, .bool D.rules.sameSuit, .bool D.rules.sameRank, .slice q4 D.rules.wild.length d4, .slice q5 D.rules.skip.length d5, .int .i64 D.rules.take, .int .i64 D.rules.limit, .slice q8 D.hands.length d8, .slice q9 D.stock.length d9, .slice q10 D.heap.length d10, .int .i64 D.turn, .int .i64 D.moves, .int .i64 D.passes]).heap[r]? = some (.cells #[.int .i64 D.rules.players, .int .i64 D.rules.each, .bool D.rules.sameSuit, .bool D.rules.sameRank, .slice q4 D.rules.wild.length d4, .slice q5 D.rules.skip.length d5, .int .i64 D.rules.take, .int .i64 D.rules.limit, .slice q8 D.hands.length d8, .slice q9 D.stock.length d9, .slice q10 D.heap.length d10, .int .i64 D.turn, .int .i64 D.moves, .int .i64 D.passes] 32 (0, 0)) ∧ OwnGame (In lo (wx.setRow r #[.int .i64 D.rules.players, .int .i64 D.rules.each, .bool D.rules.sameSuit, .bool D.rules.sameRank, .slice q4 D.rules.wild.length d4, .slice q5 D.rules.skip.length d5, .int .i64 D.rules.take, .int .i64 D.rules.limit, .slice q8 D.hands.length d8, .slice q9 D.stock.length d9, .slice q10 D.heap.length d10, .int .i64 D.turn, .int .i64 D.moves, .int .i64 D.passes]).heap.size) (wx.setRow r #[.int .i64 D.rules.players, .int .i64 D.rules.each, .bool D.rules.sameSuit, .bool D.rules.sameRank, .slice q4 D.rules.wild.length d4, .slice q5 D.rules.skip.length d5, .int .i64 D.rules.take, .int .i64 D.rules.limit, .slice q8 D.hands.length d8, .slice q9 D.stock.length d9, .slice q10 D.heap.length d10, .int .i64 D.turn, .int .i64 D.moves, .int .i64 D.passes]) (.agg #[.int .i64 D.rules.players, .int .i64 D.rules.each, .bool D.rules.sameSuit, .bool D.rules.sameRank, .slice q4 D.rules.wild.length d4, .slice q5 D.rules.skip.length d5, .int .i64 D.rules.take, .int .i64 D.rules.limit, .slice q8 D.hands.length d8, .slice q9 D.stock.length d9, .slice q10 D.heap.length d10, .int .i64 D.turn, .int .i64 D.moves, .int .i64 D.passes]) D ∧ Below lo w0 (wx.setRow r #[.int .i64 D.rules.players, .int .i64 D.rules.each, .bool D.rules.sameSuit, .bool D.rules.sameRank, .slice q4 D.rules.wild.length d4, .slice q5 D.rules.skip.length d5, .int .i64 D.rules.take, .int .i64 D.rules.limit, .slice q8 D.hands.length d8, .slice q9 D.stock.length d9, .slice q10 D.heap.length d10, .int .i64 D.turn, .int .i64 D.moves, .int .i64 D.passes]) := by
  have tR := touch_setRow wx r #[.int .i64 D.rules.players, .int .i64 D.rules.each, .bool D.rules.sameSuit, .bool D.rules.sameRank, .slice q4 D.rules.wild.length d4, .slice q5 D.rules.skip.length d5, .int .i64 D.rules.take, .int .i64 D.rules.limit, .slice q8 D.hands.length d8, .slice q9 D.stock.length d9, .slice q10 D.heap.length d10, .int .i64 D.turn, .int .i64 D.moves, .int .i64 D.passes]
  have hs : (wx.setRow r #[.int .i64 D.rules.players, .int .i64 D.rules.each, .bool D.rules.sameSuit, .bool D.rules.sameRank, .slice q4 D.rules.wild.length d4, .slice q5 D.rules.skip.length d5, .int .i64 D.rules.take, .int .i64 D.rules.limit, .slice q8 D.hands.length d8, .slice q9 D.stock.length d9, .slice q10 D.heap.length d10, .int .i64 D.turn, .int .i64 D.moves, .int .i64 D.passes]).heap.size = wx.heap.size := by simp [World.setRow]
  refine ⟨setRow_heap _ _ _ _ _ _ g1, ⟨q4, q5, q8, q9, q10, d4, d5, d8, d9, d10, In l0 u0, In l8 u8, In l9 u9, In l10 u10, rfl, h0.touch tR (fun b hb e => by have := hb.1; omega), h8.touch tR (fun b hb e => by have := hb.1; omega), h9.touch tR (fun b hb e => by have := hb.1; omega), h10.touch tR (fun b hb e => by have := hb.1; omega), ?_, ?_, ?_, ?_, ?_, ?_, ?_, ?_, ?_, ?_, wf0, wf1, wf2⟩, below_setRow B hr _⟩
  · intro b hb; obtain ⟨h1, h2⟩ := hb; exact ⟨by omega, by omega⟩
  · intro b hb; obtain ⟨h1, h2⟩ := hb; exact ⟨by omega, by omega⟩
  · intro b hb; obtain ⟨h1, h2⟩ := hb; exact ⟨by omega, by omega⟩
  · intro b hb; obtain ⟨h1, h2⟩ := hb; exact ⟨by omega, by omega⟩
  all_goals (intro b hb hc; obtain ⟨h1, h2⟩ := hb; obtain ⟨h3, h4⟩ := hc; omega)
set_option maxRecDepth 100000 in
set_option maxHeartbeats 1000000 in
theorem sl15Copy_own (v : Value) (zss : List (List Int)) (w : World) (h : RdRows .i64 w v zss) (hl : zss.length ≤ 1048576) (hl2 : sumLen zss ≤ 1048576) :
    Calls Tryz.prog 69 #[v] w fun e w' => ∃ v', e = .returned v' ∧ OwnR (In w.heap.size w'.heap.size) w' v' zss ∧ Below w.heap.size w w' := by
  have hrow := fun wx (hb : Below w.heap.size w wx) j (hj : j < zss.length) => (h.below hb).row hj
  obtain ⟨a, cap, rfl, -, -⟩ := id h
  obtain ⟨n, hn⟩ : ∃ n, n = zss.length := ⟨_, rfl⟩
  have Hn := Lib.hid hn
  have Hrow := Lib.hid hrow
  have Hsum : Hid (∀ j (hj : j < zss.length), zss[j].length ≤ 1048576) := Lib.hid (fun j hj => Nat.le_trans (len_le_sum zss hj) hl2)
  have h0 := OwnR.empty w
  have B0 : Below w.heap.size w (w.alloc (.cells #[] 22)) := (Below.refl _ _).alloc (Nat.le_refl _) _
  rw [← hn] at hl ⊢
  clear hn hrow h hl2
  go_enter Tryz.func69, Tryz.ntmps69
  go_wp2_with fail
  go_loopw [3, 4] (fun o i wr => ∃ k : Nat, k ≤ n ∧ i = .int .i64 k ∧ Below w.heap.size w wr ∧ Hid (OwnR (In w.heap.size wr.heap.size) wr o (zss.take k))) (fun _ i _ => n - (intOf i).toNat)
  case atStart => exact ⟨0, Nat.zero_le _, rfl, B0, Lib.hid h0⟩
  case round =>
    clear h0 B0
    obtain ⟨k, hk, rfl, B, ho⟩ := hrel
    by_cases hlt : k < n
    · have hz : k < zss.length := by rw [← Hn.out]; exact hlt
      obtain ⟨blk, off, cap', p, c, b, hv, hc, hr, -⟩ := Hrow.out wr B k hz
      have ha := (Value.slice.inj hv).1
      clear hv
      subst ha
      have hsm := Hsum.out k hz
      have hA : Below wr.heap.size wr (wr.alloc (.cells #[] 3)) := (Below.refl _ _).alloc (Nat.le_refl _) _
      have hcA : (wr.alloc (.cells #[] 3)).cell? ⟨blk, off + k, none⟩ = some (.slice p (zss[k]'hz).length c) := (hA.cell (p := ⟨blk, off + k, none⟩) (World.block_lt_of_cell? _ _ hc)).trans hc
      obtain ⟨p0, c0, e0⟩ := ho.out.shape
      subst e0
      obtain ⟨r, w2, hrun2, ho2, B2⟩ := append_copy (g := wr.heap.size) (hr.below hA) hsm 22
      have B2' : Below wr.heap.size wr w2 := hA.trans (B2.mono hA.size)
      obtain ⟨v3, w3, hrun3, ho3, hg3⟩ := ho.out.snoc B2' (ho2.mono (fun b hb _ => by have := hb.1; have := hA.size; omega)) (by rw [List.length_take]; omega) 25 Tryz.underlying25 25
      have B3 : Below w.heap.size w w3 := ((B.trans (B2'.mono B.size)).alloc (Nat.le_trans B.size B2'.size) _).grown hg3 (by have := B.size; have := B2'.size; simp; omega) (fun q hq => by
        obtain ⟨xs, h1, h2, -⟩ := ho.out
        exact (h2 q hq).1)
      have hw3 : Hid (OwnR (In w.heap.size w3.heap.size) w3 v3 (zss.take (k + 1))) := Lib.hid (by
        rw [List.take_succ_eq_append_getElem hz]
        exact ho3.mono (fun b hb hl => by have := B.size; rcases hb with ⟨h1, h2⟩ | ⟨h1, h2⟩ <;> exact ⟨by omega, hl⟩))
      obtain ⟨p3, c3, e3⟩ := ho3.shape
      obtain ⟨p2, c2, e2⟩ := ho2.shape
      have Q2 := Lib.hid hrun2
      have Q3 := Lib.hid hrun3
      have HB3 := Lib.hid B3
      subst e3 e2
      clear hr hrun2 hrun3 ho3 ho2 ho B2 B2' B3 hg3 hA
      generalize (zss[k]'hz).length = m at *
      have hlt2 : (zss.take k).length = k := by rw [List.length_take]; omega
      have hlt3 : (zss.take k ++ [zss[k]'hz]).length = k + 1 := by rw [List.length_append, hlt2]; rfl
      rw [hlt2] at Q3
      rw [hlt3] at Q3 hw3
      rw [hlt2]
      clear hlt2 hlt3
      go_wp2_with (at_builtin; first | refine Lib.wpList_append_run _ rfl _ _ _ _ rfl _ _ rfl rfl _ _ Q2.out ?_ | refine Lib.wpList_append_run _ rfl _ _ _ _ rfl _ _ rfl rfl _ _ Q3.out ?_)
      go_roundw
      case rel => exact ⟨k + 1, by omega, by go_num, HB3.out, hw3⟩
      case measure => simp [intOf]; omega
    · obtain rfl : k = n := by omega
      have hfin : Hid (∀ S v, OwnR S wr v (zss.take k) → OwnR S wr v zss) := Lib.hid (fun S v hv => by rwa [List.take_of_length_le (by rw [Hn.out]; exact Nat.le_refl _)] at hv)
      have ho2 := Lib.hid (hfin.out _ _ ho.out)
      clear ho hfin
      go_wp2_with fail
      go_ret
      exact ⟨_, rfl, ho2.out, B⟩
set_option maxRecDepth 100000 in
set_option maxHeartbeats 1000000 in
theorem sl22Copy_any (v : Value) (D : MRules) (w : World) (h : RdRules w v D) (hf : D.Few) :
    Calls Tryz.prog 68 #[v] w fun e w' => ∃ v', e = .returned v' ∧ WrRules (In w.heap.size w'.heap.size) w' v' D ∧ Below w.heap.size w w' := by
  obtain ⟨v4, v5, b4, b5, rfl, h4, h5, wf0, wf1, wf2, wf3⟩ := h
  obtain ⟨p4, c4, e4, -⟩ := id h4
  subst e4
  obtain ⟨p5, c5, e5, -⟩ := id h5
  subst e5
  obtain ⟨f4, f5⟩ := hf
  obtain ⟨W0, hW0⟩ : ∃ W, W = (w.alloc (.cells #[.int .i64 D.players, .int .i64 D.each, .bool D.sameSuit, .bool D.sameRank, .slice p4 D.wild.length c4, .slice p5 D.skip.length c5, .int .i64 D.take, .int .i64 D.limit] 30)).alloc (.cells #[.int .i64 0, .int .i64 0, .bool false, .bool false, .slice none 0 0, .slice none 0 0, .int .i64 0, .int .i64 0] 30) := ⟨_, rfl⟩
  have G0 : W0.heap[w.heap.size]? = some (.cells #[.int .i64 D.players, .int .i64 D.each, .bool D.sameSuit, .bool D.sameRank, .slice p4 D.wild.length c4, .slice p5 D.skip.length c5, .int .i64 D.take, .int .i64 D.limit] 30 (0, 0)) := by rw [hW0]; exact heap_alloc2_old _ _ _
  have G1 : W0.heap[w.heap.size + 1]? = some (.cells #[.int .i64 0, .int .i64 0, .bool false, .bool false, .slice none 0 0, .slice none 0 0, .int .i64 0, .int .i64 0] 30 (0, 0)) := by rw [hW0]; exact heap_alloc2_new _ _ _
  have hsz : W0.heap.size = w.heap.size + 2 := by rw [hW0]; simp
  have B0 : Below w.heap.size w W0 := by rw [hW0]; exact ((Below.refl _ _).alloc (Nat.le_refl _) _).alloc (by simp) _
  have lit : ∀ wx : World, Below wx.heap.size wx (wx.alloc (.cells #[] 3)) := fun wx => (Below.refl _ _).alloc (Nat.le_refl _) _
  -- the first list
  obtain ⟨u4, w1, run1, own1, B1⟩ := append_copy (g := W0.heap.size) (h4.below (B0.trans ((lit W0).mono B0.size))) (by omega) 22
  have B1' : Below W0.heap.size W0 w1 := (lit W0).trans (B1.mono (lit W0).size)
  obtain ⟨q4, d4, e4⟩ := own1.shape
  subst e4
  have g10 := (B1'.block _ (show w.heap.size < W0.heap.size by omega)).trans G0
  obtain ⟨X1, hX1⟩ : ∃ X, X = w1.setCell ⟨w.heap.size, 4, none⟩ (.slice q4 D.wild.length d4) := ⟨_, rfl⟩
  have gx1 : X1.heap[w.heap.size]? = some (.cells #[.int .i64 D.players, .int .i64 D.each, .bool D.sameSuit, .bool D.sameRank, .slice q4 D.wild.length d4, .slice p5 D.skip.length c5, .int .i64 D.take, .int .i64 D.limit] 30 (0, 0)) := by rw [hX1]; exact box_set g10 4 _
  have hs1 : W0.heap.size ≤ w1.heap.size := B1'.size
  have hsX : X1.heap.size = w1.heap.size := by rw [hX1]; simp [World.setCell]
  have BX1 : Below w.heap.size w X1 := by rw [hX1]; exact (B0.trans (B1'.mono B0.size)).setCell (Nat.le_refl _) _
  have o1 := own1.touch (touch_setCell w1 w.heap.size 4 (.slice q4 D.wild.length d4)) (fun b hb e => by have := hb.1; have := (lit W0).size; omega)
  rw [← hX1] at o1
  have gx1r : X1.heap[w.heap.size + 1]? = some (.cells #[.int .i64 0, .int .i64 0, .bool false, .bool false, .slice none 0 0, .slice none 0 0, .int .i64 0, .int .i64 0] 30 (0, 0)) := by rw [hX1, Below.heap_setCell _ _ _ _ (show w.heap.size + 1 ≠ w.heap.size by omega)]; exact (B1'.block _ (show w.heap.size + 1 < W0.heap.size by omega)).trans G1
  -- the second
  obtain ⟨u5, w2, run2, own2, B2⟩ := append_copy (g := X1.heap.size) (h5.below (BX1.trans ((lit X1).mono BX1.size))) (by omega) 22
  have B2' : Below X1.heap.size X1 w2 := (lit X1).trans (B2.mono (lit X1).size)
  obtain ⟨q5, d5, e5⟩ := own2.shape
  subst e5
  have g20 := (B2'.block _ (show w.heap.size < X1.heap.size by omega)).trans gx1
  have g20r := (B2'.block _ (show w.heap.size + 1 < X1.heap.size by omega)).trans gx1r
  obtain ⟨X2, hX2⟩ : ∃ X, X = w2.setCell ⟨w.heap.size, 5, none⟩ (.slice q5 D.skip.length d5) := ⟨_, rfl⟩
  have gx2 : X2.heap[w.heap.size]? = some (.cells #[.int .i64 D.players, .int .i64 D.each, .bool D.sameSuit, .bool D.sameRank, .slice q4 D.wild.length d4, .slice q5 D.skip.length d5, .int .i64 D.take, .int .i64 D.limit] 30 (0, 0)) := by rw [hX2]; exact box_set g20 5 _
  have gx2r : X2.heap[w.heap.size + 1]? = some (.cells #[.int .i64 0, .int .i64 0, .bool false, .bool false, .slice none 0 0, .slice none 0 0, .int .i64 0, .int .i64 0] 30 (0, 0)) := by rw [hX2, Below.heap_setCell _ _ _ _ (show w.heap.size + 1 ≠ w.heap.size by omega)]; exact g20r
  have hs2 : X1.heap.size ≤ w2.heap.size := B2'.size
  have o2 := own2.touch (touch_setCell w2 w.heap.size 5 (.slice q5 D.skip.length d5)) (fun b hb e => by have := hb.1; have := (lit X1).size; omega)
  have o1b := (o1.below B2').touch (touch_setCell w2 w.heap.size 5 (.slice q5 D.skip.length d5)) (fun b hb e => by have := hb.1; have := (lit W0).size; omega)
  rw [← hX2] at o2 o1b
  have BX2 : Below w.heap.size w X2 := by rw [hX2]; exact (BX1.trans (B2'.mono BX1.size)).setCell (Nat.le_refl _) _
  have hsX2 : X2.heap.size = w2.heap.size := by rw [hX2]; simp [World.setCell]
  have N2 := setRow_heap X2 (w.heap.size + 1) _ #[.int .i64 D.players, .int .i64 D.each, .bool D.sameSuit, .bool D.sameRank, .slice q4 D.wild.length d4, .slice q5 D.skip.length d5, .int .i64 D.take, .int .i64 D.limit] _ _ gx2r
  have HN : Hid (WrRules (In w.heap.size (X2.setRow (w.heap.size + 1) #[.int .i64 D.players, .int .i64 D.each, .bool D.sameSuit, .bool D.sameRank, .slice q4 D.wild.length d4, .slice q5 D.skip.length d5, .int .i64 D.take, .int .i64 D.limit]).heap.size) (X2.setRow (w.heap.size + 1) #[.int .i64 D.players, .int .i64 D.each, .bool D.sameSuit, .bool D.sameRank, .slice q4 D.wild.length d4, .slice q5 D.skip.length d5, .int .i64 D.take, .int .i64 D.limit]) (.agg #[.int .i64 D.players, .int .i64 D.each, .bool D.sameSuit, .bool D.sameRank, .slice q4 D.wild.length d4, .slice q5 D.skip.length d5, .int .i64 D.take, .int .i64 D.limit]) D ∧ Below w.heap.size w (X2.setRow (w.heap.size + 1) #[.int .i64 D.players, .int .i64 D.each, .bool D.sameSuit, .bool D.sameRank, .slice q4 D.wild.length d4, .slice q5 D.skip.length d5, .int .i64 D.take, .int .i64 D.limit])) := Lib.hid (by
    have tR := touch_setRow X2 (w.heap.size + 1) #[.int .i64 D.players, .int .i64 D.each, .bool D.sameSuit, .bool D.sameRank, .slice q4 D.wild.length d4, .slice q5 D.skip.length d5, .int .i64 D.take, .int .i64 D.limit]
    have l0 := (lit W0).size
    have l1 := (lit X1).size
    have l2 := B1.size
    have l3 := B2.size
    refine ⟨⟨q4, q5, d4, d5, _, _, rfl, (o1b.touch tR (fun b hb e => by have := hb.1; omega)).wr, (o2.touch tR (fun b hb e => by have := hb.1; omega)).wr, fun b hb => ⟨by have := hb.1; omega, ?_⟩, fun b hb => ⟨by have := hb.1; omega, ?_⟩, fun b h1 h2 => by have := h1.2; have := h2.1; omega, wf0, wf1, wf2, wf3⟩, below_setRow BX2 (by omega) _⟩
    · have := hb.2; simp [World.setRow]; omega
    · have := hb.2; simp [World.setRow]; omega)
  have HW := Lib.hid hW0
  have H1 := Lib.hid (And.intro hX1 run1)
  have H2 := Lib.hid (And.intro hX2 run2)
  have HS := Lib.hid hsz
  have hbA : (W0.alloc (.cells #[] 3)).heap[w.heap.size]? = some (.cells #[.int .i64 D.players, .int .i64 D.each, .bool D.sameSuit, .bool D.sameRank, .slice p4 D.wild.length c4, .slice p5 D.skip.length c5, .int .i64 D.take, .int .i64 D.limit] 30 (0, 0)) := ((lit W0).block _ (show w.heap.size < W0.heap.size by omega)).trans G0
  have hbB : (X1.alloc (.cells #[] 3)).heap[w.heap.size]? = some (.cells #[.int .i64 D.players, .int .i64 D.each, .bool D.sameSuit, .bool D.sameRank, .slice q4 D.wild.length d4, .slice p5 D.skip.length c5, .int .i64 D.take, .int .i64 D.limit] 30 (0, 0)) := ((lit X1).block _ (show w.heap.size < X1.heap.size by omega)).trans gx1
  have kA := box_cell hbA 4
  have kB := box_cell hbB 5
  have z1 := box_cell g10 4
  have z2 := box_cell g20 5
  have y1 := box_free g10 4
  have y2 := box_free g20 5
  simp at kA kB z1 z2
  have HK := Lib.hid (And.intro gx2 (And.intro gx2r N2))
  clear hW0 G0 G1 hsz B0 lit own1 B1 B1' g10 hX1 gx1 hs1 hsX BX1 o1 gx1r own2 B2 B2' g20 g20r hX2 gx2 gx2r hs2 o2 o1b BX2 hsX2 N2 h4 h5 wf0 wf1 wf2 wf3 f4 f5 hbA hbB run1 run2
  go_enter Tryz.func68, Tryz.ntmps68
  go_upto_region 1 with fail
  rw [← HW.out]
  go_upto_region 2 with (at_builtin; refine Lib.wpList_append_run _ rfl _ _ _ _ rfl _ _ rfl rfl _ _ H1.out.2 ?_)
  rw [← H1.out.1]
  go_upto_region 3 with (at_builtin; refine Lib.wpList_append_run _ rfl _ _ _ _ rfl _ _ rfl rfl _ _ H2.out.2 ?_)
  rw [← H2.out.1]
  obtain ⟨gx2, gx2r, N2⟩ := HK.out
  clear kA kB z1 z2 y1 y2
  refine wp_region_lit ?_
  refine wpList_load_row rfl 30 _ rfl w.heap.size rfl 30 _ _ _ gx2 Tryz.underlying30 rfl (by kernel_rfl) ?_
  refine wpList_store_row rfl 30 _ _ rfl (w.heap.size + 1) #[.int .i64 D.players, .int .i64 D.each, .bool D.sameSuit, .bool D.sameRank, .slice q4 D.wild.length d4, .slice q5 D.skip.length d5, .int .i64 D.take, .int .i64 D.limit] rfl rfl 30 _ gx2r (by kernel_rfl) rfl (by simp [Value.oneCell']) ?_
  go_wp2_with fail
  (try simp only [Exit.inBlock, Exit.then]); refine bodyPost_ret (results_cell_row rfl _ _ (w.heap.size + 1) _ _ _ _ rfl N2 Tryz.underlying30 rfl (by kernel_rfl)) rfl ?_
  exact ⟨_, rfl, HN.out.1, HN.out.2⟩
set_option maxRecDepth 100000 in
set_option maxHeartbeats 2000000 in
theorem sl24Copy_any (v : Value) (D : MGame) (w : World) (h : RdGame w v D) (hf : D.Few) :
    Calls Tryz.prog 42 #[v] w fun e w' => ∃ v', e = .returned v' ∧ OwnGame (In w.heap.size w'.heap.size) w' v' D ∧ Below w.heap.size w w' := by
  obtain ⟨p4, p5, p8, p9, p10, c4, c5, c8, c9, c10, b9, b10, rfl, h0, h8, h9, h10, wf0, wf1, wf2⟩ := h
  obtain ⟨f0, f8, fs8, f9, f10⟩ := hf
  obtain ⟨W0, hW0⟩ : ∃ W, W = (w.alloc (.cells #[.int .i64 D.rules.players, .int .i64 D.rules.each, .bool D.rules.sameSuit, .bool D.rules.sameRank, .slice p4 D.rules.wild.length c4, .slice p5 D.rules.skip.length c5, .int .i64 D.rules.take, .int .i64 D.rules.limit, .slice p8 D.hands.length c8, .slice p9 D.stock.length c9, .slice p10 D.heap.length c10, .int .i64 D.turn, .int .i64 D.moves, .int .i64 D.passes] 32)).alloc (.cells #[.int .i64 0, .int .i64 0, .bool false, .bool false, .slice none 0 0, .slice none 0 0, .int .i64 0, .int .i64 0, .slice none 0 0, .slice none 0 0, .slice none 0 0, .int .i64 0, .int .i64 0, .int .i64 0] 32) := ⟨_, rfl⟩
  have G0 : W0.heap[w.heap.size]? = some (.cells #[.int .i64 D.rules.players, .int .i64 D.rules.each, .bool D.rules.sameSuit, .bool D.rules.sameRank, .slice p4 D.rules.wild.length c4, .slice p5 D.rules.skip.length c5, .int .i64 D.rules.take, .int .i64 D.rules.limit, .slice p8 D.hands.length c8, .slice p9 D.stock.length c9, .slice p10 D.heap.length c10, .int .i64 D.turn, .int .i64 D.moves, .int .i64 D.passes] 32 (0, 0)) := by rw [hW0]; exact heap_alloc2_old _ _ _
  have G1 : W0.heap[w.heap.size + 1]? = some (.cells #[.int .i64 0, .int .i64 0, .bool false, .bool false, .slice none 0 0, .slice none 0 0, .int .i64 0, .int .i64 0, .slice none 0 0, .slice none 0 0, .slice none 0 0, .int .i64 0, .int .i64 0, .int .i64 0] 32 (0, 0)) := by rw [hW0]; exact heap_alloc2_new _ _ _
  have hsz : W0.heap.size = w.heap.size + 2 := by rw [hW0]; simp
  have B0 : Below w.heap.size w W0 := by rw [hW0]; exact ((Below.refl _ _).alloc (Nat.le_refl _) _).alloc (by simp) _
  have Bx : ∀ wx, Below W0.heap.size W0 wx → Below w.heap.size w wx := fun wx hb => B0.trans (hb.mono B0.size)
  have H0 := Lib.hid (fun wx (hb : Below W0.heap.size W0 wx) => sl22Copy_any _ D.rules wx (h0.below (Bx wx hb)) f0)
  have H8 := Lib.hid (fun wx (hb : Below W0.heap.size W0 wx) => sl15Copy_own _ D.hands wx (h8.below (Bx wx hb)) f8 fs8)
  have H9 := Lib.hid (fun wx (hb : Below W0.heap.size W0 wx) => And.intro (h9.below (Bx wx hb)) f9)
  have H10 := Lib.hid (fun wx (hb : Below W0.heap.size W0 wx) => And.intro (h10.below (Bx wx hb)) f10)
  have HC := Lib.hid (fun wx (hb : Below W0.heap.size W0 wx) => SGame_cells ((hb.block _ (show w.heap.size < W0.heap.size by omega)).trans G0))
  have HR := Lib.hid (fun wx (hb : Below W0.heap.size W0 wx) => (hb.block _ (show w.heap.size + 1 < W0.heap.size by omega)).trans G1)
  have HW := Lib.hid hW0
  have HS := Lib.hid (And.intro hsz (And.intro Bx (And.intro wf0 (And.intro wf1 wf2))))
  clear hW0 G0 G1 hsz B0 Bx h0 h8 h9 h10 f0 f8 fs8 f9 f10 wf0 wf1 wf2
  go_enter Tryz.func42, Tryz.ntmps42
  go_upto_region 1 with fail
  rw [← HW.out]
  refine wp_region_table [(0, some 3, .is (.pointer (some ⟨w.heap.size, 0, none⟩))), (1, some 4, .is (.agg #[.int .i64 D.rules.players, .int .i64 D.rules.each, .bool D.rules.sameSuit, .bool D.rules.sameRank, .slice p4 D.rules.wild.length c4, .slice p5 D.rules.skip.length c5, .int .i64 D.rules.take, .int .i64 D.rules.limit])), (2, some 5, .own (fun S w v => WrRules S w v D.rules) (fun _ _ _ _ h b => WrRules.below h b)), (3, some 6, .is (.pointer (some ⟨w.heap.size, 8, none⟩))), (4, some 7, .is (.slice p8 D.hands.length c8)), (5, some 8, .rows D.hands), (6, some 9, .zero), (7, some 10, .is (.pointer (some ⟨w.heap.size, 9, none⟩))), (8, some 11, .is (.slice p9 D.stock.length c9)), (9, some 12, .ints D.stock), (10, some 13, .zero), (11, some 14, .is (.pointer (some ⟨w.heap.size, 10, none⟩))), (12, some 15, .is (.slice p10 D.heap.length c10)), (13, some 16, .ints D.heap), (14, some 17, .is (.pointer (some ⟨w.heap.size, 11, none⟩))), (15, some 18, .is (.int .i64 D.turn)), (16, some 19, .is (.pointer (some ⟨w.heap.size, 12, none⟩))), (17, some 20, .is (.int .i64 D.moves)), (18, some 21, .is (.pointer (some ⟨w.heap.size, 13, none⟩))), (19, some 22, .is (.int .i64 D.passes))] 2 (by kernel_rfl) (by kernel_rfl) (by kernel_rfl) (by kernel_rfl) (by kernel_rfl) (L := #[true, true, true, true, true, true, true, true, true, true, true, true, true, true, true, true, true, true, true, true, false, false]) (by kernel_rfl) ?steps ?fin
  case steps =>
    refine StepsT.cons [] (by simp only [List.getElem?_toArray, List.getElem?_cons_succ, List.getElem?_cons_zero]; rfl) (by kernel_rfl) (by rfl) (fun wx val iv hB hV K hK => ?_) ?_
    · clear hV; simp only [putT, List.foldl_cons, List.foldl_nil, Made.val, Act.put, List.setIfInBounds_toArray, List.set_cons_zero, List.set_cons_succ]; go_simp; exact hK.out _ _ rfl (Below.refl _ _)
    refine StepsT.cons [(0, some 3, .is (.pointer (some ⟨w.heap.size, 0, none⟩)))] (by simp only [List.getElem?_toArray, List.getElem?_cons_succ, List.getElem?_cons_zero]; rfl) (by kernel_rfl) (by rfl) (fun wx val iv hB hV K hK => ?_) ?_
    · (obtain ⟨k0, k1, k2, k3, k4, k5, k6, k7, k8, k9, k10, k11, k12, k13⟩ := HC.out wx hB); clear hV; simp only [putT, List.foldl_cons, List.foldl_nil, Made.val, Act.put, List.setIfInBounds_toArray, List.set_cons_zero, List.set_cons_succ]; go_simp; exact hK.out _ _ rfl (Below.refl _ _)
    refine StepsT.cons [(1, some 4, .is (.agg #[.int .i64 D.rules.players, .int .i64 D.rules.each, .bool D.rules.sameSuit, .bool D.rules.sameRank, .slice p4 D.rules.wild.length c4, .slice p5 D.rules.skip.length c5, .int .i64 D.rules.take, .int .i64 D.rules.limit]))] (by simp only [List.getElem?_toArray, List.getElem?_cons_succ, List.getElem?_cons_zero]; rfl) (by kernel_rfl) (by rfl) (fun wx val iv hB hV K hK => ?_) ?_
    · (clear hV; simp only [putT, List.foldl_cons, List.foldl_nil, Made.val, Act.put, List.setIfInBounds_toArray, List.set_cons_zero, List.set_cons_succ]; go_simp; go_at_call 68; refine (H0.out wx hB).mono ?_; rintro e wa ⟨va, rfl, hwa, Ba⟩; exact hK.out _ _ hwa Ba)
    refine StepsT.cons [] (by simp only [List.getElem?_toArray, List.getElem?_cons_succ, List.getElem?_cons_zero]; rfl) (by kernel_rfl) (by rfl) (fun wx val iv hB hV K hK => ?_) ?_
    · clear hV; simp only [putT, List.foldl_cons, List.foldl_nil, Made.val, Act.put, List.setIfInBounds_toArray, List.set_cons_zero, List.set_cons_succ]; go_simp; exact hK.out _ _ rfl (Below.refl _ _)
    refine StepsT.cons [(3, some 6, .is (.pointer (some ⟨w.heap.size, 8, none⟩)))] (by simp only [List.getElem?_toArray, List.getElem?_cons_succ, List.getElem?_cons_zero]; rfl) (by kernel_rfl) (by rfl) (fun wx val iv hB hV K hK => ?_) ?_
    · (obtain ⟨k0, k1, k2, k3, k4, k5, k6, k7, k8, k9, k10, k11, k12, k13⟩ := HC.out wx hB); clear hV; simp only [putT, List.foldl_cons, List.foldl_nil, Made.val, Act.put, List.setIfInBounds_toArray, List.set_cons_zero, List.set_cons_succ]; go_simp; exact hK.out _ _ rfl (Below.refl _ _)
    refine StepsT.cons [(2, some 5, .own (fun S w v => WrRules S w v D.rules) (fun _ _ _ _ h b => WrRules.below h b)), (4, some 7, .is (.slice p8 D.hands.length c8))] (by simp only [List.getElem?_toArray, List.getElem?_cons_succ, List.getElem?_cons_zero]; rfl) (by kernel_rfl) (by rfl) (fun wx val iv hB hV K hK => ?_) ?_
    · (clear hV; simp only [putT, List.foldl_cons, List.foldl_nil, Made.val, Act.put, List.setIfInBounds_toArray, List.set_cons_zero, List.set_cons_succ]; go_simp; go_at_call 69; refine (H8.out wx hB).mono ?_; rintro e wa ⟨va, rfl, hwa, Ba⟩; exact hK.out _ _ hwa Ba)
    refine StepsT.cons [] (by simp only [List.getElem?_toArray, List.getElem?_cons_succ, List.getElem?_cons_zero]; rfl) (by kernel_rfl) (by rfl) (fun wx val iv hB hV K hK => ?_) ?_
    · simp only [putT, List.foldl_cons, List.foldl_nil, Made.val, Act.put, List.setIfInBounds_toArray, List.set_cons_zero, List.set_cons_succ]; go_simp; exact hK.out _ _ ⟨_, rfl⟩ ((Below.refl _ _).alloc (Nat.le_refl _) _)
    refine StepsT.cons [] (by simp only [List.getElem?_toArray, List.getElem?_cons_succ, List.getElem?_cons_zero]; rfl) (by kernel_rfl) (by rfl) (fun wx val iv hB hV K hK => ?_) ?_
    · clear hV; simp only [putT, List.foldl_cons, List.foldl_nil, Made.val, Act.put, List.setIfInBounds_toArray, List.set_cons_zero, List.set_cons_succ]; go_simp; exact hK.out _ _ rfl (Below.refl _ _)
    refine StepsT.cons [(7, some 10, .is (.pointer (some ⟨w.heap.size, 9, none⟩)))] (by simp only [List.getElem?_toArray, List.getElem?_cons_succ, List.getElem?_cons_zero]; rfl) (by kernel_rfl) (by rfl) (fun wx val iv hB hV K hK => ?_) ?_
    · (obtain ⟨k0, k1, k2, k3, k4, k5, k6, k7, k8, k9, k10, k11, k12, k13⟩ := HC.out wx hB); clear hV; simp only [putT, List.foldl_cons, List.foldl_nil, Made.val, Act.put, List.setIfInBounds_toArray, List.set_cons_zero, List.set_cons_succ]; go_simp; exact hK.out _ _ rfl (Below.refl _ _)
    refine StepsT.cons [(5, some 8, .rows D.hands), (6, some 9, .zero), (8, some 11, .is (.slice p9 D.stock.length c9))] (by simp only [List.getElem?_toArray, List.getElem?_cons_succ, List.getElem?_cons_zero]; rfl) (by kernel_rfl) (by rfl) (fun wx val iv hB hV K hK => ?_) ?_
    · (obtain ⟨g, hg⟩ := hV (6, some 9, .zero) (by simp); obtain ⟨v', w', hrun, ho, hb⟩ := append_copy (g := g) (H9.out wx hB).1 (H9.out wx hB).2 22; simp only at hg; simp only [putT, List.foldl_cons, List.foldl_nil, Made.val, Act.put, List.setIfInBounds_toArray, List.set_cons_zero, List.set_cons_succ]; rw [if_pos (by rfl)]; refine Lib.wp_append_run _ (.tmp 9) (.tmp 11) 22 22 (by rfl) (val 6) (.slice p9 D.stock.length c9) (by rfl) (by rfl) v' w' (by rw [hg]; exact hrun) ?_; exact hK.out _ _ ho hb)
    refine StepsT.cons [] (by simp only [List.getElem?_toArray, List.getElem?_cons_succ, List.getElem?_cons_zero]; rfl) (by kernel_rfl) (by rfl) (fun wx val iv hB hV K hK => ?_) ?_
    · simp only [putT, List.foldl_cons, List.foldl_nil, Made.val, Act.put, List.setIfInBounds_toArray, List.set_cons_zero, List.set_cons_succ]; go_simp; exact hK.out _ _ ⟨_, rfl⟩ ((Below.refl _ _).alloc (Nat.le_refl _) _)
    refine StepsT.cons [] (by simp only [List.getElem?_toArray, List.getElem?_cons_succ, List.getElem?_cons_zero]; rfl) (by kernel_rfl) (by rfl) (fun wx val iv hB hV K hK => ?_) ?_
    · clear hV; simp only [putT, List.foldl_cons, List.foldl_nil, Made.val, Act.put, List.setIfInBounds_toArray, List.set_cons_zero, List.set_cons_succ]; go_simp; exact hK.out _ _ rfl (Below.refl _ _)
    refine StepsT.cons [(11, some 14, .is (.pointer (some ⟨w.heap.size, 10, none⟩)))] (by simp only [List.getElem?_toArray, List.getElem?_cons_succ, List.getElem?_cons_zero]; rfl) (by kernel_rfl) (by rfl) (fun wx val iv hB hV K hK => ?_) ?_
    · (obtain ⟨k0, k1, k2, k3, k4, k5, k6, k7, k8, k9, k10, k11, k12, k13⟩ := HC.out wx hB); clear hV; simp only [putT, List.foldl_cons, List.foldl_nil, Made.val, Act.put, List.setIfInBounds_toArray, List.set_cons_zero, List.set_cons_succ]; go_simp; exact hK.out _ _ rfl (Below.refl _ _)
    refine StepsT.cons [(9, some 12, .ints D.stock), (10, some 13, .zero), (12, some 15, .is (.slice p10 D.heap.length c10))] (by simp only [List.getElem?_toArray, List.getElem?_cons_succ, List.getElem?_cons_zero]; rfl) (by kernel_rfl) (by rfl) (fun wx val iv hB hV K hK => ?_) ?_
    · (obtain ⟨g, hg⟩ := hV (10, some 13, .zero) (by simp); obtain ⟨v', w', hrun, ho, hb⟩ := append_copy (g := g) (H10.out wx hB).1 (H10.out wx hB).2 22; simp only at hg; simp only [putT, List.foldl_cons, List.foldl_nil, Made.val, Act.put, List.setIfInBounds_toArray, List.set_cons_zero, List.set_cons_succ]; rw [if_pos (by rfl)]; refine Lib.wp_append_run _ (.tmp 13) (.tmp 15) 22 22 (by rfl) (val 10) (.slice p10 D.heap.length c10) (by rfl) (by rfl) v' w' (by rw [hg]; exact hrun) ?_; exact hK.out _ _ ho hb)
    refine StepsT.cons [] (by simp only [List.getElem?_toArray, List.getElem?_cons_succ, List.getElem?_cons_zero]; rfl) (by kernel_rfl) (by rfl) (fun wx val iv hB hV K hK => ?_) ?_
    · clear hV; simp only [putT, List.foldl_cons, List.foldl_nil, Made.val, Act.put, List.setIfInBounds_toArray, List.set_cons_zero, List.set_cons_succ]; go_simp; exact hK.out _ _ rfl (Below.refl _ _)
    refine StepsT.cons [(14, some 17, .is (.pointer (some ⟨w.heap.size, 11, none⟩)))] (by simp only [List.getElem?_toArray, List.getElem?_cons_succ, List.getElem?_cons_zero]; rfl) (by kernel_rfl) (by rfl) (fun wx val iv hB hV K hK => ?_) ?_
    · (obtain ⟨k0, k1, k2, k3, k4, k5, k6, k7, k8, k9, k10, k11, k12, k13⟩ := HC.out wx hB); clear hV; simp only [putT, List.foldl_cons, List.foldl_nil, Made.val, Act.put, List.setIfInBounds_toArray, List.set_cons_zero, List.set_cons_succ]; go_simp; exact hK.out _ _ rfl (Below.refl _ _)
    refine StepsT.cons [] (by simp only [List.getElem?_toArray, List.getElem?_cons_succ, List.getElem?_cons_zero]; rfl) (by kernel_rfl) (by rfl) (fun wx val iv hB hV K hK => ?_) ?_
    · clear hV; simp only [putT, List.foldl_cons, List.foldl_nil, Made.val, Act.put, List.setIfInBounds_toArray, List.set_cons_zero, List.set_cons_succ]; go_simp; exact hK.out _ _ rfl (Below.refl _ _)
    refine StepsT.cons [(16, some 19, .is (.pointer (some ⟨w.heap.size, 12, none⟩)))] (by simp only [List.getElem?_toArray, List.getElem?_cons_succ, List.getElem?_cons_zero]; rfl) (by kernel_rfl) (by rfl) (fun wx val iv hB hV K hK => ?_) ?_
    · (obtain ⟨k0, k1, k2, k3, k4, k5, k6, k7, k8, k9, k10, k11, k12, k13⟩ := HC.out wx hB); clear hV; simp only [putT, List.foldl_cons, List.foldl_nil, Made.val, Act.put, List.setIfInBounds_toArray, List.set_cons_zero, List.set_cons_succ]; go_simp; exact hK.out _ _ rfl (Below.refl _ _)
    refine StepsT.cons [] (by simp only [List.getElem?_toArray, List.getElem?_cons_succ, List.getElem?_cons_zero]; rfl) (by kernel_rfl) (by rfl) (fun wx val iv hB hV K hK => ?_) ?_
    · clear hV; simp only [putT, List.foldl_cons, List.foldl_nil, Made.val, Act.put, List.setIfInBounds_toArray, List.set_cons_zero, List.set_cons_succ]; go_simp; exact hK.out _ _ rfl (Below.refl _ _)
    refine StepsT.cons [(18, some 21, .is (.pointer (some ⟨w.heap.size, 13, none⟩)))] (by simp only [List.getElem?_toArray, List.getElem?_cons_succ, List.getElem?_cons_zero]; rfl) (by kernel_rfl) (by rfl) (fun wx val iv hB hV K hK => ?_) ?_
    · (obtain ⟨k0, k1, k2, k3, k4, k5, k6, k7, k8, k9, k10, k11, k12, k13⟩ := HC.out wx hB); clear hV; simp only [putT, List.foldl_cons, List.foldl_nil, Made.val, Act.put, List.setIfInBounds_toArray, List.set_cons_zero, List.set_cons_succ]; go_simp; exact hK.out _ _ rfl (Below.refl _ _)
    exact StepsT.nil
  case fin =>
    intro wx val iv BX hV hD
    obtain ⟨hsz, Bx, wf0, wf1, wf2⟩ := HS.out
    simp only [List.forall_mem_cons] at hV
    obtain ⟨-, -, ⟨hv0, l0, u0⟩, -, -, ⟨hv8, l8, u8⟩, -, -, -, ⟨hv9, l9, u9⟩, -, -, -, ⟨hv10, l10, u10⟩, -⟩ := hV
    have x1 := hD 2 (by simp) 5 (by simp) (by decide)
    have x2 := hD 2 (by simp) 9 (by simp) (by decide)
    have x3 := hD 2 (by simp) 13 (by simp) (by decide)
    have x4 := hD 5 (by simp) 9 (by simp) (by decide)
    have x5 := hD 5 (by simp) 13 (by simp) (by decide)
    have x6 := hD 9 (by simp) 13 (by simp) (by decide)
    have g1 := HR.out wx BX
    clear hD
    obtain ⟨q4, q5, d4, d5, e0⟩ := WrRules.shape hv0
    obtain ⟨q8, d8, e8⟩ := OwnR.shape hv8
    obtain ⟨q9, d9, e9⟩ := OwnI.shape hv9
    obtain ⟨q10, d10, e10⟩ := OwnI.shape hv10
    (try dsimp only at e0 e8 e9 e10)
    dsimp only [Made.means] at hv0 hv8 hv9 hv10
    rw [e0] at hv0
    rw [e8] at hv8
    rw [e9] at hv9
    rw [e10] at hv10
    have HX := Lib.hid (game_laid (lo := w.heap.size) (r := w.heap.size + 1) hv0 hv8 hv9 hv10 ⟨by omega, u0⟩ ⟨by omega, u8⟩ ⟨by omega, u9⟩ ⟨by omega, u10⟩ x1 x2 x3 x4 x5 x6 wf0 wf1 wf2 (by omega) (by omega) (by omega) (by omega) (by omega) g1 (Bx wx BX))
    clear hv0 hv8 hv9 hv10 x1 x2 x3 x4 x5 x6 wf0 wf1 wf2
    simp only [putT, List.foldl_cons, List.foldl_nil, Made.val, Act.put, List.setIfInBounds_toArray, List.set_cons_zero, List.set_cons_succ]
    rw [e0, e8, e9, e10]
    clear e0 e8 e9 e10
    refine wpAny_one (i := 20) (by kernel_rfl) (by simp only [List.getElem?_toArray, List.getElem?_cons_succ, List.getElem?_cons_zero]; rfl) (fun K hK => ?_)
    go_simp
    refine hK.out _ _ ?_
    clear hK K
    refine wpAny_one (i := 21) (by kernel_rfl) (by simp only [List.getElem?_toArray, List.getElem?_cons_succ, List.getElem?_cons_zero]; rfl) (fun K hK => ?_)
    rw [if_pos (by rfl)]
    refine wp_store_row 32 (.tmp 2) (.tmp 23) (by rfl) (w.heap.size + 1) #[.int .i64 D.rules.players, .int .i64 D.rules.each, .bool D.rules.sameSuit, .bool D.rules.sameRank, .slice q4 D.rules.wild.length d4, .slice q5 D.rules.skip.length d5, .int .i64 D.rules.take, .int .i64 D.rules.limit, .slice q8 D.hands.length d8, .slice q9 D.stock.length d9, .slice q10 D.heap.length d10, .int .i64 D.turn, .int .i64 D.moves, .int .i64 D.passes] (by rfl) (by rfl) 32 _ g1 (by kernel_rfl) (by rfl) (by simp [Value.oneCell']) (hK.out _ _ ?_)
    refine wpAny_end (by kernel_rfl) ?_
    clear hK K
    go_wp2_with fail
    refine bodyPost_ret (results_cell_row rfl _ _ (w.heap.size + 1) _ _ _ _ rfl HX.out.1 Tryz.underlying32 rfl (by kernel_rfl)) rfl ?_
    exact ⟨_, rfl, HX.out.2.1, HX.out.2.2⟩
end Go.Proofs.YtijdhpkeojkphaaGreatDoor
