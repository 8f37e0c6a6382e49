/-
  Deals copied: what a call owns of a deal; l12Copy, copyDeal.
-/
import Derived.Test.YtbojhbhniollaaaDoorNDeal
import Derived.Test.YtbojhbhniollaaaDoorMade
import Derived.Test.YtbojhbhniollaaaDoorSet
import Derived.Test.YtbojhbhniollaaaDoorCpRows
namespace Go.Proofs.YtbojhbhniollaaaDoor
open Go.RowKit
set_option linter.unusedVariables false
set_option linter.unusedSimpArgs false

/-- A deal of the call's own: its lists may grow. -/
def OwnDeal (S : Nat → Prop) (w : World) (v : Value) (D : MDeal) : Prop :=
  ∃ (p0 p3 p4 p5 : Option Addr) (c0 c3 c4 c5 : Nat) (S0 S3 S4 S5 : Nat → Prop), v = .agg #[.slice p0 D.hands.length c0, .int .i64 D.leader, .int .i64 D.trump, .slice p3 D.trick.length c3, .slice p4 D.won.length c4, .slice p5 D.points.length c5, .int .i64 D.left] ∧ OwnR S0 w (.slice p0 D.hands.length c0) D.hands ∧ OwnI S3 w (.slice p3 D.trick.length c3) D.trick ∧ OwnI S4 w (.slice p4 D.won.length c4) D.won ∧ OwnI S5 w (.slice p5 D.points.length c5) D.points ∧ (∀ b, S0 b → S b) ∧ (∀ b, S3 b → S b) ∧ (∀ b, S4 b → S b) ∧ (∀ b, S5 b → S b) ∧ (∀ b, S0 b → ¬ S3 b) ∧ (∀ b, S0 b → ¬ S4 b) ∧ (∀ b, S0 b → ¬ S5 b) ∧ (∀ b, S3 b → ¬ S4 b) ∧ (∀ b, S3 b → ¬ S5 b) ∧ (∀ b, S4 b → ¬ S5 b) ∧ (Lit.int .i64 D.leader).wf = true ∧ (Lit.int .i64 D.trump).wf = true ∧ (Lit.int .i64 D.left).wf = true
theorem OwnDeal.wr {S : Nat → Prop} {w : World} {v : Value} {D : MDeal} (h : OwnDeal S w v D) : WrDeal S w v D := by
  obtain ⟨p0, p3, p4, p5, c0, c3, c4, c5, S0, S3, S4, S5, e, h0, h3, h4, h5, r⟩ := h
  exact ⟨p0, p3, p4, p5, c0, c3, c4, c5, S0, S3, S4, S5, e, h0.ss, h3.wr, h4.wr, h5.wr, r⟩
theorem OwnDeal.below {S : Nat → Prop} {w w' : World} {v : Value} {D : MDeal} (h : OwnDeal S w v D) (b : Below w.heap.size w w') : OwnDeal S w' v D := by
  obtain ⟨p0, p3, p4, p5, c0, c3, c4, c5, S0, S3, S4, S5, e, h0, h3, h4, h5, r⟩ := h
  exact ⟨p0, p3, p4, p5, c0, c3, c4, c5, S0, S3, S4, S5, e, h0.below b, h3.below b, h4.below b, h5.below b, r⟩
theorem OwnDeal.mono {S T : Nat → Prop} {w : World} {v : Value} {D : MDeal} (h : OwnDeal S w v D) (hs : ∀ b, S b → T b) : OwnDeal T w v D := by
  obtain ⟨p0, p3, p4, p5, c0, c3, c4, c5, S0, S3, S4, S5, e, h0, h3, h4, h5, s0, s3, s4, s5, r⟩ := h
  exact ⟨p0, p3, p4, p5, c0, c3, c4, c5, S0, S3, S4, S5, e, h0, h3, h4, h5, fun b hb => hs b (s0 b hb), fun b hb => hs b (s3 b hb), fun b hb => hs b (s4 b hb), fun b hb => hs b (s5 b hb), r⟩
theorem OwnDeal.touch {S T : Nat → Prop} {w w' : World} {v : Value} {D : MDeal} (h : OwnDeal S w v D) (t : Touch T w w') (hd : ∀ b, S b → ¬ T b) : OwnDeal S w' v D := by
  obtain ⟨p0, p3, p4, p5, c0, c3, c4, c5, S0, S3, S4, S5, e, h0, h3, h4, h5, s0, s3, s4, s5, r⟩ := h
  exact ⟨p0, p3, p4, p5, c0, c3, c4, c5, S0, S3, S4, S5, e, h0.touch t (fun b hb => hd b (s0 b hb)), h3.touch t (fun b hb => hd b (s3 b hb)), h4.touch t (fun b hb => hd b (s4 b hb)), h5.touch t (fun b hb => hd b (s5 b hb)), s0, s3, s4, s5, r⟩
theorem touchRow (w : World) (g : Nat) (cs : Array Value) : Touch (fun k => k = g) w (w.setRow g cs) := by
  have b : Below 0 w (w.setRow g cs) := below_setRow (Below.refl _ _) (Nat.zero_le _) _
  exact ⟨b.os, b.tape, b.output, b.size, fun k _ hn => setRow_other _ _ _ _ hn⟩
theorem touchCell (w : World) (g i : Nat) (v : Value) : Touch (fun k => k = g) w (w.setCell ⟨g, i, none⟩ v) := by
  have b : Below 0 w (w.setCell ⟨g, i, none⟩ v) := (Below.refl _ _).setCell (Nat.zero_le _) _
  exact ⟨b.os, b.tape, b.output, b.size, fun k _ hn => Below.heap_setCell _ _ _ _ hn⟩
/-- A deal laid into its box. -/
theorem deal_laid {lo r l0 u0 l3 u3 l4 u4 l5 u5 d0 d3 d4 d5 : Nat} {w0 wx : World} {q0 q3 q4 q5 : Option Addr} {old : Array Value} {D : MDeal} (h0 : OwnR (In l0 u0) wx (.slice q0 D.hands.length d0) D.hands) (h3 : OwnI (In l3 u3) wx (.slice q3 D.trick.length d3) D.trick) (h4 : OwnI (In l4 u4) wx (.slice q4 D.won.length d4) D.won) (h5 : OwnI (In l5 u5) wx (.slice q5 D.points.length d5) D.points)
    (i0 : lo ≤ l0 ∧ u0 ≤ wx.heap.size) (i3 : lo ≤ l3 ∧ u3 ≤ wx.heap.size) (i4 : lo ≤ l4 ∧ u4 ≤ wx.heap.size) (i5 : lo ≤ l5 ∧ u5 ≤ wx.heap.size)
    (x1 : u0 ≤ l3 ∨ u3 ≤ l0) (x2 : u0 ≤ l4 ∨ u4 ≤ l0) (x3 : u0 ≤ l5 ∨ u5 ≤ l0) (x4 : u3 ≤ l4 ∨ u4 ≤ l3) (x5 : u3 ≤ l5 ∨ u5 ≤ l3) (x6 : u4 ≤ l5 ∨ u5 ≤ l4)
    (wf0 : (Lit.int .i64 D.leader).wf = true) (wf1 : (Lit.int .i64 D.trump).wf = true) (wf2 : (Lit.int .i64 D.left).wf = true) (r0 : r < l0) (r3 : r < l3) (r4 : r < l4) (r5 : r < l5) (hr : lo ≤ r) (g1 : wx.heap[r]? = some (.cells old 31 (0, 0))) (B : Below lo w0 wx) :
    (wx.setRow r #[.slice q0 D.hands.length d0, .int .i64 D.leader, .int .i64 D.trump, .slice q3 D.trick.length d3, .slice q4 D.won.length d4, .slice q5 D.points.length d5, .int .i64 D.left]).heap[r]? = some (.cells #[.slice q0 D.hands.length d0, .int .i64 D.leader, .int .i64 D.trump, .slice q3 D.trick.length d3, .slice q4 D.won.length d4, .slice q5 D.points.length d5, .int .i64 D.left] 31 (0, 0)) ∧ OwnDeal (In lo (wx.setRow r #[.slice q0 D.hands.length d0, .int .i64 D.leader, .int .i64 D.trump, .slice q3 D.trick.length d3, .slice q4 D.won.length d4, .slice q5 D.points.length d5, .int .i64 D.left]).heap.size) (wx.setRow r #[.slice q0 D.hands.length d0, .int .i64 D.leader, .int .i64 D.trump, .slice q3 D.trick.length d3, .slice q4 D.won.length d4, .slice q5 D.points.length d5, .int .i64 D.left]) (.agg #[.slice q0 D.hands.length d0, .int .i64 D.leader, .int .i64 D.trump, .slice q3 D.trick.length d3, .slice q4 D.won.length d4, .slice q5 D.points.length d5, .int .i64 D.left]) D ∧ Below lo w0 (wx.setRow r #[.slice q0 D.hands.length d0, .int .i64 D.leader, .int .i64 D.trump, .slice q3 D.trick.length d3, .slice q4 D.won.length d4, .slice q5 D.points.length d5, .int .i64 D.left]) := by
  have tR := touchRow wx r #[.slice q0 D.hands.length d0, .int .i64 D.leader, .int .i64 D.trump, .slice q3 D.trick.length d3, .slice q4 D.won.length d4, .slice q5 D.points.length d5, .int .i64 D.left]
  have hs : (wx.setRow r #[.slice q0 D.hands.length d0, .int .i64 D.leader, .int .i64 D.trump, .slice q3 D.trick.length d3, .slice q4 D.won.length d4, .slice q5 D.points.length d5, .int .i64 D.left]).heap.size = wx.heap.size := by simp [World.setRow]
  refine ⟨setRow_heap _ _ _ _ _ _ g1, ⟨q0, q3, q4, q5, d0, d3, d4, d5, In l0 u0, In l3 u3, In l4 u4, In l5 u5, rfl, h0.touch tR (fun b hb e => by have := hb.1; omega), h3.touch tR (fun b hb e => by have := hb.1; omega), h4.touch tR (fun b hb e => by have := hb.1; omega), h5.touch tR (fun b hb e => by have := hb.1; omega), ?_, ?_, ?_, ?_, ?_, ?_, ?_, ?_, ?_, ?_, wf0, wf1, wf2⟩, below_setRow B hr _⟩
  · intro b hb; obtain ⟨h1, h2⟩ := hb; exact ⟨by omega, by omega⟩
  · intro b hb; obtain ⟨h1, h2⟩ := hb; exact ⟨by omega, by omega⟩
  · intro b hb; obtain ⟨h1, h2⟩ := hb; exact ⟨by omega, by omega⟩
  · intro b hb; obtain ⟨h1, h2⟩ := hb; exact ⟨by omega, by omega⟩
  all_goals (intro b hb hc; obtain ⟨h1, h2⟩ := hb; obtain ⟨h3, h4⟩ := hc; omega)
set_option maxRecDepth 100000 in
set_option maxHeartbeats 2000000 in
theorem sl12Copy_any (v : Value) (D : MDeal) (w : World) (h : RdDeal w v D) (hf : D.Few) :
    Calls Tryd.prog 45 #[v] w fun e w' => ∃ v', e = .returned v' ∧ OwnDeal (In w.heap.size w'.heap.size) w' v' D ∧ Below w.heap.size w w' := by
  obtain ⟨p0, p3, p4, p5, c0, c3, c4, c5, ev⟩ := h.shape
  obtain ⟨v0, v3, v4, v5, b3, b4, b5, e, h0, h3, h4, h5, wf0, wf1, wf2⟩ := h
  rw [ev] at e
  simp at e
  obtain ⟨rfl, rfl, rfl, rfl⟩ := e
  subst ev
  obtain ⟨f0, fs0, f3, f4, f5⟩ := hf
  obtain ⟨W0, hW0⟩ : ∃ W, W = (w.alloc (.cells #[.slice p0 D.hands.length c0, .int .i64 D.leader, .int .i64 D.trump, .slice p3 D.trick.length c3, .slice p4 D.won.length c4, .slice p5 D.points.length c5, .int .i64 D.left] 31)).alloc (.cells #[.slice none 0 0, .int .i64 0, .int .i64 0, .slice none 0 0, .slice none 0 0, .slice none 0 0, .int .i64 0] 31) := ⟨_, rfl⟩
  have G0 : W0.heap[w.heap.size]? = some (.cells #[.slice p0 D.hands.length c0, .int .i64 D.leader, .int .i64 D.trump, .slice p3 D.trick.length c3, .slice p4 D.won.length c4, .slice p5 D.points.length c5, .int .i64 D.left] 31 (0, 0)) := by rw [hW0]; exact heap_alloc2_old _ _ _
  have G1 : W0.heap[w.heap.size + 1]? = some (.cells #[.slice none 0 0, .int .i64 0, .int .i64 0, .slice none 0 0, .slice none 0 0, .slice none 0 0, .int .i64 0] 31 (0, 0)) := by rw [hW0]; exact heap_alloc2_new _ _ _
  have hsz : W0.heap.size = w.heap.size + 2 := by rw [hW0]; simp
  have B0 : Below w.heap.size w W0 := by rw [hW0]; exact ((Below.refl _ _).alloc (Nat.le_refl _) _).alloc (by simp) _
  have Bx : ∀ wx, Below W0.heap.size W0 wx → Below w.heap.size w wx := fun wx hb => B0.trans (hb.mono B0.size)
  have H3w := Lib.hid (fun wx (hb : Below W0.heap.size W0 wx) => And.intro (h3.below (Bx wx hb)) f3)
  have H4w := Lib.hid (fun wx (hb : Below W0.heap.size W0 wx) => And.intro (h4.below (Bx wx hb)) f4)
  have H5w := Lib.hid (fun wx (hb : Below W0.heap.size W0 wx) => And.intro (h5.below (Bx wx hb)) f5)
  have Hrow := Lib.hid (fun wx (hb : Below W0.heap.size W0 wx) j (hj : j < D.hands.length) => (h0.below (Bx wx hb)).row hj)
  have HCw := Lib.hid (fun wx (hb : Below W0.heap.size W0 wx) => SDeal_cells ((hb.block _ (show w.heap.size < W0.heap.size by omega)).trans G0))
  have HRw := Lib.hid (fun wx (hb : Below W0.heap.size W0 wx) => (hb.block _ (show w.heap.size + 1 < W0.heap.size by omega)).trans G1)
  obtain ⟨zss, hzs⟩ : ∃ z, z = D.hands := ⟨_, rfl⟩
  rw [← hzs] at Hrow
  obtain ⟨n, hn⟩ : ∃ n, n = zss.length := ⟨_, rfl⟩
  have Hsum : Hid (∀ j (hj : j < zss.length), zss[j].length ≤ 1048576) := Lib.hid (fun j hj => Nat.le_trans (len_le_sum zss hj) (by rw [hzs]; exact fs0))
  have hnl : n ≤ 1048576 := by rw [hn, hzs]; exact f0
  have hnD : D.hands.length = n := by rw [hn, hzs]
  have Hn := Lib.hid hn
  have Hzs := Lib.hid hzs
  have HW := Lib.hid hW0
  have HS := Lib.hid (And.intro hsz (And.intro Bx (And.intro wf0 (And.intro wf1 wf2))))
  have lit0 : Hid (OwnR (In W0.heap.size (W0.alloc (.cells #[] 23)).heap.size) (W0.alloc (.cells #[] 23)) (.slice (some ⟨W0.heap.size, 0, none⟩) 0 0) []) := Lib.hid (OwnR.empty W0)
  have BL : Below W0.heap.size W0 (W0.alloc (.cells #[] 23)) := (Below.refl _ _).alloc (Nat.le_refl _) _
  have HnD := Lib.hid hnD
  clear hW0 G0 G1 hsz B0 Bx h0 h3 h4 h5 f0 fs0 f3 f4 f5 wf0 wf1 wf2 hn hzs hnD
  go_enter Tryd.func45, Tryd.ntmps45
  go_upto_region 1 with fail
  rw [← HW.out]
  go_wp2_with fail
  go_loopw [3, 4] (fun o i wr => ∃ k : Nat, k ≤ n ∧ i = .int .i64 k ∧ Below W0.heap.size W0 wr ∧ Hid (OwnR (In W0.heap.size wr.heap.size) wr o (zss.take k))) (fun _ i _ => n - (intOf i).toNat)
  case atStart => exact ⟨0, Nat.zero_le _, rfl, BL, lit0⟩
  case round =>
    clear lit0 BL
    obtain ⟨k, hk, rfl, B, ho⟩ := hrel
    obtain ⟨k0, k1, k2, k3, k4, k5, k6⟩ := HCw.out wr B
    rw [HnD.out] at k0
    by_cases hlt : k < n
    · have hz : k < zss.length := by rw [← Hn.out]; exact hlt
      obtain ⟨blk, off, cap', p, c, b, hv, hc, hr, -⟩ := Hrow.out wr B k hz
      have hsm := Hsum.out k hz
      have hA : Below wr.heap.size wr (wr.alloc (.cells #[] 3)) := (Below.refl _ _).alloc (Nat.le_refl _) _
      have hcA : (wr.alloc (.cells #[] 3)).cell? ⟨blk, off + k, none⟩ = some (.slice p (zss[k]'hz).length c) := (hA.cell (p := ⟨blk, off + k, none⟩) (World.block_lt_of_cell? _ _ hc)).trans hc
      have ha := (Value.slice.inj hv).1
      clear hv
      subst ha
      have kA : (wr.alloc (.cells #[] 3)).cell? ⟨w.heap.size, 0, none⟩ = some (.slice (some ⟨blk, off, none⟩) n c0) := by
        have := (HCw.out _ (B.trans (hA.mono B.size))).1
        rw [HnD.out] at this; exact this
      obtain ⟨q0, d0, e0⟩ := ho.out.shape
      subst e0
      obtain ⟨r, w2, hrun2, ho2, B2⟩ := append_copy (g := wr.heap.size) (hr.below hA) hsm 23
      have B2' : Below wr.heap.size wr w2 := hA.trans (B2.mono hA.size)
      obtain ⟨v3, w3, hrun3, ho3, hg3⟩ := ho.out.snoc B2' (ho2.mono (fun b hb _ => by have := hb.1; have := hA.size; omega)) (by rw [List.length_take]; omega) 22 Tryd.underlying22 22
      have B3 : Below W0.heap.size W0 w3 := ((B.trans (B2'.mono B.size)).alloc (Nat.le_trans B.size B2'.size) _).grown hg3 (by have := B.size; have := B2'.size; simp; omega) (fun q hq => by
        obtain ⟨xs, h1, h2, -⟩ := ho.out
        exact (h2 q hq).1)
      have hw3 : Hid (OwnR (In W0.heap.size w3.heap.size) w3 v3 (zss.take (k + 1))) := Lib.hid (by
        rw [List.take_succ_eq_append_getElem hz]
        exact ho3.mono (fun b hb hl => by have := B.size; rcases hb with ⟨h1, h2⟩ | ⟨h1, h2⟩ <;> exact ⟨by omega, hl⟩))
      obtain ⟨p3', c3', e3⟩ := ho3.shape
      obtain ⟨p2, c2, e2⟩ := ho2.shape
      have Q2 := Lib.hid hrun2
      have Q3 := Lib.hid hrun3
      have HB3 := Lib.hid B3
      subst e3 e2
      clear hr hrun2 hrun3 ho3 ho2 ho B2 B2' B3 hg3 hA k1 k2 k3 k4 k5 k6
      generalize (zss[k]'hz).length = m at *
      have hlt2 : (zss.take k).length = k := by rw [List.length_take]; omega
      have hlt3 : (zss.take k ++ [zss[k]'hz]).length = k + 1 := by rw [List.length_append, hlt2]; rfl
      rw [hlt2] at Q3
      rw [hlt3] at Q3 hw3
      rw [hlt2]
      clear hlt2 hlt3
      go_wp2_with (at_builtin; first | refine Lib.wpList_append_run _ rfl _ _ _ _ rfl _ _ rfl rfl _ _ Q2.out ?_ | refine Lib.wpList_append_run _ rfl _ _ _ _ rfl _ _ rfl rfl _ _ Q3.out ?_)
      go_roundw
      case rel => exact ⟨k + 1, by omega, by go_num, HB3.out, hw3⟩
      case measure => simp [intOf]; omega
    · obtain rfl : k = n := by omega
      have hall : zss.take k = D.hands := by rw [List.take_of_length_le (by rw [Hn.out]; exact Nat.le_refl _), Hzs.out]
      obtain ⟨vh, hvh⟩ : ∃ v, v = (Value.slice none 0 0) := ⟨_, rfl⟩
      rw [hall] at ho
      obtain ⟨ph, ch, eh⟩ := ho.out.shape
      subst eh
      have Bx' : ∀ wx, Below wr.heap.size wr wx → Below W0.heap.size W0 wx := fun wx hb => B.trans (hb.mono B.size)
      have HC := Lib.hid (fun wx (hb : Below wr.heap.size wr wx) => HCw.out wx (Bx' wx hb))
      have H3 := Lib.hid (fun wx (hb : Below wr.heap.size wr wx) => H3w.out wx (Bx' wx hb))
      have H4 := Lib.hid (fun wx (hb : Below wr.heap.size wr wx) => H4w.out wx (Bx' wx hb))
      have H5 := Lib.hid (fun wx (hb : Below wr.heap.size wr wx) => H5w.out wx (Bx' wx hb))
      have HB := Lib.hid B
      clear hall hvh vh k1 k2 k3 k4 k5 k6 Bx'
      go_upto_region 6 with fail
      clear k0 B
      refine wp_region_table [(0, some 23, .is (.slice ph D.hands.length ch)), (1, some 24, .is (.pointer (some ⟨w.heap.size, 1, none⟩))), (2, some 25, .is (.int .i64 D.leader)), (3, some 26, .is (.pointer (some ⟨w.heap.size, 2, none⟩))), (4, some 27, .is (.int .i64 D.trump)), (5, some 28, .zero), (6, some 29, .is (.pointer (some ⟨w.heap.size, 3, none⟩))), (7, some 30, .is (.slice p3 D.trick.length c3)), (8, some 31, .ints D.trick), (9, some 32, .zero), (10, some 33, .is (.pointer (some ⟨w.heap.size, 4, none⟩))), (11, some 34, .is (.slice p4 D.won.length c4)), (12, some 35, .ints D.won), (13, some 36, .zero), (14, some 37, .is (.pointer (some ⟨w.heap.size, 5, none⟩))), (15, some 38, .is (.slice p5 D.points.length c5)), (16, some 39, .ints D.points), (17, some 40, .is (.pointer (some ⟨w.heap.size, 6, none⟩))), (18, some 41, .is (.int .i64 D.left))] 2 (by kernel_rfl) (by kernel_rfl) (by kernel_rfl) (by kernel_rfl) (by kernel_rfl) (L := #[true, true, true, true, true, true, true, true, true, true, true, true, true, true, true, true, true, true, true, false, false]) (by kernel_rfl) ?steps ?fin
      case steps =>
        refine StepsT.cons [] (by simp only [List.getElem?_toArray, List.getElem?_cons_succ, List.getElem?_cons_zero]; rfl) (by kernel_rfl) (by rfl) (fun wx val iv hB hV K hK => ?_) ?_
        · clear hV; simp only [putT, List.foldl_cons, List.foldl_nil, Made.val, Act.put, List.setIfInBounds_toArray, List.set_cons_zero, List.set_cons_succ]; go_simp; exact hK.out _ _ rfl (Below.refl _ _)
        refine StepsT.cons [] (by simp only [List.getElem?_toArray, List.getElem?_cons_succ, List.getElem?_cons_zero]; rfl) (by kernel_rfl) (by rfl) (fun wx val iv hB hV K hK => ?_) ?_
        · clear hV; simp only [putT, List.foldl_cons, List.foldl_nil, Made.val, Act.put, List.setIfInBounds_toArray, List.set_cons_zero, List.set_cons_succ]; go_simp; exact hK.out _ _ rfl (Below.refl _ _)
        refine StepsT.cons [(1, some 24, .is (.pointer (some ⟨w.heap.size, 1, none⟩)))] (by simp only [List.getElem?_toArray, List.getElem?_cons_succ, List.getElem?_cons_zero]; rfl) (by kernel_rfl) (by rfl) (fun wx val iv hB hV K hK => ?_) ?_
        · (obtain ⟨k0, k1, k2, k3, k4, k5, k6⟩ := HC.out wx hB); clear hV; simp only [putT, List.foldl_cons, List.foldl_nil, Made.val, Act.put, List.setIfInBounds_toArray, List.set_cons_zero, List.set_cons_succ]; go_simp; exact hK.out _ _ rfl (Below.refl _ _)
        refine StepsT.cons [] (by simp only [List.getElem?_toArray, List.getElem?_cons_succ, List.getElem?_cons_zero]; rfl) (by kernel_rfl) (by rfl) (fun wx val iv hB hV K hK => ?_) ?_
        · clear hV; simp only [putT, List.foldl_cons, List.foldl_nil, Made.val, Act.put, List.setIfInBounds_toArray, List.set_cons_zero, List.set_cons_succ]; go_simp; exact hK.out _ _ rfl (Below.refl _ _)
        refine StepsT.cons [(3, some 26, .is (.pointer (some ⟨w.heap.size, 2, none⟩)))] (by simp only [List.getElem?_toArray, List.getElem?_cons_succ, List.getElem?_cons_zero]; rfl) (by kernel_rfl) (by rfl) (fun wx val iv hB hV K hK => ?_) ?_
        · (obtain ⟨k0, k1, k2, k3, k4, k5, k6⟩ := HC.out wx hB); clear hV; simp only [putT, List.foldl_cons, List.foldl_nil, Made.val, Act.put, List.setIfInBounds_toArray, List.set_cons_zero, List.set_cons_succ]; go_simp; exact hK.out _ _ rfl (Below.refl _ _)
        refine StepsT.cons [] (by simp only [List.getElem?_toArray, List.getElem?_cons_succ, List.getElem?_cons_zero]; rfl) (by kernel_rfl) (by rfl) (fun wx val iv hB hV K hK => ?_) ?_
        · simp only [putT, List.foldl_cons, List.foldl_nil, Made.val, Act.put, List.setIfInBounds_toArray, List.set_cons_zero, List.set_cons_succ]; go_simp; exact hK.out _ _ ⟨_, rfl⟩ ((Below.refl _ _).alloc (Nat.le_refl _) _)
        refine StepsT.cons [] (by simp only [List.getElem?_toArray, List.getElem?_cons_succ, List.getElem?_cons_zero]; rfl) (by kernel_rfl) (by rfl) (fun wx val iv hB hV K hK => ?_) ?_
        · clear hV; simp only [putT, List.foldl_cons, List.foldl_nil, Made.val, Act.put, List.setIfInBounds_toArray, List.set_cons_zero, List.set_cons_succ]; go_simp; exact hK.out _ _ rfl (Below.refl _ _)
        refine StepsT.cons [(6, some 29, .is (.pointer (some ⟨w.heap.size, 3, none⟩)))] (by simp only [List.getElem?_toArray, List.getElem?_cons_succ, List.getElem?_cons_zero]; rfl) (by kernel_rfl) (by rfl) (fun wx val iv hB hV K hK => ?_) ?_
        · (obtain ⟨k0, k1, k2, k3, k4, k5, k6⟩ := HC.out wx hB); clear hV; simp only [putT, List.foldl_cons, List.foldl_nil, Made.val, Act.put, List.setIfInBounds_toArray, List.set_cons_zero, List.set_cons_succ]; go_simp; exact hK.out _ _ rfl (Below.refl _ _)
        refine StepsT.cons [(5, some 28, .zero), (7, some 30, .is (.slice p3 D.trick.length c3))] (by simp only [List.getElem?_toArray, List.getElem?_cons_succ, List.getElem?_cons_zero]; rfl) (by kernel_rfl) (by rfl) (fun wx val iv hB hV K hK => ?_) ?_
        · (obtain ⟨g, hg⟩ := hV (5, some 28, .zero) (by simp); obtain ⟨v', w', hrun, ho, hb⟩ := append_copy (g := g) (H3.out wx hB).1 (H3.out wx hB).2 23; simp only at hg; simp only [putT, List.foldl_cons, List.foldl_nil, Made.val, Act.put, List.setIfInBounds_toArray, List.set_cons_zero, List.set_cons_succ]; rw [if_pos (by rfl)]; refine Lib.wp_append_run _ (.tmp 28) (.tmp 30) 23 23 (by rfl) (val 5) (.slice p3 D.trick.length c3) (by rfl) (by rfl) v' w' (by rw [hg]; exact hrun) ?_; exact hK.out _ _ ho hb)
        refine StepsT.cons [] (by simp only [List.getElem?_toArray, List.getElem?_cons_succ, List.getElem?_cons_zero]; rfl) (by kernel_rfl) (by rfl) (fun wx val iv hB hV K hK => ?_) ?_
        · simp only [putT, List.foldl_cons, List.foldl_nil, Made.val, Act.put, List.setIfInBounds_toArray, List.set_cons_zero, List.set_cons_succ]; go_simp; exact hK.out _ _ ⟨_, rfl⟩ ((Below.refl _ _).alloc (Nat.le_refl _) _)
        refine StepsT.cons [] (by simp only [List.getElem?_toArray, List.getElem?_cons_succ, List.getElem?_cons_zero]; rfl) (by kernel_rfl) (by rfl) (fun wx val iv hB hV K hK => ?_) ?_
        · clear hV; simp only [putT, List.foldl_cons, List.foldl_nil, Made.val, Act.put, List.setIfInBounds_toArray, List.set_cons_zero, List.set_cons_succ]; go_simp; exact hK.out _ _ rfl (Below.refl _ _)
        refine StepsT.cons [(10, some 33, .is (.pointer (some ⟨w.heap.size, 4, none⟩)))] (by simp only [List.getElem?_toArray, List.getElem?_cons_succ, List.getElem?_cons_zero]; rfl) (by kernel_rfl) (by rfl) (fun wx val iv hB hV K hK => ?_) ?_
        · (obtain ⟨k0, k1, k2, k3, k4, k5, k6⟩ := HC.out wx hB); clear hV; simp only [putT, List.foldl_cons, List.foldl_nil, Made.val, Act.put, List.setIfInBounds_toArray, List.set_cons_zero, List.set_cons_succ]; go_simp; exact hK.out _ _ rfl (Below.refl _ _)
        refine StepsT.cons [(8, some 31, .ints D.trick), (9, some 32, .zero), (11, some 34, .is (.slice p4 D.won.length c4))] (by simp only [List.getElem?_toArray, List.getElem?_cons_succ, List.getElem?_cons_zero]; rfl) (by kernel_rfl) (by rfl) (fun wx val iv hB hV K hK => ?_) ?_
        · (obtain ⟨g, hg⟩ := hV (9, some 32, .zero) (by simp); obtain ⟨v', w', hrun, ho, hb⟩ := append_copy (g := g) (H4.out wx hB).1 (H4.out wx hB).2 23; simp only at hg; simp only [putT, List.foldl_cons, List.foldl_nil, Made.val, Act.put, List.setIfInBounds_toArray, List.set_cons_zero, List.set_cons_succ]; rw [if_pos (by rfl)]; refine Lib.wp_append_run _ (.tmp 32) (.tmp 34) 23 23 (by rfl) (val 9) (.slice p4 D.won.length c4) (by rfl) (by rfl) v' w' (by rw [hg]; exact hrun) ?_; exact hK.out _ _ ho hb)
        refine StepsT.cons [] (by simp only [List.getElem?_toArray, List.getElem?_cons_succ, List.getElem?_cons_zero]; rfl) (by kernel_rfl) (by rfl) (fun wx val iv hB hV K hK => ?_) ?_
        · simp only [putT, List.foldl_cons, List.foldl_nil, Made.val, Act.put, List.setIfInBounds_toArray, List.set_cons_zero, List.set_cons_succ]; go_simp; exact hK.out _ _ ⟨_, rfl⟩ ((Below.refl _ _).alloc (Nat.le_refl _) _)
        refine StepsT.cons [] (by simp only [List.getElem?_toArray, List.getElem?_cons_succ, List.getElem?_cons_zero]; rfl) (by kernel_rfl) (by rfl) (fun wx val iv hB hV K hK => ?_) ?_
        · clear hV; simp only [putT, List.foldl_cons, List.foldl_nil, Made.val, Act.put, List.setIfInBounds_toArray, List.set_cons_zero, List.set_cons_succ]; go_simp; exact hK.out _ _ rfl (Below.refl _ _)
        refine StepsT.cons [(14, some 37, .is (.pointer (some ⟨w.heap.size, 5, none⟩)))] (by simp only [List.getElem?_toArray, List.getElem?_cons_succ, List.getElem?_cons_zero]; rfl) (by kernel_rfl) (by rfl) (fun wx val iv hB hV K hK => ?_) ?_
        · (obtain ⟨k0, k1, k2, k3, k4, k5, k6⟩ := HC.out wx hB); clear hV; simp only [putT, List.foldl_cons, List.foldl_nil, Made.val, Act.put, List.setIfInBounds_toArray, List.set_cons_zero, List.set_cons_succ]; go_simp; exact hK.out _ _ rfl (Below.refl _ _)
        refine StepsT.cons [(12, some 35, .ints D.won), (13, some 36, .zero), (15, some 38, .is (.slice p5 D.points.length c5))] (by simp only [List.getElem?_toArray, List.getElem?_cons_succ, List.getElem?_cons_zero]; rfl) (by kernel_rfl) (by rfl) (fun wx val iv hB hV K hK => ?_) ?_
        · (obtain ⟨g, hg⟩ := hV (13, some 36, .zero) (by simp); obtain ⟨v', w', hrun, ho, hb⟩ := append_copy (g := g) (H5.out wx hB).1 (H5.out wx hB).2 23; simp only at hg; simp only [putT, List.foldl_cons, List.foldl_nil, Made.val, Act.put, List.setIfInBounds_toArray, List.set_cons_zero, List.set_cons_succ]; rw [if_pos (by rfl)]; refine Lib.wp_append_run _ (.tmp 36) (.tmp 38) 23 23 (by rfl) (val 13) (.slice p5 D.points.length c5) (by rfl) (by rfl) v' w' (by rw [hg]; exact hrun) ?_; exact hK.out _ _ ho hb)
        refine StepsT.cons [] (by simp only [List.getElem?_toArray, List.getElem?_cons_succ, List.getElem?_cons_zero]; rfl) (by kernel_rfl) (by rfl) (fun wx val iv hB hV K hK => ?_) ?_
        · clear hV; simp only [putT, List.foldl_cons, List.foldl_nil, Made.val, Act.put, List.setIfInBounds_toArray, List.set_cons_zero, List.set_cons_succ]; go_simp; exact hK.out _ _ rfl (Below.refl _ _)
        refine StepsT.cons [(17, some 40, .is (.pointer (some ⟨w.heap.size, 6, none⟩)))] (by simp only [List.getElem?_toArray, List.getElem?_cons_succ, List.getElem?_cons_zero]; rfl) (by kernel_rfl) (by rfl) (fun wx val iv hB hV K hK => ?_) ?_
        · (obtain ⟨k0, k1, k2, k3, k4, k5, k6⟩ := HC.out wx hB); clear hV; simp only [putT, List.foldl_cons, List.foldl_nil, Made.val, Act.put, List.setIfInBounds_toArray, List.set_cons_zero, List.set_cons_succ]; go_simp; exact hK.out _ _ rfl (Below.refl _ _)
        exact StepsT.nil
      case fin =>
        intro wx val iv BX hV hD
        obtain ⟨hsz, Bx, wf0, wf1, wf2⟩ := HS.out
        obtain ⟨hv3, l3, u3⟩ := hV (8, some 31, .ints D.trick) (by simp)
        obtain ⟨hv4, l4, u4⟩ := hV (12, some 35, .ints D.won) (by simp)
        obtain ⟨hv5, l5, u5⟩ := hV (16, some 39, .ints D.points) (by simp)
        have x4 := hD 8 (by simp) 12 (by simp) (by decide)
        have x5 := hD 8 (by simp) 16 (by simp) (by decide)
        have x6 := hD 12 (by simp) 16 (by simp) (by decide)
        obtain ⟨q3, d3, e3⟩ := OwnI.shape hv3
        obtain ⟨q4, d4, e4⟩ := OwnI.shape hv4
        obtain ⟨q5, d5, e5⟩ := OwnI.shape hv5
        (try dsimp only at e3 e4 e5)
        dsimp only [Made.means] at hv3 hv4 hv5
        dsimp only at l3 u3 l4 u4 l5 u5
        rw [e3] at hv3
        rw [e4] at hv4
        rw [e5] at hv5
        have g1 := HRw.out wx (HB.out.trans (BX.mono HB.out.size))
        have hwr := HB.out.size
        have hxs := BX.size
        have HX := Lib.hid (deal_laid (lo := w.heap.size) (r := w.heap.size + 1) (ho.out.below BX) hv3 hv4 hv5 ⟨by omega, by omega⟩ ⟨by omega, u3⟩ ⟨by omega, u4⟩ ⟨by omega, u5⟩ (by omega) (by omega) (by omega) x4 x5 x6 wf0 wf1 wf2 (by omega) (by omega) (by omega) (by omega) (by omega) g1 (Bx wx (HB.out.trans (BX.mono HB.out.size))))
        clear hV hD hv3 hv4 hv5 x4 x5 x6 l3 u3 l4 u4 l5 u5 hsz Bx wf0 wf1 wf2 hwr hxs ho
        simp only [putT, List.foldl_cons, List.foldl_nil, Made.val, Act.put, List.setIfInBounds_toArray, List.set_cons_zero, List.set_cons_succ]
        rw [e3, e4, e5]
        clear e3 e4 e5
        refine wpAny_one (i := 19) (by kernel_rfl) (by simp only [List.getElem?_toArray, List.getElem?_cons_succ, List.getElem?_cons_zero]; rfl) (fun K hK => ?_)
        go_simp
        refine hK.out _ _ ?_
        clear hK K
        refine wpAny_one (i := 20) (by kernel_rfl) (by simp only [List.getElem?_toArray, List.getElem?_cons_succ, List.getElem?_cons_zero]; rfl) (fun K hK => ?_)
        rw [if_pos (by rfl)]
        refine wp_store_row 31 (.tmp 2) (.tmp 42) (by rfl) (w.heap.size + 1) #[.slice ph D.hands.length ch, .int .i64 D.leader, .int .i64 D.trump, .slice q3 D.trick.length d3, .slice q4 D.won.length d4, .slice q5 D.points.length d5, .int .i64 D.left] (by rfl) (by rfl) 31 _ g1 (by kernel_rfl) (by rfl) (by simp [Value.oneCell']) (hK.out _ _ ?_)
        refine wpAny_end (by kernel_rfl) ?_
        clear hK K
        go_wp2_with fail
        refine bodyPost_ret (results_cell_row rfl _ _ (w.heap.size + 1) _ _ _ _ rfl HX.out.1 Tryd.underlying31 rfl (by kernel_rfl)) rfl ?_
        exact ⟨_, rfl, HX.out.2.1, HX.out.2.2⟩
end Go.Proofs.YtbojhbhniollaaaDoor
