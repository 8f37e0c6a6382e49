/-
  PeekOf, both sides.
-/
import Derived.Test.YtoeobpdgfhgpiaaGreatDoorGameS
import Derived.Test.YtoeobpdgfhgpiaaGreatDoorGameQ
import Derived.Test.YtoeobpdgfhgpiaaGreatDoorHeld
import Derived.Test.YtoeobpdgfhgpiaaGreatDoorSortS
import Derived.Test.YtoeobpdgfhgpiaaGreatDoorFrX
import Derived.IntWalk
import Derived.Test.YtoeobpdgfhgpiaaGreatDoorNPeek
namespace Go.Proofs.YtoeobpdgfhgpiaaGreatDoor
open Go.RowKit
set_option linter.unusedVariables false
set_option linter.unusedSimpArgs false

def peekB (D : MGame) (me : Int) : Bool := gameB D && decide (0 ≤ me ∧ me ≤ (D.hands.length : Int) - 1)
def peekM (D : MGame) (me : Int) : MPeek := if peekB D me = true then ⟨me, sortI (D.hands.getD me.toNat []), D.heap.getD (D.heap.length - 1) 0, D.heap.length, D.stock.length, lensI D.hands, D.turn, D.moves⟩ else ⟨0, [], 0, 0, 0, [], 0, 0⟩
theorem peek_0 {D : MGame} {me : Int} (h : gameB D = false) : peekB D me = false := by simp [peekB, h]
theorem peek_1 {D : MGame} {me : Int} (h : ¬ (0 ≤ me ∧ me ≤ (D.hands.length : Int) - 1)) : peekB D me = false := by simp only [peekB, decide_eq_false h, Bool.and_false]
theorem peek_2 {D : MGame} {me : Int} (h : gameB D = true) (h2 : 0 ≤ me ∧ me ≤ (D.hands.length : Int) - 1) : peekB D me = true := by simp only [peekB, h, decide_eq_true h2, Bool.and_self]
theorem peekM_t {D : MGame} {me : Int} (h : peekB D me = true) : peekM D me = ⟨me, sortI (D.hands.getD me.toNat []), D.heap.getD (D.heap.length - 1) 0, D.heap.length, D.stock.length, lensI D.hands, D.turn, D.moves⟩ := by unfold peekM; rw [if_pos h]
theorem peekM_f {D : MGame} {me : Int} (h : peekB D me = false) : peekM D me = ⟨0, [], 0, 0, 0, [], 0, 0⟩ := by unfold peekM; rw [if_neg (by rw [h]; decide)]
theorem peek_few (D : MGame) (me : Int) (hf : D.Few) : (peekM D me).Few := by
  obtain ⟨-, f8, fs8, -, -⟩ := hf
  unfold peekM
  split
  · refine ⟨?_, by rw [lensI_len]; exact f8⟩
    show (sortI _).length ≤ _
    rw [sortI_len]
    by_cases h : me.toNat < D.hands.length
    · have := len_le_sum D.hands h
      rw [show D.hands.getD me.toNat [] = D.hands[me.toNat] from by simp [List.getD, h]]
      omega
    · rw [show D.hands.getD me.toNat [] = [] from by simp [List.getD, List.getElem?_eq_none (Nat.le_of_not_lt h)]]; simp
  · exact ⟨by simp, by simp⟩
theorem game_heap {D : MGame} (h : gameB D = true) : ∃ L, D.heap.length = L + 1 := by
  unfold gameB at h
  simp only [Bool.and_eq_true] at h
  obtain ⟨-, -, h2, -⟩ := h
  rcases e : D.heap with _ | ⟨x, xs⟩
  · rw [e] at h2; simp at h2
  · exact ⟨xs.length, by simp⟩
theorem wr_none (S : Nat → Prop) (w : World) : WrIn .i64 S w (.slice none 0 0) [] :=
  ⟨0, WrAt.nil .i64 w none 0 0 ⟨by unfold maxLen; omega, fun _ => rfl⟩, fun h => absurd rfl h⟩
/-- A peek laid into its box. -/
theorem peek_laid {lo r : Nat} {S1 S5 : Nat → Prop} {w0 w : World} {p1 p5 : Option Addr} {c1 c5 : Nat} {P : MPeek} (h1 : WrIn .i64 S1 w (.slice p1 P.hand.length c1) P.hand) (h5 : WrIn .i64 S5 w (.slice p5 P.sizes.length c5) P.sizes) (s1 : ∀ b, S1 b → lo ≤ b ∧ b < w.heap.size ∧ b ≠ r) (s5 : ∀ b, S5 b → lo ≤ b ∧ b < w.heap.size ∧ b ≠ r) (s15 : ∀ b, S1 b → ¬ S5 b)
    (f0 : (Lit.int .i64 P.me).wf = true) (f1 : (Lit.int .i64 P.top).wf = true) (f2 : (Lit.int .i64 P.heapSize).wf = true) (f3 : (Lit.int .i64 P.stockSize).wf = true) (f4 : (Lit.int .i64 P.turn).wf = true) (f5 : (Lit.int .i64 P.moves).wf = true)
    (vs : List Value) {c : Array Value} (hvs : vs = [.int .i64 P.me, .slice p1 P.hand.length c1, .int .i64 P.top, .int .i64 P.heapSize, .int .i64 P.stockSize, .slice p5 P.sizes.length c5, .int .i64 P.turn, .int .i64 P.moves]) (hr : w.heap[r]? = some (.cells c 30 (0, 0))) (hc : c.size = 8) (hlo : lo ≤ r) (B : Below lo w0 w) :
    (setAll w r 0 vs).heap[r]? = some (.cells ⟨vs⟩ 30 (0, 0)) ∧ WrPeek (In lo (setAll w r 0 vs).heap.size) (setAll w r 0 vs) (.agg ⟨vs⟩) P ∧ Below lo w0 (setAll w r 0 vs) := by
  have b0 : Below 0 w (setAll w r 0 vs) := setAll_below (Nat.zero_le _) vs w 0 (Below.refl _ _)
  have tX : Touch (fun k => k = r) w (setAll w r 0 vs) := ⟨b0.os, b0.tape, b0.output, b0.size, fun k _ hn => setAll_other _ _ _ hn _ _⟩
  have hs := setAll_size r vs w 0
  refine ⟨setAll_full hr vs (by rw [hvs, hc]; rfl), ?_, setAll_below hlo vs w 0 B⟩
  subst hvs
  exact ⟨p1, p5, c1, c5, S1, S5, rfl, h1.touch tX (fun b hb e => (s1 b hb).2.2 e), h5.touch tX (fun b hb e => (s5 b hb).2.2 e), fun b hb => ⟨(s1 b hb).1, by rw [hs]; exact (s1 b hb).2.1⟩, fun b hb => ⟨(s5 b hb).1, by rw [hs]; exact (s5 b hb).2.1⟩, s15, f0, f1, f2, f3, f4, f5⟩
theorem peek_box {w : World} {r : Nat} (h : w.heap[r]? = some (.cells #[.int .i64 0, .slice none 0 0, .int .i64 0, .int .i64 0, .int .i64 0, .slice none 0 0, .int .i64 0, .int .i64 0] 30 (0, 0))) : (w.cell? ⟨r, 0, none⟩ = some (.int .i64 0) ∧ w.cell? ⟨r, 1, none⟩ = some (.slice none 0 0) ∧ w.cell? ⟨r, 2, none⟩ = some (.int .i64 0) ∧ w.cell? ⟨r, 3, none⟩ = some (.int .i64 0) ∧ w.cell? ⟨r, 4, none⟩ = some (.int .i64 0) ∧ w.cell? ⟨r, 5, none⟩ = some (.slice none 0 0) ∧ w.cell? ⟨r, 6, none⟩ = some (.int .i64 0) ∧ w.cell? ⟨r, 7, none⟩ = some (.int .i64 0)) ∧ w.frozen? ⟨r, 0, none⟩ = false ∧ w.frozen? ⟨r, 1, none⟩ = false ∧ w.frozen? ⟨r, 2, none⟩ = false ∧ w.frozen? ⟨r, 3, none⟩ = false ∧ w.frozen? ⟨r, 4, none⟩ = false ∧ w.frozen? ⟨r, 5, none⟩ = false ∧ w.frozen? ⟨r, 6, none⟩ = false ∧ w.frozen? ⟨r, 7, none⟩ = false := by
  simp [World.cell?, World.frozen?, h]
theorem peek_zero {w w1 : World} (R : w1.heap[w.heap.size + 1]? = some (.cells #[.int .i64 0, .slice none 0 0, .int .i64 0, .int .i64 0, .int .i64 0, .slice none 0 0, .int .i64 0, .int .i64 0] 30 (0, 0))) (B : Below w.heap.size w w1) :
    (setAll w1 (w.heap.size + 1) 0 [.int .i64 0, .slice none 0 0, .int .i64 0, .int .i64 0, .int .i64 0, .slice none 0 0, .int .i64 0, .int .i64 0]).heap[w.heap.size + 1]? = some (.cells #[.int .i64 0, .slice none 0 0, .int .i64 0, .int .i64 0, .int .i64 0, .slice none 0 0, .int .i64 0, .int .i64 0] 30 (0, 0)) ∧ WrPeek (In w.heap.size (setAll w1 (w.heap.size + 1) 0 [.int .i64 0, .slice none 0 0, .int .i64 0, .int .i64 0, .int .i64 0, .slice none 0 0, .int .i64 0, .int .i64 0]).heap.size) (setAll w1 (w.heap.size + 1) 0 [.int .i64 0, .slice none 0 0, .int .i64 0, .int .i64 0, .int .i64 0, .slice none 0 0, .int .i64 0, .int .i64 0]) (.agg #[.int .i64 0, .slice none 0 0, .int .i64 0, .int .i64 0, .int .i64 0, .slice none 0 0, .int .i64 0, .int .i64 0]) ⟨0, [], 0, 0, 0, [], 0, 0⟩ ∧ Below w.heap.size w (setAll w1 (w.heap.size + 1) 0 [.int .i64 0, .slice none 0 0, .int .i64 0, .int .i64 0, .int .i64 0, .slice none 0 0, .int .i64 0, .int .i64 0]) :=
  peek_laid (P := ⟨0, [], 0, 0, 0, [], 0, 0⟩) (S1 := fun _ => False) (S5 := fun _ => False) (p1 := none) (p5 := none) (c1 := 0) (c5 := 0) (wr_none _ _) (wr_none _ _) (fun _ h => h.elim) (fun _ h => h.elim) (fun _ h => h.elim) (by decide) (by decide) (by decide) (by decide) (by decide) (by decide) _ rfl R rfl (Nat.le_succ _) B
set_option maxRecDepth 100000 in
set_option maxHeartbeats 2000000 in
theorem sPeekOf_any (v : Value) (D : MGame) (me : Int) (w : World) (h : RdGame w v D) (hf : D.Few) (wm : (Lit.int .i64 me).wf = true) :
    Calls Tryz.prog 6 #[v, .int .i64 me] w fun e w' => ∃ v', e = .returned (.tuple #[v', .bool (peekB D me)]) ∧ WrPeek (In w.heap.size w'.heap.size) w' v' (peekM D me) ∧ Below w.heap.size w w' := by
  have h00 := h
  obtain ⟨p4, p5, p8, p9, p10, c4, c5, c8, c9, c10, b9, b10, rfl, h0, h8, h9, h10, wf0, wf1, wf2⟩ := h
  obtain ⟨f0, f8, fs8, f9, f10⟩ := id hf
  have HF := Lib.hid (fun wx (hb : Below w.heap.size w wx) => sIsGame_any _ D wx (h00.below hb) hf _ rfl)
  have HC := Lib.hid (fun wx (hb : Below w.heap.size w wx) => sCardsHeld_any _ D wx (h00.below hb) hf)
  have HI := Lib.hid (fun wx => inM_any me 0 ((D.hands.length : Int) - 1) wx _ rfl)
  have HS := Lib.hid (fun v zs b wx (h : RdAt .i64 wx v zs b) (hl : zs.length ≤ 1048576) => sSorted_any v zs b wx h hl)
  have Hrow := Lib.hid (fun wx (hb : Below w.heap.size w wx) j (hj : j < D.hands.length) => (h8.below hb).row hj)
  have H10 := Lib.hid (fun wx (hb : Below w.heap.size w wx) => (h10.below hb).open)
  have Hsum : Hid (∀ j (hj : j < D.hands.length), D.hands[j].length ≤ 1048576) := Lib.hid (fun j hj => Nat.le_trans (len_le_sum D.hands hj) fs8)
  have Hwf := Lib.hid (And.intro wf0 (And.intro wf1 (And.intro (And.intro f8 (And.intro f9 f10)) (And.intro h10.wf wm))))
  have H2 := Lib.hid (fun w1 o1 o2 bb => two_boxesR (w := w) (w1 := w1) (o1 := o1) (o2 := o2) bb)
  have B0 : ∀ o1 o2, Below w.heap.size w ((w.alloc o1).alloc o2) := fun o1 o2 => ((Below.refl w.heap.size w).alloc (Nat.le_refl _) o1).alloc (by simp) o2
  clear h00 h0 h8 h9 h10 hf f0 fs8 f9 wf0 wf1 wf2 wm
  go_enter Tryz.func6, Tryz.ntmps6
  go_wp2_with fail
  refine (HF.out _ (B0 _ _)).mono ?_
  rintro e w1 ⟨rfl, B1⟩
  obtain ⟨Bw1, G1, R1⟩ := H2.out _ _ _ B1
  have l1 : w.heap.size + 1 < w1.heap.size := (Array.getElem?_eq_some_iff.1 R1).1
  clear B1
  obtain ⟨k0, k1, k2, k3, k4, k5, k6, k7, k8, k9, k10, k11, k12, k13⟩ := SGame_cells G1
  have HZ := Lib.hid (peek_zero R1 Bw1)
  cases hq : gameB D with
  | false =>
    have hb := Lib.hid (peek_0 (me := me) hq)
    have hm := Lib.hid (peekM_f hb.out)
    obtain ⟨⟨y0, y1, y2, y3, y4, y5, y6, y7⟩, x0, x1, x2, x3, x4, x5, x6, x7⟩ := peek_box R1
    clear hq G1 R1
    go_wp2_with fail
    refine bodyPost_ret (results_row_tmp rfl _ _ (w.heap.size + 1) _ _ _ _ rfl HZ.out.1 Tryz.underlying30 rfl (by kernel_rfl)) rfl ?_
    refine ⟨.agg #[.int .i64 0, .slice none 0 0, .int .i64 0, .int .i64 0, .int .i64 0, .slice none 0 0, .int .i64 0, .int .i64 0], ?_, ?_, HZ.out.2.2⟩
    · rw [hb.out]; rfl
    · rw [hm.out]; exact HZ.out.2.1
  | true =>
    by_cases hrg : 0 ≤ me ∧ me ≤ (D.hands.length : Int) - 1
    · rw [decide_eq_true hrg] at HI
      have hb := Lib.hid (peek_2 hq hrg)
      have hm := Lib.hid (peekM_t hb.out)
      obtain ⟨L, hL⟩ := game_heap hq
      obtain ⟨k, rfl⟩ : ∃ k : Nat, me = (k : Int) := ⟨me.toNat, by omega⟩
      have hk : k < D.hands.length := by omega
      obtain ⟨blk, off, cap, pr, cr, br, hv, hcr, hrr, -⟩ := Hrow.out w1 Bw1 k hk
      have ha := (Value.slice.inj hv).1
      clear hv
      subst ha
      obtain ⟨off2, cap2, hv2, hcc⟩ : ∃ off2 cap2, (Value.slice p10 D.heap.length c10) = .slice (some ⟨b10, off2, none⟩) D.heap.length cap2 ∧ ∀ j (hj : j < D.heap.length), w1.cell? ⟨b10, off2 + j, none⟩ = some (.int .i64 D.heap[j]) := by
        rcases H10.out w1 Bw1 with ⟨e, -⟩ | ⟨-, o, cc, hv, -, hc⟩
        · rw [e] at hL; simp at hL
        · exact ⟨o, cc, hv, hc⟩
      have ha2 := (Value.slice.inj hv2).1
      clear hv2
      subst ha2
      obtain ⟨top, htop⟩ : ∃ t, t = D.heap.getD (D.heap.length - 1) 0 := ⟨_, rfl⟩
      have hct : w1.cell? ⟨b10, off2 + L, none⟩ = some (.int .i64 top) := by
        rw [hcc L (by omega), htop, show D.heap.length - 1 = L from by omega]; simp [List.getD, show L < D.heap.length from by omega]
      have hwt : (Lit.int .i64 top).wf = true := Hwf.out.2.2.2.1 _ (by rw [htop, show D.heap.length - 1 = L from by omega, show D.heap.getD L 0 = D.heap[L]'(by omega) from by simp [List.getD, show L < D.heap.length from by omega]]; exact List.getElem_mem _)
      have hsm := Hsum.out k hk
      obtain ⟨zr, hzr⟩ : ∃ z, z = D.hands[k]'hk := ⟨_, rfl⟩
      rw [← hzr] at hcr hrr hsm
      have hzr2 : D.hands.getD ((k : Int).toNat) [] = zr := by rw [hzr]; simp [List.getD, hk]
      have HP : Hid (peekM D (k : Int) = ⟨(k : Int), sortI zr, top, D.heap.length, D.stock.length, lensI D.hands, D.turn, D.moves⟩) := Lib.hid (by rw [hm.out, hzr2, htop])
      have HSr : Hid (∀ wx, Below w1.heap.size w1 wx → Calls Tryz.prog 22 #[.slice pr zr.length cr] wx fun e w' => ∃ v' b', e = .returned v' ∧ wx.heap.size ≤ b' ∧ WrAt .i64 w' v' (sortI zr) b' ∧ Below wx.heap.size wx w') := Lib.hid (fun wx hb => HS.out _ zr _ wx (hrr.below hb) hsm)
      have HCr : Hid (∀ wx, Below w1.heap.size w1 wx → Calls Tryz.prog 23 #[.agg #[.int .i64 D.rules.players, .int .i64 D.rules.each, .bool D.rules.sameSuit, .bool D.rules.sameRank, .slice p4 D.rules.wild.length c4, .slice p5 D.rules.skip.length c5, .int .i64 D.rules.take, .int .i64 D.rules.limit, .slice (some ⟨blk, off, none⟩) D.hands.length c8, .slice p9 D.stock.length c9, .slice (some ⟨b10, off2, none⟩) D.heap.length c10, .int .i64 D.turn, .int .i64 D.moves, .int .i64 D.passes]] wx fun e w' => ∃ v' b', e = .returned v' ∧ wx.heap.size ≤ b' ∧ WrAt .i64 w' v' (lensI D.hands) b' ∧ Below wx.heap.size wx w') := Lib.hid (fun wx hb => HC.out wx (Bw1.trans (hb.mono Bw1.size)))
      have HG : Hid (∀ wx, Below w1.heap.size w1 wx → (fun w' => w'.cell? ⟨w.heap.size, 0, none⟩ = some (.int .i64 D.rules.players) ∧ w'.cell? ⟨w.heap.size, 1, none⟩ = some (.int .i64 D.rules.each) ∧ w'.cell? ⟨w.heap.size, 2, none⟩ = some (.bool D.rules.sameSuit) ∧ w'.cell? ⟨w.heap.size, 3, none⟩ = some (.bool D.rules.sameRank) ∧ w'.cell? ⟨w.heap.size, 4, none⟩ = some (.slice p4 D.rules.wild.length c4) ∧ w'.cell? ⟨w.heap.size, 5, none⟩ = some (.slice p5 D.rules.skip.length c5) ∧ w'.cell? ⟨w.heap.size, 6, none⟩ = some (.int .i64 D.rules.take) ∧ w'.cell? ⟨w.heap.size, 7, none⟩ = some (.int .i64 D.rules.limit) ∧ w'.cell? ⟨w.heap.size, 8, none⟩ = some (.slice (some ⟨blk, off, none⟩) D.hands.length c8) ∧ w'.cell? ⟨w.heap.size, 9, none⟩ = some (.slice p9 D.stock.length c9) ∧ w'.cell? ⟨w.heap.size, 10, none⟩ = some (.slice (some ⟨b10, off2, none⟩) D.heap.length c10) ∧ w'.cell? ⟨w.heap.size, 11, none⟩ = some (.int .i64 D.turn) ∧ w'.cell? ⟨w.heap.size, 12, none⟩ = some (.int .i64 D.moves) ∧ w'.cell? ⟨w.heap.size, 13, none⟩ = some (.int .i64 D.passes) ∧ w'.cell? ⟨blk, off + k, none⟩ = some (.slice pr zr.length cr) ∧ w'.cell? ⟨b10, off2 + L, none⟩ = some (.int .i64 top)) wx ∧ wx.heap[w.heap.size + 1]? = some (.cells #[.int .i64 0, .slice none 0 0, .int .i64 0, .int .i64 0, .int .i64 0, .slice none 0 0, .int .i64 0, .int .i64 0] 30 (0, 0))) := Lib.hid (fun wx hb => by
        obtain ⟨q0, q1, q2, q3, q4, q5, q6, q7, q8, q9, q10, q11, q12, q13⟩ := SGame_cells ((hb.block _ (by omega)).trans G1)
        exact ⟨⟨q0, q1, q2, q3, q4, q5, q6, q7, q8, q9, q10, q11, q12, q13, (hb.cell (World.block_lt_of_cell? _ _ hcr)).trans hcr, (hb.cell (World.block_lt_of_cell? _ _ hct)).trans hct⟩, (hb.block _ l1).trans R1⟩)
      have hf := Hwf.out.2.2.1
      have hwz : (Lit.int .i64 (D.heap.length : Int)).wf = true ∧ (Lit.int .i64 (D.stock.length : Int)).wf = true := ⟨WalkArith.wf_i64 (by have := hf.2.2; omega), WalkArith.wf_i64 (by have := hf.2.1; omega)⟩
      have Hwz := Lib.hid (And.intro hwt hwz)
      have HF := Lib.hid hf
      have HL3 : Hid (IntKind.i64.wrap ((D.heap.length : Int) - 1) = (L : Int) ∧ (L : Int) < (D.heap.length : Int) ∧ (k : Int) < (D.hands.length : Int) ∧ L ≤ 1048576 ∧ (0 : Int) ≤ (L : Int) ∧ (0 : Int) ≤ (k : Int)) := Lib.hid (by refine ⟨?_, by omega, by omega, by omega, by omega, by omega⟩; rw [IntWalk.i64_in _ (by omega)]; omega)
      have hne1 : blk ≠ w.heap.size + 1 := by
        obtain ⟨bk, o, _, _, _, _, hv, hc, -, -⟩ := Hrow.out w (Below.refl _ _) k hk
        have e := (Value.slice.inj hv).1
        have hlt : bk < w.heap.size := World.block_lt_of_cell? _ _ hc
        simp only [Option.some.injEq, Addr.mk.injEq, and_true] at e
        omega
      have hne2 : b10 ≠ w.heap.size + 1 := by
        rcases H10.out w (Below.refl _ _) with ⟨e, -⟩ | ⟨-, o, cc, hv, -, hc⟩
        · rw [e] at hL; simp at hL
        · have hlt : b10 < w.heap.size := World.block_lt_of_cell? _ _ (hc 0 (by omega))
          omega
      have hne3 : w.heap.size + 1 ≠ blk := Ne.symm hne1
      have hne4 : w.heap.size + 1 ≠ b10 := Ne.symm hne2
      have HLl := Lib.hid l1
      clear hq G1 R1 hrg hwt hsm hzr hzr2 hrr htop hcc hf hwz hL l1 hk
      go_wp2_with fail
      refine (HI.out _).mono ?_
      rintro e _w ⟨rfl, rfl⟩
      obtain ⟨hln, hl2, hl3, hl4, hl5, hl6⟩ := HL3.out
      go_upto_region 3 with fail
      go_region_held3 (fun w' => w'.cell? ⟨w.heap.size, 0, none⟩ = some (.int .i64 D.rules.players) ∧ w'.cell? ⟨w.heap.size, 1, none⟩ = some (.int .i64 D.rules.each) ∧ w'.cell? ⟨w.heap.size, 2, none⟩ = some (.bool D.rules.sameSuit) ∧ w'.cell? ⟨w.heap.size, 3, none⟩ = some (.bool D.rules.sameRank) ∧ w'.cell? ⟨w.heap.size, 4, none⟩ = some (.slice p4 D.rules.wild.length c4) ∧ w'.cell? ⟨w.heap.size, 5, none⟩ = some (.slice p5 D.rules.skip.length c5) ∧ w'.cell? ⟨w.heap.size, 6, none⟩ = some (.int .i64 D.rules.take) ∧ w'.cell? ⟨w.heap.size, 7, none⟩ = some (.int .i64 D.rules.limit) ∧ w'.cell? ⟨w.heap.size, 8, none⟩ = some (.slice (some ⟨blk, off, none⟩) D.hands.length c8) ∧ w'.cell? ⟨w.heap.size, 9, none⟩ = some (.slice p9 D.stock.length c9) ∧ w'.cell? ⟨w.heap.size, 10, none⟩ = some (.slice (some ⟨b10, off2, none⟩) D.heap.length c10) ∧ w'.cell? ⟨w.heap.size, 11, none⟩ = some (.int .i64 D.turn) ∧ w'.cell? ⟨w.heap.size, 12, none⟩ = some (.int .i64 D.moves) ∧ w'.cell? ⟨w.heap.size, 13, none⟩ = some (.int .i64 D.passes) ∧ w'.cell? ⟨blk, off + k, none⟩ = some (.slice pr zr.length cr) ∧ w'.cell? ⟨b10, off2 + L, none⟩ = some (.int .i64 top)) (go_keep) (first
          | (go_at_call 22; refine (HSr.out _ (by first | exact (Below.refl _ _).drew | exact Bb2)).mono ?_; rintro e wa ⟨va, ba, rfl, hba, hwa, Ba⟩; obtain ⟨pa, ca, ea, -⟩ := id hwa; subst ea; have Ba2 : Below w1.heap.size w1 wa := (by first | exact (Below.refl _ _).drew.trans Ba | exact Bb2.trans (Ba.mono Bb2.size)); obtain ⟨⟨k0, k1, k2, k3, k4, k5, k6, k7, k8, k9, k10, k11, k12, k13, kr, kt⟩, R⟩ := HG.out wa Ba2; obtain ⟨⟨y0, y1, y2, y3, y4, y5, y6, y7⟩, x0, x1, x2, x3, x4, x5, x6, x7⟩ := peek_box R)
          | (go_at_call 23; refine (HCr.out _ (by first | exact (Below.refl _ _).drew | exact Ba2)).mono ?_; rintro e wb ⟨vb, bb, rfl, hbb, hwb, Bb⟩; obtain ⟨pb, cb, eb, -⟩ := id hwb; subst eb; have Bb2 : Below w1.heap.size w1 wb := (by first | exact (Below.refl _ _).drew.trans Bb | exact Ba2.trans (Bb.mono Ba2.size)); obtain ⟨⟨k0, k1, k2, k3, k4, k5, k6, k7, k8, k9, k10, k11, k12, k13, kr, kt⟩, R⟩ := HG.out wb Bb2; obtain ⟨⟨y0, y1, y2, y3, y4, y5, y6, y7⟩, x0, x1, x2, x3, x4, x5, x6, x7⟩ := peek_box R))
      all_goals
        rename_i hHd
        clear hHd
        first
        | (have q1 := Ba2.size; have q2 := Bb2.size; have q3 := HLl.out; have q4 := Bw1.size; have q5 := Bb.size
           have HX := Lib.hid (peek_laid (P := ⟨(k : Int), sortI zr, top, D.heap.length, D.stock.length, lensI D.hands, D.turn, D.moves⟩) (lo := w.heap.size) (w0 := w) (w := wb) (r := w.heap.size + 1) (S1 := In w1.heap.size wa.heap.size) (S5 := In wa.heap.size wb.heap.size) (p1 := pa) (p5 := pb) (c1 := ca) (c5 := cb) ((WrIn.of (lo := w1.heap.size) hwa hba).below Bb) (WrIn.of hwb hbb) (fun b hb => by obtain ⟨h1, h2⟩ := hb; exact ⟨by omega, by omega, by omega⟩) (fun b hb => by obtain ⟨h1, h2⟩ := hb; exact ⟨by omega, by omega, by omega⟩) (fun b hb hb2 => by obtain ⟨h1, h2⟩ := hb; obtain ⟨h3, h4⟩ := hb2; omega) Hwf.out.2.2.2.2 Hwz.out.1 Hwz.out.2.1 Hwz.out.2.2 Hwf.out.1 Hwf.out.2.1 [.int .i64 k, .slice pa (sortI zr).length ca, .int .i64 top, .int .i64 D.heap.length, .int .i64 D.stock.length, .slice pb (lensI D.hands).length cb, .int .i64 D.turn, .int .i64 D.moves] rfl R rfl (Nat.le_succ _) (Bw1.trans (Bb2.mono Bw1.size)))
           clear R q1 q2 q3 q4
           go_wp2_with fail
           refine bodyPost_ret (results_row_tmp rfl _ _ (w.heap.size + 1) _ _ _ _ rfl HX.out.1 Tryz.underlying30 rfl (by kernel_rfl)) rfl ?_
           refine ⟨.agg ⟨[.int .i64 k, .slice pa (sortI zr).length ca, .int .i64 top, .int .i64 D.heap.length, .int .i64 D.stock.length, .slice pb (lensI D.hands).length cb, .int .i64 D.turn, .int .i64 D.moves]⟩, ?_, ?_, HX.out.2.2⟩
           · rw [hb.out]; rfl
           · rw [HP.out]; exact HX.out.2.1)
        | (have q1 := Ba2.size; have q2 := Bb2.size; have q3 := HLl.out; have q4 := Bw1.size; have q5 := Ba.size
           have HX := Lib.hid (peek_laid (P := ⟨(k : Int), sortI zr, top, D.heap.length, D.stock.length, lensI D.hands, D.turn, D.moves⟩) (lo := w.heap.size) (w0 := w) (w := wa) (r := w.heap.size + 1) (S1 := In wb.heap.size wa.heap.size) (S5 := In w1.heap.size wb.heap.size) (p1 := pa) (p5 := pb) (c1 := ca) (c5 := cb) (WrIn.of hwa hba) ((WrIn.of (lo := w1.heap.size) hwb hbb).below Ba) (fun b hb => by obtain ⟨h1, h2⟩ := hb; exact ⟨by omega, by omega, by omega⟩) (fun b hb => by obtain ⟨h1, h2⟩ := hb; exact ⟨by omega, by omega, by omega⟩) (fun b hb hb2 => by obtain ⟨h1, h2⟩ := hb; obtain ⟨h3, h4⟩ := hb2; omega) Hwf.out.2.2.2.2 Hwz.out.1 Hwz.out.2.1 Hwz.out.2.2 Hwf.out.1 Hwf.out.2.1 [.int .i64 k, .slice pa (sortI zr).length ca, .int .i64 top, .int .i64 D.heap.length, .int .i64 D.stock.length, .slice pb (lensI D.hands).length cb, .int .i64 D.turn, .int .i64 D.moves] rfl R rfl (Nat.le_succ _) (Bw1.trans (Ba2.mono Bw1.size)))
           clear R q1 q2 q3 q4
           go_wp2_with fail
           refine bodyPost_ret (results_row_tmp rfl _ _ (w.heap.size + 1) _ _ _ _ rfl HX.out.1 Tryz.underlying30 rfl (by kernel_rfl)) rfl ?_
           refine ⟨.agg ⟨[.int .i64 k, .slice pa (sortI zr).length ca, .int .i64 top, .int .i64 D.heap.length, .int .i64 D.stock.length, .slice pb (lensI D.hands).length cb, .int .i64 D.turn, .int .i64 D.moves]⟩, ?_, ?_, HX.out.2.2⟩
           · rw [hb.out]; rfl
           · rw [HP.out]; exact HX.out.2.1)
    · rw [decide_eq_false hrg] at HI
      have hb := Lib.hid (peek_1 (D := D) hrg)
      have hm := Lib.hid (peekM_f hb.out)
      obtain ⟨⟨y0, y1, y2, y3, y4, y5, y6, y7⟩, x0, x1, x2, x3, x4, x5, x6, x7⟩ := peek_box R1
      clear hq G1 R1 hrg
      go_wp2_with fail
      refine (HI.out _).mono ?_
      rintro e _w ⟨rfl, rfl⟩
      go_wp2_with fail
      refine bodyPost_ret (results_row_tmp rfl _ _ (w.heap.size + 1) _ _ _ _ rfl HZ.out.1 Tryz.underlying30 rfl (by kernel_rfl)) rfl ?_
      refine ⟨.agg #[.int .i64 0, .slice none 0 0, .int .i64 0, .int .i64 0, .int .i64 0, .slice none 0 0, .int .i64 0, .int .i64 0], ?_, ?_, HZ.out.2.2⟩
      · rw [hb.out]; rfl
      · rw [hm.out]; exact HZ.out.2.1
set_option maxRecDepth 100000 in
set_option maxHeartbeats 2000000 in
theorem copyOf_any (v : Value) (D : MGame) (k : Nat) (w : World) (h : RdGame w v D) (hf : D.Few) (hq : peekB D (k : Int) = true) (hk : k < D.hands.length) (L : Nat) (hL : D.heap.length = L + 1) :
    Calls Tryz.prog 28 #[.agg #[.int .i64 k], v] w fun e w' => ∃ v', e = .returned v' ∧ WrPeek (In w.heap.size w'.heap.size) w' v' (peekM D k) ∧ Below w.heap.size w w' := by
  have hm := Lib.hid (peekM_t hq)
  obtain ⟨p4, p5, p8, p9, p10, c4, c5, c8, c9, c10, b9, b10, rfl, h0, h8, h9, h10, wf0, wf1, wf2⟩ := h
  obtain ⟨f0, f8, fs8, f9, f10⟩ := hf
  obtain ⟨blk, off, cap, pr, cr, br, hv, hcr0, hrr0, -⟩ := h8.row hk
  have ha := (Value.slice.inj hv).1
  clear hv
  subst ha
  have HS := Lib.hid (fun v zs b wx (h : RdAt .i64 wx v zs b) (hl : zs.length ≤ 1048576) => sorted_any v zs b wx h (Nat.le_trans hl (by decide)))
  have HZs := Lib.hid (fun wx (hb : Below w.heap.size w wx) => sizesOf_any _ D.hands wx (h8.below hb) f8 fs8)
  obtain ⟨off2, cap2, hv2, hcc⟩ : ∃ off2 cap2, (Value.slice p10 D.heap.length c10) = .slice (some ⟨b10, off2, none⟩) D.heap.length cap2 ∧ ∀ j (hj : j < D.heap.length), w.cell? ⟨b10, off2 + j, none⟩ = some (.int .i64 D.heap[j]) := by
    rcases h10.open with ⟨e, -⟩ | ⟨-, o, cc, hv, -, hc⟩
    · rw [e] at hL; simp at hL
    · exact ⟨o, cc, hv, hc⟩
  have ha2 := (Value.slice.inj hv2).1
  clear hv2
  subst ha2
  obtain ⟨top, htop⟩ : ∃ t, t = D.heap.getD (D.heap.length - 1) 0 := ⟨_, rfl⟩
  have hct0 : w.cell? ⟨b10, off2 + L, none⟩ = some (.int .i64 top) := by
    rw [hcc L (by omega), htop, show D.heap.length - 1 = L from by omega]; simp [List.getD, show L < D.heap.length from by omega]
  have hwt : (Lit.int .i64 top).wf = true := h10.wf _ (by rw [htop, show D.heap.length - 1 = L from by omega, show D.heap.getD L 0 = D.heap[L]'(by omega) from by simp [List.getD, show L < D.heap.length from by omega]]; exact List.getElem_mem _)
  have hsm : (D.hands[k]'hk).length ≤ 1048576 := Nat.le_trans (len_le_sum D.hands hk) fs8
  obtain ⟨zr, hzr⟩ : ∃ z, z = D.hands[k]'hk := ⟨_, rfl⟩
  rw [← hzr] at hcr0 hrr0 hsm
  have hzr2 : D.hands.getD ((k : Int).toNat) [] = zr := by rw [hzr]; simp [List.getD, hk]
  have HP : Hid (peekM D (k : Int) = ⟨(k : Int), sortI zr, top, D.heap.length, D.stock.length, lensI D.hands, D.turn, D.moves⟩) := Lib.hid (by rw [hm.out, hzr2, htop])
  have Hwf := Lib.hid (And.intro wf0 (And.intro wf1 (And.intro trivial (And.intro trivial (WalkArith.wf_i64 (n := (k : Int)) (by omega))))))
  have Hwz := Lib.hid (And.intro hwt (And.intro (WalkArith.wf_i64 (n := (D.heap.length : Int)) (by omega)) (WalkArith.wf_i64 (n := (D.stock.length : Int)) (by omega))))
  have HL3 : Hid (IntKind.i64.wrap ((D.heap.length : Int) - 1) = (L : Int) ∧ (L : Int) < (D.heap.length : Int) ∧ (k : Int) < (D.hands.length : Int) ∧ L ≤ 1048576 ∧ (0 : Int) ≤ (L : Int) ∧ (0 : Int) ≤ (k : Int)) := Lib.hid (by refine ⟨?_, by omega, by omega, by omega, by omega, by omega⟩; rw [IntWalk.i64_in _ (by omega)]; omega)
  have hlt1 : blk < w.heap.size := World.block_lt_of_cell? _ _ hcr0
  have hlt2 : b10 < w.heap.size := World.block_lt_of_cell? _ _ hct0
  have hne1 : blk ≠ w.heap.size + 2 := by omega
  have hne2 : b10 ≠ w.heap.size + 2 := by omega
  have hne3 : w.heap.size + 2 ≠ blk := by omega
  have hne4 : w.heap.size + 2 ≠ b10 := by omega
  have hne5 : w.heap.size + 1 + 1 ≠ w.heap.size := by omega
  have hne6 : w.heap.size ≠ w.heap.size + 1 + 1 := by omega
  obtain ⟨w1, hw1⟩ : ∃ W, W = ((w.alloc (.cells #[.int .i64 k] 54)).alloc (.cells #[.int .i64 D.rules.players, .int .i64 D.rules.each, .bool D.rules.sameSuit, .bool D.rules.sameRank, .slice p4 D.rules.wild.length c4, .slice p5 D.rules.skip.length c5, .int .i64 D.rules.take, .int .i64 D.rules.limit, .slice (some ⟨blk, off, none⟩) D.hands.length c8, .slice p9 D.stock.length c9, .slice (some ⟨b10, off2, none⟩) D.heap.length c10, .int .i64 D.turn, .int .i64 D.moves, .int .i64 D.passes] 35)).alloc (.cells #[.int .i64 0, .slice none 0 0, .int .i64 0, .int .i64 0, .int .i64 0, .slice none 0 0, .int .i64 0, .int .i64 0] 30) := ⟨_, rfl⟩
  obtain ⟨M1, G1, R1⟩ := threeBoxes w (.cells #[.int .i64 k] 54) (.cells #[.int .i64 D.rules.players, .int .i64 D.rules.each, .bool D.rules.sameSuit, .bool D.rules.sameRank, .slice p4 D.rules.wild.length c4, .slice p5 D.rules.skip.length c5, .int .i64 D.rules.take, .int .i64 D.rules.limit, .slice (some ⟨blk, off, none⟩) D.hands.length c8, .slice p9 D.stock.length c9, .slice (some ⟨b10, off2, none⟩) D.heap.length c10, .int .i64 D.turn, .int .i64 D.moves, .int .i64 D.passes] 35) (.cells #[.int .i64 0, .slice none 0 0, .int .i64 0, .int .i64 0, .int .i64 0, .slice none 0 0, .int .i64 0, .int .i64 0] 30)
  rw [← hw1] at M1 G1 R1
  have Bw1 : Below w.heap.size w w1 := by rw [hw1]; exact (((Below.refl _ _).alloc (Nat.le_refl _) _).alloc (by simp) _).alloc (by simp; omega) _
  have l1 : w.heap.size + 2 < w1.heap.size := (Array.getElem?_eq_some_iff.1 R1).1
  have HW1 := Lib.hid hw1
  have hcr := (Bw1.cell (World.block_lt_of_cell? _ _ hcr0)).trans hcr0
  have hct := (Bw1.cell (World.block_lt_of_cell? _ _ hct0)).trans hct0
  have hrr := hrr0.below Bw1
  obtain ⟨k0, k1, k2, k3, k4, k5, k6, k7, k8, k9, k10, k11, k12, k13⟩ := SGame_cells G1
  have km := box_cell M1 0
  simp at km
  have HSr : Hid (∀ wx, Below w1.heap.size w1 wx → Calls Tryz.prog 49 #[.slice pr zr.length cr] wx fun e w' => ∃ v' b', e = .returned v' ∧ wx.heap.size ≤ b' ∧ WrAt .i64 w' v' (sortI zr) b' ∧ Below wx.heap.size wx w') := Lib.hid (fun wx hb => HS.out _ zr _ wx (hrr.below hb) hsm)
  have HCr : Hid (∀ wx, Below w1.heap.size w1 wx → Calls Tryz.prog 50 #[.slice (some ⟨blk, off, none⟩) D.hands.length c8] wx fun e w' => ∃ v' b', e = .returned v' ∧ wx.heap.size ≤ b' ∧ WrAt .i64 w' v' (lensI D.hands) b' ∧ Below wx.heap.size wx w') := Lib.hid (fun wx hb => HZs.out wx (Bw1.trans (hb.mono Bw1.size)))
  have HG : Hid (∀ wx, Below w1.heap.size w1 wx → (fun w' => w'.cell? ⟨w.heap.size, 0, none⟩ = some (.int .i64 k) ∧ w'.cell? ⟨w.heap.size + 1, 8, none⟩ = some (.slice (some ⟨blk, off, none⟩) D.hands.length c8) ∧ w'.cell? ⟨w.heap.size + 1, 9, none⟩ = some (.slice p9 D.stock.length c9) ∧ w'.cell? ⟨w.heap.size + 1, 10, none⟩ = some (.slice (some ⟨b10, off2, none⟩) D.heap.length c10) ∧ w'.cell? ⟨w.heap.size + 1, 11, none⟩ = some (.int .i64 D.turn) ∧ w'.cell? ⟨w.heap.size + 1, 12, none⟩ = some (.int .i64 D.moves) ∧ w'.cell? ⟨blk, off + k, none⟩ = some (.slice pr zr.length cr) ∧ w'.cell? ⟨b10, off2 + L, none⟩ = some (.int .i64 top)) wx ∧ wx.heap[w.heap.size + 2]? = some (.cells #[.int .i64 0, .slice none 0 0, .int .i64 0, .int .i64 0, .int .i64 0, .slice none 0 0, .int .i64 0, .int .i64 0] 30 (0, 0))) := Lib.hid (fun wx hb => by
    obtain ⟨q0, q1, q2, q3, q4, q5, q6, q7, q8, q9, q10, q11, q12, q13⟩ := SGame_cells ((hb.block _ (show w.heap.size + 1 < w1.heap.size by omega)).trans G1)
    have qm := box_cell ((hb.block _ (show w.heap.size < w1.heap.size by omega)).trans M1) 0
    simp at qm
    exact ⟨⟨qm, q8, q9, q10, q11, q12, (hb.cell (World.block_lt_of_cell? _ _ hcr)).trans hcr, (hb.cell (World.block_lt_of_cell? _ _ hct)).trans hct⟩, (hb.block _ l1).trans R1⟩)
  have HLl := Lib.hid l1
  clear hq h0 h8 h9 h10 wf0 wf1 wf2 f0 fs8 f9 hcr0 hct0 hrr0 hwt hsm hzr hzr2 hrr htop hcc hL l1 hk hw1 M1 G1 R1 hlt1 hlt2 hm k0 k1 k2 k3 k4 k5 k6 k7 k13
  obtain ⟨hln, hl2, hl3, hl4, hl5, hl6⟩ := HL3.out
  go_enter Tryz.func28, Tryz.ntmps28
  go_upto_region 1 with fail
  rw [← HW1.out]
  go_region_held3 (fun w' => w'.cell? ⟨w.heap.size, 0, none⟩ = some (.int .i64 k) ∧ w'.cell? ⟨w.heap.size + 1, 8, none⟩ = some (.slice (some ⟨blk, off, none⟩) D.hands.length c8) ∧ w'.cell? ⟨w.heap.size + 1, 9, none⟩ = some (.slice p9 D.stock.length c9) ∧ w'.cell? ⟨w.heap.size + 1, 10, none⟩ = some (.slice (some ⟨b10, off2, none⟩) D.heap.length c10) ∧ w'.cell? ⟨w.heap.size + 1, 11, none⟩ = some (.int .i64 D.turn) ∧ w'.cell? ⟨w.heap.size + 1, 12, none⟩ = some (.int .i64 D.moves) ∧ w'.cell? ⟨blk, off + k, none⟩ = some (.slice pr zr.length cr) ∧ w'.cell? ⟨b10, off2 + L, none⟩ = some (.int .i64 top)) (go_keep) (first
      | (go_at_call 49; refine (HSr.out _ (by first | exact (Below.refl _ _).drew | exact Bb2)).mono ?_; rintro e wa ⟨va, ba, rfl, hba, hwa, Ba⟩; obtain ⟨pa, ca, ea, -⟩ := id hwa; subst ea; have Ba2 : Below w1.heap.size w1 wa := (by first | exact (Below.refl _ _).drew.trans Ba | exact Bb2.trans (Ba.mono Bb2.size)); obtain ⟨⟨km, k8, k9, k10, k11, k12, kr, kt⟩, R⟩ := HG.out wa Ba2; obtain ⟨⟨y0, y1, y2, y3, y4, y5, y6, y7⟩, x0, x1, x2, x3, x4, x5, x6, x7⟩ := peek_box R)
      | (go_at_call 50; refine (HCr.out _ (by first | exact (Below.refl _ _).drew | exact Ba2)).mono ?_; rintro e wb ⟨vb, bb, rfl, hbb, hwb, Bb⟩; obtain ⟨pb, cb, eb, -⟩ := id hwb; subst eb; have Bb2 : Below w1.heap.size w1 wb := (by first | exact (Below.refl _ _).drew.trans Bb | exact Ba2.trans (Bb.mono Ba2.size)); obtain ⟨⟨km, k8, k9, k10, k11, k12, kr, kt⟩, R⟩ := HG.out wb Bb2; obtain ⟨⟨y0, y1, y2, y3, y4, y5, y6, y7⟩, x0, x1, x2, x3, x4, x5, x6, x7⟩ := peek_box R))
  all_goals
    rename_i hHd
    clear hHd
    first
    | (have q1 := Ba2.size; have q2 := Bb2.size; have q3 := HLl.out; have q4 := Bw1.size; have q5 := Bb.size
       have HX := Lib.hid (peek_laid (P := ⟨(k : Int), sortI zr, top, D.heap.length, D.stock.length, lensI D.hands, D.turn, D.moves⟩) (lo := w.heap.size) (w0 := w) (w := wb) (r := w.heap.size + 2) (S1 := In w1.heap.size wa.heap.size) (S5 := In wa.heap.size wb.heap.size) (p1 := pa) (p5 := pb) (c1 := ca) (c5 := cb) ((WrIn.of (lo := w1.heap.size) hwa hba).below Bb) (WrIn.of hwb hbb) (fun b hb => by obtain ⟨h1, h2⟩ := hb; exact ⟨by omega, by omega, by omega⟩) (fun b hb => by obtain ⟨h1, h2⟩ := hb; exact ⟨by omega, by omega, by omega⟩) (fun b hb hb2 => by obtain ⟨h1, h2⟩ := hb; obtain ⟨h3, h4⟩ := hb2; omega) Hwf.out.2.2.2.2 Hwz.out.1 Hwz.out.2.1 Hwz.out.2.2 Hwf.out.1 Hwf.out.2.1 [.int .i64 k, .slice pa (sortI zr).length ca, .int .i64 top, .int .i64 D.heap.length, .int .i64 D.stock.length, .slice pb (lensI D.hands).length cb, .int .i64 D.turn, .int .i64 D.moves] rfl R rfl (Nat.le_add_right _ 2) (Bw1.trans (Bb2.mono Bw1.size)))
       clear R q1 q2 q3 q4
       go_wp2_with fail
       refine bodyPost_ret (results_cell_row rfl _ _ (w.heap.size + 2) _ _ _ _ rfl HX.out.1 Tryz.underlying30 rfl (by kernel_rfl)) rfl ?_
       refine ⟨.agg ⟨[.int .i64 k, .slice pa (sortI zr).length ca, .int .i64 top, .int .i64 D.heap.length, .int .i64 D.stock.length, .slice pb (lensI D.hands).length cb, .int .i64 D.turn, .int .i64 D.moves]⟩, rfl, ?_, HX.out.2.2⟩
       rw [HP.out]; exact HX.out.2.1)
    | (have q1 := Ba2.size; have q2 := Bb2.size; have q3 := HLl.out; have q4 := Bw1.size; have q5 := Ba.size
       have HX := Lib.hid (peek_laid (P := ⟨(k : Int), sortI zr, top, D.heap.length, D.stock.length, lensI D.hands, D.turn, D.moves⟩) (lo := w.heap.size) (w0 := w) (w := wa) (r := w.heap.size + 2) (S1 := In wb.heap.size wa.heap.size) (S5 := In w1.heap.size wb.heap.size) (p1 := pa) (p5 := pb) (c1 := ca) (c5 := cb) (WrIn.of hwa hba) ((WrIn.of (lo := w1.heap.size) hwb hbb).below Ba) (fun b hb => by obtain ⟨h1, h2⟩ := hb; exact ⟨by omega, by omega, by omega⟩) (fun b hb => by obtain ⟨h1, h2⟩ := hb; exact ⟨by omega, by omega, by omega⟩) (fun b hb hb2 => by obtain ⟨h1, h2⟩ := hb; obtain ⟨h3, h4⟩ := hb2; omega) Hwf.out.2.2.2.2 Hwz.out.1 Hwz.out.2.1 Hwz.out.2.2 Hwf.out.1 Hwf.out.2.1 [.int .i64 k, .slice pa (sortI zr).length ca, .int .i64 top, .int .i64 D.heap.length, .int .i64 D.stock.length, .slice pb (lensI D.hands).length cb, .int .i64 D.turn, .int .i64 D.moves] rfl R rfl (Nat.le_add_right _ 2) (Bw1.trans (Ba2.mono Bw1.size)))
       clear R q1 q2 q3 q4
       go_wp2_with fail
       refine bodyPost_ret (results_cell_row rfl _ _ (w.heap.size + 2) _ _ _ _ rfl HX.out.1 Tryz.underlying30 rfl (by kernel_rfl)) rfl ?_
       refine ⟨.agg ⟨[.int .i64 k, .slice pa (sortI zr).length ca, .int .i64 top, .int .i64 D.heap.length, .int .i64 D.stock.length, .slice pb (lensI D.hands).length cb, .int .i64 D.turn, .int .i64 D.moves]⟩, rfl, ?_, HX.out.2.2⟩
       rw [HP.out]; exact HX.out.2.1)
def maskI (D : MGame) (me : Int) : Int := if peekB D me = true then me else 0
theorem maskI_t {D : MGame} {me : Int} (h : peekB D me = true) : maskI D me = me := if_pos h
theorem maskI_f {D : MGame} {me : Int} (h : peekB D me = false) : maskI D me = 0 := if_neg (by rw [h]; decide)
set_option maxRecDepth 100000 in
set_option maxHeartbeats 2000000 in
theorem maskFor_any (v : Value) (D : MGame) (me : Int) (w : World) (h : RdGame w v D) (hf : D.Few) (hG : Grps w) :
    Calls Tryz.prog 27 #[v, .int .i64 me] w fun e w' => e = .returned (.tuple #[.agg #[.int .i64 (maskI D me)], .bool (peekB D me)]) ∧ Below w.heap.size w w' := by
  have h00 := h
  obtain ⟨p4, p5, p8, p9, p10, c4, c5, c8, c9, c10, b9, b10, rfl, h0, h8, h9, h10, wf0, wf1, wf2⟩ := h
  obtain ⟨f0, f8, fs8, f9, f10⟩ := id hf
  have HF := Lib.hid (fun wx (hb : Below w.heap.size w wx) => isGame_any _ D wx (h00.below hb) hf (hG.below hb) _ rfl)
  have HI := Lib.hid (fun wx => inR_any me 0 ((D.hands.length : Int) - 1) wx _ rfl)
  have H2 := Lib.hid (fun w1 o1 o2 bb => two_boxesR (w := w) (w1 := w1) (o1 := o1) (o2 := o2) bb)
  have B0 : ∀ o1 o2, Below w.heap.size w ((w.alloc o1).alloc o2) := fun o1 o2 => ((Below.refl w.heap.size w).alloc (Nat.le_refl _) o1).alloc (by simp) o2
  clear h00 h0 h8 h9 h10 hf f0 fs8 f9 f10 wf0 wf1 wf2
  go_enter Tryz.func27, Tryz.ntmps27
  go_wp2_with fail
  refine (HF.out _ (B0 _ _)).mono ?_
  rintro e w1 ⟨rfl, B1⟩
  obtain ⟨Bw1, G1, R1⟩ := H2.out _ _ _ B1
  clear B1
  obtain ⟨k0, k1, k2, k3, k4, k5, k6, k7, k8, k9, k10, k11, k12, k13⟩ := SGame_cells G1
  have y0 := box_cell R1 0
  have x0 := box_free R1 0
  simp at y0
  have HN : Hid (∀ y, (w1.setCell ⟨w.heap.size + 1, 0, none⟩ y).heap[w.heap.size + 1]? = some (.cells #[y] 54 (0, 0)) ∧ Below w.heap.size w (w1.setCell ⟨w.heap.size + 1, 0, none⟩ y)) := Lib.hid (fun y => ⟨box_set R1 0 y, Bw1.setCell (Nat.le_succ _) _⟩)
  cases hq : gameB D with
  | false =>
    have hb := Lib.hid (peek_0 (me := me) hq)
    clear hq G1 R1
    go_wp2_with fail
    refine bodyPost_ret (results_row_tmp rfl _ _ (w.heap.size + 1) _ _ _ _ rfl (HN.out _).1 Tryz.underlying54 rfl (by kernel_rfl)) rfl ⟨?_, (HN.out _).2⟩
    rw [hb.out, maskI_f hb.out]; rfl
  | true =>
    by_cases hrg : 0 ≤ me ∧ me ≤ (D.hands.length : Int) - 1
    · rw [decide_eq_true hrg] at HI
      have hb := Lib.hid (peek_2 hq hrg)
      clear hq G1 R1 hrg
      go_wp2_with fail
      refine (HI.out _).mono ?_
      rintro e _w ⟨rfl, rfl⟩
      go_wp2_with fail
      refine bodyPost_ret (results_row_tmp rfl _ _ (w.heap.size + 1) _ _ _ _ rfl (HN.out _).1 Tryz.underlying54 rfl (by kernel_rfl)) rfl ⟨?_, (HN.out _).2⟩
      rw [hb.out, maskI_t hb.out]; rfl
    · rw [decide_eq_false hrg] at HI
      have hb := Lib.hid (peek_1 (D := D) hrg)
      clear hq G1 R1 hrg
      go_wp2_with fail
      refine (HI.out _).mono ?_
      rintro e _w ⟨rfl, rfl⟩
      go_wp2_with fail
      refine bodyPost_ret (results_row_tmp rfl _ _ (w.heap.size + 1) _ _ _ _ rfl (HN.out _).1 Tryz.underlying54 rfl (by kernel_rfl)) rfl ⟨?_, (HN.out _).2⟩
      rw [hb.out, maskI_f hb.out]; rfl
set_option maxRecDepth 100000 in
set_option maxHeartbeats 2000000 in
theorem peekOf_any (v : Value) (D : MGame) (me : Int) (w : World) (h : RdGame w v D) (hf : D.Few) (hG : Grps w) :
    Calls Tryz.prog 8 #[v, .int .i64 me] w fun e w' => ∃ v', e = .returned (.tuple #[v', .bool (peekB D me)]) ∧ WrPeek (In w.heap.size w'.heap.size) w' v' (peekM D me) ∧ Below w.heap.size w w' := by
  have h00 := h
  obtain ⟨p4, p5, p8, p9, p10, c4, c5, c8, c9, c10, b9, b10, rfl, h0, h8, h9, h10, wf0, wf1, wf2⟩ := h
  have HF := Lib.hid (fun wx (hb : Below w.heap.size w wx) => maskFor_any _ D me wx (h00.below hb) hf (hG.below hb))
  have HK := Lib.hid (fun (k : Nat) (e : me = (k : Int)) (hq : peekB D (k : Int) = true) (hk : k < D.hands.length) L hL wx (hb : Below w.heap.size w wx) => copyOf_any _ D k wx (h00.below hb) hf hq hk L hL)
  have H2 := Lib.hid (fun w1 o1 o2 bb => two_boxesR (w := w) (w1 := w1) (o1 := o1) (o2 := o2) bb)
  have B0 : ∀ o1 o2, Below w.heap.size w ((w.alloc o1).alloc o2) := fun o1 o2 => ((Below.refl w.heap.size w).alloc (Nat.le_refl _) o1).alloc (by simp) o2
  clear h00 h0 h8 h9 h10 hf wf0 wf1 wf2
  go_enter Tryz.func8, Tryz.ntmps8
  go_wp2_with fail
  refine (HF.out _ (B0 _ _)).mono ?_
  rintro e w1 ⟨rfl, B1⟩
  obtain ⟨Bw1, G1, R1⟩ := H2.out _ _ _ B1
  clear B1
  have HB := Lib.hid (fun o => Bw1.alloc Bw1.size o)
  cases hq : peekB D me with
  | false =>
    rw [maskI_f hq]
    have HZ := Lib.hid (fun o => peek_zero (w1 := w1.alloc o) ((Below.heap_alloc _ _ _ (Array.getElem?_eq_some_iff.1 R1).1).trans R1) (HB.out o))
    have hb := Lib.hid hq
    have hm := Lib.hid (peekM_f hq)
    have HY := Lib.hid (fun o => peek_box (w := w1.alloc o) ((Below.heap_alloc _ _ _ (Array.getElem?_eq_some_iff.1 R1).1).trans R1))
    obtain ⟨⟨y0, y1, y2, y3, y4, y5, y6, y7⟩, x0, x1, x2, x3, x4, x5, x6, x7⟩ := HY.out (.cells #[.int .i64 0] 54)
    clear hq G1 R1
    go_wp2_with fail
    refine bodyPost_ret (results_row_tmp rfl _ _ (w.heap.size + 1) _ _ _ _ rfl (HZ.out _).1 Tryz.underlying30 rfl (by kernel_rfl)) rfl ?_
    refine ⟨.agg #[.int .i64 0, .slice none 0 0, .int .i64 0, .int .i64 0, .int .i64 0, .slice none 0 0, .int .i64 0, .int .i64 0], ?_, ?_, (HZ.out _).2.2⟩
    · rw [hb.out]; rfl
    · rw [hm.out]; exact (HZ.out _).2.1
  | true =>
    rw [maskI_t hq]
    have hq2 := hq
    unfold peekB at hq2
    simp only [Bool.and_eq_true, decide_eq_true_eq] at hq2
    obtain ⟨hgb, hr0, hr1⟩ := hq2
    obtain ⟨L, hL⟩ := game_heap hgb
    obtain ⟨k, rfl⟩ : ∃ k : Nat, me = (k : Int) := ⟨me.toNat, by omega⟩
    have HK2 := Lib.hid (HK.out k rfl hq (by omega) L hL)
    have l1 : w.heap.size + 1 < w1.heap.size := (Array.getElem?_eq_some_iff.1 R1).1
    have GA := fun o => (Below.heap_alloc w1 o w.heap.size (by omega)).trans G1
    have RA := Lib.hid (fun o => (Below.heap_alloc w1 o (w.heap.size + 1) (by omega)).trans R1)
    obtain ⟨k0, k1, k2, k3, k4, k5, k6, k7, k8, k9, k10, k11, k12, k13⟩ := SGame_cells (GA (.cells #[.int .i64 k] 54))
    have HL := Lib.hid l1
    have hb := Lib.hid hq
    clear hq hr0 hr1 hgb hL G1 R1 GA l1
    go_wp2_with fail
    refine (HK2.out _ (HB.out _)).mono ?_
    rintro e w3 ⟨v', rfl, hwr, B3⟩
    have hs := B3.size
    have hs0 : w1.heap.size ≤ (w1.alloc (.cells #[.int .i64 k] 54)).heap.size := by simp
    have l1 := HL.out
    have R3 := (B3.block _ (show w.heap.size + 1 < (w1.alloc (.cells #[.int .i64 k] 54)).heap.size by omega)).trans (RA.out _)
    have Bw3 := (HB.out (.cells #[.int .i64 k] 54)).trans (B3.mono (HB.out (.cells #[.int .i64 k] 54)).size)
    obtain ⟨p1, q5, c1, d5, S1, S5, e1, h1, h5, s1, s5, s15, g0, g1, g2, g3, g4, g5⟩ := hwr
    subst e1
    have HX := Lib.hid (peek_laid (lo := w.heap.size) (w0 := w) (r := w.heap.size + 1) h1 h5 (fun b hb => by obtain ⟨h1, h2⟩ := s1 b hb; exact ⟨by omega, h2, by omega⟩) (fun b hb => by obtain ⟨h1, h2⟩ := s5 b hb; exact ⟨by omega, h2, by omega⟩) s15 g0 g1 g2 g3 g4 g5 _ rfl R3 rfl (Nat.le_succ _) Bw3)
    obtain ⟨⟨y0, y1, y2, y3, y4, y5, y6, y7⟩, x0, x1, x2, x3, x4, x5, x6, x7⟩ := peek_box R3
    clear hs hs0 l1 R3 h1 h5 s1 s5 s15 g0 g1 g2 g3 g4 g5 B3 Bw3
    go_wp2_with fail
    refine bodyPost_ret (results_row_tmp rfl _ _ (w.heap.size + 1) _ _ _ _ rfl HX.out.1 Tryz.underlying30 rfl (by kernel_rfl)) rfl ?_
    refine ⟨_, ?_, HX.out.2.1, HX.out.2.2⟩
    rw [hb.out]; rfl
end Go.Proofs.YtoeobpdgfhgpiaaGreatDoor
