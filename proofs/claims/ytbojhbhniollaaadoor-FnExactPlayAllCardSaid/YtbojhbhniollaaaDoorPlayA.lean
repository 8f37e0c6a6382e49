/-
  PlayAll, both sides.
-/
import Derived.Test.YtbojhbhniollaaaDoorPlayC
import Derived.Test.YtbojhbhniollaaaDoorM15
namespace Go.Proofs.YtbojhbhniollaaaDoor
open Go.RowKit
set_option linter.unusedVariables false
set_option linter.unusedSimpArgs false

def runP (D : MDeal) (zs : List Int) (k : Nat) : MDeal := (zs.take k).foldl playD D
def playAllD : MDeal → List Int → MDeal
  | D, [] => D
  | D, c :: cs => if playOK D c then playAllD (playD D c) cs else D
def playAllN : MDeal → List Int → Nat
  | _, [] => 0
  | D, c :: cs => if playOK D c then playAllN (playD D c) cs + 1 else 0
theorem runP_zero (D : MDeal) (zs : List Int) : runP D zs 0 = D := rfl
theorem runP_succ (D : MDeal) (zs : List Int) {k : Nat} (h : k < zs.length) : runP D zs (k + 1) = playD (runP D zs k) zs[k] := by
  unfold runP
  rw [List.take_succ_eq_append_getElem h, List.foldl_append]; rfl
theorem runP_cons (D : MDeal) (c : Int) (cs : List Int) (k : Nat) : runP D (c :: cs) (k + 1) = runP (playD D c) cs k := rfl
theorem runP_few {D : MDeal} (zs : List Int) (hf : D.Few) : ∀ k, k ≤ zs.length → (runP D zs k).Few := by
  intro k
  induction k with
  | zero => intro _; exact hf
  | succ k ih => intro h; rw [runP_succ D zs (by omega)]; exact playD_few _ (ih (by omega))
theorem playAll_stop (zs : List Int) : ∀ (D : MDeal) (k : Nat) (h : k < zs.length), (∀ i, i < k → playOK (runP D zs i) (zs.getD i 0) = true) → playOK (runP D zs k) zs[k] = false → playAllD D zs = runP D zs k ∧ playAllN D zs = k := by
  induction zs with
  | nil => intro D k h; simp at h
  | cons c cs ih =>
    intro D k h hall hno
    cases k with
    | zero =>
      have h2 : playOK D c = false := hno
      simp [playAllD, playAllN, h2, runP_zero]
    | succ k =>
      have h0 : playOK D c = true := hall 0 (by omega)
      obtain ⟨e1, e2⟩ := ih (playD D c) k (by simpa using h) (fun i hi => hall (i + 1) (by omega)) hno
      simp [playAllD, playAllN, h0, e1, e2, runP_cons]
theorem playAll_full (zs : List Int) : ∀ (D : MDeal), (∀ i, i < zs.length → playOK (runP D zs i) (zs.getD i 0) = true) → playAllD D zs = runP D zs zs.length ∧ playAllN D zs = zs.length := by
  induction zs with
  | nil => intro D _; exact ⟨rfl, rfl⟩
  | cons c cs ih =>
    intro D hall
    have h0 : playOK D c = true := hall 0 (by simp)
    obtain ⟨e1, e2⟩ := ih (playD D c) (fun i hi => hall (i + 1) (by simp; omega))
    simp [playAllD, playAllN, h0, e1, e2, runP_cons]
theorem playAllD_few (zs : List Int) : ∀ {D : MDeal}, D.Few → (playAllD D zs).Few := by
  induction zs with
  | nil => intro D h; exact h
  | cons c cs ih =>
    intro D h
    unfold playAllD
    split
    · exact ih (playD_few c h)
    · exact h
/-- The deal that is played on, in its box; the result's box, still empty. -/
def PA (n0 r0 o : Nat) (w wr : World) (E : MDeal) : Prop :=
  (∃ (q0 q3 q4 q5 : Option Addr) (d0 d3 d4 d5 : Nat), wr.heap[o]? = some (.cells #[.slice q0 E.hands.length d0, .int .i64 E.leader, .int .i64 E.trump, .slice q3 E.trick.length d3, .slice q4 E.won.length d4, .slice q5 E.points.length d5, .int .i64 E.left] 31 (0, 0)) ∧ WrDeal (fun b => n0 ≤ b ∧ b < wr.heap.size ∧ b ≠ o) wr (.agg #[.slice q0 E.hands.length d0, .int .i64 E.leader, .int .i64 E.trump, .slice q3 E.trick.length d3, .slice q4 E.won.length d4, .slice q5 E.points.length d5, .int .i64 E.left]) E) ∧ wr.heap[r0]? = some (.cells #[.slice none 0 0, .int .i64 0, .int .i64 0, .slice none 0 0, .slice none 0 0, .slice none 0 0, .int .i64 0] 31 (0, 0)) ∧ Below w.heap.size w wr
theorem PA.below {n0 r0 o : Nat} {w wr wx : World} {E : MDeal} (h : PA n0 r0 o w wr E) (b : Below wr.heap.size wr wx) : PA n0 r0 o w wx E := by
  obtain ⟨⟨q0, q3, q4, q5, d0, d3, d4, d5, g, hw⟩, g1, B⟩ := h
  exact ⟨⟨q0, q3, q4, q5, d0, d3, d4, d5, (b.block _ (Array.getElem?_eq_some_iff.1 g).1).trans g, (hw.below b).mono (fun y hy => ⟨hy.1, Nat.lt_of_lt_of_le hy.2.1 b.size, hy.2.2⟩)⟩, (b.block _ (Array.getElem?_eq_some_iff.1 g1).1).trans g1, B.trans (b.mono B.size)⟩
/-- The next deal is laid into the box. -/
theorem PA.next {n0 r0 o lo hi : Nat} {w wr wx : World} {E E' : MDeal} {q0 q3 q4 q5 : Option Addr} {d0 d3 d4 d5 : Nat} (h : PA n0 r0 o w wr E) (b : Below wr.heap.size wr wx) (hw' : WrDeal (In lo hi) wx (.agg #[.slice q0 E'.hands.length d0, .int .i64 E'.leader, .int .i64 E'.trump, .slice q3 E'.trick.length d3, .slice q4 E'.won.length d4, .slice q5 E'.points.length d5, .int .i64 E'.left]) E') (hlo : wr.heap.size ≤ lo) (hhi : hi ≤ wx.heap.size) (hn : n0 ≤ wr.heap.size) (ho : w.heap.size ≤ o) (hr : r0 ≠ o) :
    PA n0 r0 o w (wx.setRow o #[.slice q0 E'.hands.length d0, .int .i64 E'.leader, .int .i64 E'.trump, .slice q3 E'.trick.length d3, .slice q4 E'.won.length d4, .slice q5 E'.points.length d5, .int .i64 E'.left]) E' := by
  obtain ⟨⟨p0, p3, p4, p5, c0, c3, c4, c5, g, hw⟩, g1, B⟩ := h
  have hol := (Array.getElem?_eq_some_iff.1 g).1
  have go := (b.block _ hol).trans g
  have hs : (wx.setRow o #[.slice q0 E'.hands.length d0, .int .i64 E'.leader, .int .i64 E'.trump, .slice q3 E'.trick.length d3, .slice q4 E'.won.length d4, .slice q5 E'.points.length d5, .int .i64 E'.left]).heap.size = wx.heap.size := by simp [World.setRow]
  refine ⟨⟨q0, q3, q4, q5, d0, d3, d4, d5, setRow_heap _ _ _ _ _ _ go, (hw'.touch (touchRow wx o _) (fun y hy e => by have := hy.1; omega)).mono (fun y hy => ⟨by have := hy.1; omega, by have := hy.2; omega, by have := hy.1; omega⟩)⟩, ?_, below_setRow (B.trans (b.mono B.size)) ho _⟩
  rw [setRow_other _ _ _ _ hr]
  exact (b.block _ (Array.getElem?_eq_some_iff.1 g1).1).trans g1
theorem PA.final {n0 r0 o : Nat} {w wr : World} {E : MDeal} (h : PA n0 r0 o w wr E) (hr : w.heap.size ≤ r0) (hn : r0 < n0) :
    ∃ (q0 q3 q4 q5 : Option Addr) (d0 d3 d4 d5 : Nat), wr.heap[o]? = some (.cells #[.slice q0 E.hands.length d0, .int .i64 E.leader, .int .i64 E.trump, .slice q3 E.trick.length d3, .slice q4 E.won.length d4, .slice q5 E.points.length d5, .int .i64 E.left] 31 (0, 0)) ∧ wr.heap[r0]? = some (.cells #[.slice none 0 0, .int .i64 0, .int .i64 0, .slice none 0 0, .slice none 0 0, .slice none 0 0, .int .i64 0] 31 (0, 0)) ∧ (wr.setRow r0 #[.slice q0 E.hands.length d0, .int .i64 E.leader, .int .i64 E.trump, .slice q3 E.trick.length d3, .slice q4 E.won.length d4, .slice q5 E.points.length d5, .int .i64 E.left]).heap[r0]? = some (.cells #[.slice q0 E.hands.length d0, .int .i64 E.leader, .int .i64 E.trump, .slice q3 E.trick.length d3, .slice q4 E.won.length d4, .slice q5 E.points.length d5, .int .i64 E.left] 31 (0, 0)) ∧ WrDeal (In w.heap.size (wr.setRow r0 #[.slice q0 E.hands.length d0, .int .i64 E.leader, .int .i64 E.trump, .slice q3 E.trick.length d3, .slice q4 E.won.length d4, .slice q5 E.points.length d5, .int .i64 E.left]).heap.size) (wr.setRow r0 #[.slice q0 E.hands.length d0, .int .i64 E.leader, .int .i64 E.trump, .slice q3 E.trick.length d3, .slice q4 E.won.length d4, .slice q5 E.points.length d5, .int .i64 E.left]) (.agg #[.slice q0 E.hands.length d0, .int .i64 E.leader, .int .i64 E.trump, .slice q3 E.trick.length d3, .slice q4 E.won.length d4, .slice q5 E.points.length d5, .int .i64 E.left]) E ∧ Below w.heap.size w (wr.setRow r0 #[.slice q0 E.hands.length d0, .int .i64 E.leader, .int .i64 E.trump, .slice q3 E.trick.length d3, .slice q4 E.won.length d4, .slice q5 E.points.length d5, .int .i64 E.left]) := by
  obtain ⟨⟨q0, q3, q4, q5, d0, d3, d4, d5, g, hw⟩, g1, B⟩ := h
  have hs : (wr.setRow r0 #[.slice q0 E.hands.length d0, .int .i64 E.leader, .int .i64 E.trump, .slice q3 E.trick.length d3, .slice q4 E.won.length d4, .slice q5 E.points.length d5, .int .i64 E.left]).heap.size = wr.heap.size := by simp [World.setRow]
  exact ⟨q0, q3, q4, q5, d0, d3, d4, d5, g, g1, setRow_heap _ _ _ _ _ _ g1, (hw.touch (touchRow wr r0 _) (fun y hy e => by have := hy.1; omega)).mono (fun y hy => ⟨by have := hy.1; omega, by have := hy.2.1; omega⟩), below_setRow B hr _⟩
set_option maxRecDepth 100000 in
set_option maxHeartbeats 4000000 in
theorem playAll_any (a0 a1 : Addr) (v vc : Value) (D : MDeal) (zs : List Int) (bz : Nat) (w : World) (h : RdDeal w v D) (hc : RdAt .i64 w vc zs bz) (hf : D.Few) (hl : zs.length ≤ 1099511627776) (hS : Sent a0 a1 w) :
    Calls Tryd.prog 24 #[v, vc] w fun e w' => ∃ v', e = .returned (.tuple #[v', .int .i64 (playAllN D zs : Nat)]) ∧ WrDeal (In w.heap.size w'.heap.size) w' v' (playAllD D zs) ∧ Below w.heap.size w w' := by
  obtain ⟨p0, p3, p4, p5, c0, c3, c4, c5, ev⟩ := h.shape
  subst ev
  obtain ⟨ac, capc, rfl, -, hwf, hcell⟩ := hc
  obtain ⟨W0, hW0⟩ : ∃ W, W = (w.alloc (.cells #[.slice p0 D.hands.length c0, .int .i64 D.leader, .int .i64 D.trump, .slice p3 D.trick.length c3, .slice p4 D.won.length c4, .slice p5 D.points.length c5, .int .i64 D.left] 31)).alloc (.cells #[.slice none 0 0, .int .i64 0, .int .i64 0, .slice none 0 0, .slice none 0 0, .slice none 0 0, .int .i64 0] 31) := ⟨_, rfl⟩
  have G0 : W0.heap[w.heap.size]? = some (.cells #[.slice p0 D.hands.length c0, .int .i64 D.leader, .int .i64 D.trump, .slice p3 D.trick.length c3, .slice p4 D.won.length c4, .slice p5 D.points.length c5, .int .i64 D.left] 31 (0, 0)) := by rw [hW0]; exact heap_alloc2_old _ _ _
  have G1 : W0.heap[w.heap.size + 1]? = some (.cells #[.slice none 0 0, .int .i64 0, .int .i64 0, .slice none 0 0, .slice none 0 0, .slice none 0 0, .int .i64 0] 31 (0, 0)) := by rw [hW0]; exact heap_alloc2_new _ _ _
  have hsz : W0.heap.size = w.heap.size + 2 := by rw [hW0]; simp
  have B0 : Below w.heap.size w W0 := by rw [hW0]; exact ((Below.refl _ _).alloc (Nat.le_refl _) _).alloc (by simp) _
  have HCp := Lib.hid (copyDeal_any _ D W0 (h.below B0) hf)
  have HSn := Lib.hid (fun wx (hb : Below w.heap.size w wx) => hS.below hb (Nat.le_refl _))
  have HW := Lib.hid hW0
  have HG := Lib.hid (And.intro G0 (And.intro G1 (And.intro hsz B0)))
  have Hsz := Lib.hid hsz
  have Hf := Lib.hid hf
  have Hwf := Lib.hid hwf
  have Hcell := Lib.hid hcell
  obtain ⟨n, hn⟩ : ∃ n, n = zs.length := ⟨_, rfl⟩
  have Hn := Lib.hid hn
  rw [← hn] at hl ⊢
  clear h hf hS hW0 G0 G1 hsz B0 hwf hcell hn
  go_enter Tryd.func24, Tryd.ntmps24
  go_upto_region 1 with fail
  rw [← HW.out]
  obtain ⟨G0, G1, hsz, B0⟩ := HG.out
  refine wp_region_lit ?_
  refine wpList_load_row rfl 31 _ rfl w.heap.size rfl 31 _ _ _ G0 Tryd.underlying31 rfl (by kernel_rfl) ?_
  clear G0 G1 hsz B0
  go_wp2_with fail
  refine HCp.out.mono ?_
  rintro e w1 ⟨v1, rfl, own, B1⟩
  obtain ⟨q0, q3, q4, q5, d0, d3, d4, d5, S0, S3, S4, S5, ev, ho⟩ := id own
  subst ev
  obtain ⟨G0, G1, hsz, B0⟩ := HG.out
  have s1 := B1.size
  have g01 := (B1.block _ (show w.heap.size < W0.heap.size by omega)).trans G0
  have g11 := (B1.block _ (show w.heap.size + 1 < W0.heap.size by omega)).trans G1
  obtain ⟨X, hX⟩ : ∃ X, X = w1.alloc (.cells #[.slice q0 D.hands.length d0, .int .i64 D.leader, .int .i64 D.trump, .slice q3 D.trick.length d3, .slice q4 D.won.length d4, .slice q5 D.points.length d5, .int .i64 D.left] 31) := ⟨_, rfl⟩
  have bX : Below w1.heap.size w1 X := by rw [hX]; exact (Below.refl _ _).alloc (Nat.le_refl _) _
  have gX : X.heap[w1.heap.size]? = some (.cells #[.slice q0 D.hands.length d0, .int .i64 D.leader, .int .i64 D.trump, .slice q3 D.trick.length d3, .slice q4 D.won.length d4, .slice q5 D.points.length d5, .int .i64 D.left] 31 (0, 0)) := by rw [hX]; exact heap_alloc_new _ _
  have sX : X.heap.size = w1.heap.size + 1 := by rw [hX]; simp
  have HPA : Hid (PA W0.heap.size (w.heap.size + 1) w1.heap.size w X D) := Lib.hid ⟨⟨q0, q3, q4, q5, d0, d3, d4, d5, gX, (own.wr.below bX).mono (fun y hy => ⟨hy.1, by have := hy.2; omega, by have := hy.2; omega⟩)⟩, (bX.block _ (by omega)).trans g11, (B0.trans (B1.mono B0.size)).trans (bX.mono (by omega))⟩
  have HX0 := Lib.hid hX
  have hbox : Hid (w.heap.size ≤ w1.heap.size ∧ w.heap.size + 1 ≠ w1.heap.size) := Lib.hid ⟨by omega, by omega⟩
  have hXs : Hid (W0.heap.size ≤ X.heap.size) := Lib.hid (by omega)
  clear ho own bX gX sX hX B1 s1 g01 g11 G0 G1 hsz B0
  go_upto_region 2 with fail
  rw [← HX0.out]
  clear HX0 HCp
  go_wp2_with fail
  go_loopw [7, 8, 9, 10, 15] (fun _ _ _ _ i wr => ∃ k : Nat, k ≤ n ∧ i = .int .i64 k ∧ Hid (W0.heap.size ≤ wr.heap.size ∧ PA W0.heap.size (w.heap.size + 1) w1.heap.size w wr (runP D zs k) ∧ ∀ i, i < k → playOK (runP D zs i) (zs.getD i 0) = true)) (fun _ _ _ _ i _ => n - (intOf i).toNat)
  case atStart => exact ⟨0, Nat.zero_le _, rfl, Lib.hid ⟨hXs.out, HPA.out, fun i hi => by omega⟩⟩
  case round =>
    clear HPA hXs
    obtain ⟨k, hk, rfl, hrel⟩ := hrel
    by_cases hlt : k < n
    · obtain ⟨hws, pa, hall⟩ := hrel.out
      have hzl : k < zs.length := by rw [← Hn.out]; exact hlt
      obtain ⟨off, rfl, hc⟩ : ∃ off, ac = some ⟨bz, off, none⟩ ∧ Cells .i64 w bz off zs := by
        rcases Hcell.out with h0 | h0
        · rw [h0] at hzl; simp at hzl
        · exact h0
      obtain ⟨y, hy⟩ : ∃ y, Hid (y = zs[k]) := ⟨_, Lib.hid rfl⟩
      have hcw := hc k hzl
      rw [← hy.out] at hcw
      have hcy : wr.cell? ⟨bz, off + k, none⟩ = some (.int .i64 y) := (pa.2.2.cell (World.block_lt_of_cell? _ _ hcw)).trans hcw
      have hwy : (Lit.int .i64 y).wf = true := by rw [hy.out]; exact Hwf.out _ (List.getElem_mem _)
      obtain ⟨E, hE⟩ : ∃ E, Hid (E = runP D zs k) := ⟨_, Lib.hid rfl⟩
      rw [← hE.out] at pa
      have hEf : E.Few := by rw [hE.out]; exact runP_few zs Hf.out k (by omega)
      have hsucc : Hid (runP D zs (k + 1) = playD E y) := Lib.hid (by rw [runP_succ D zs hzl, hE.out, hy.out])
      obtain ⟨⟨q0, q3, q4, q5, d0, d3, d4, d5, gr, hw⟩, g1, Bw⟩ := id pa
      have HP := Lib.hid (And.intro hws (And.intro pa hall))
      have hsz' := hws
      have HPC := Lib.hid (playCard_any a0 a1 _ E y wr hw.rd hEf hwy (HSn.out wr Bw))
      clear hw g1 Bw hws pa hall hEf hsz' hcw hc hwy
      cases hq : playOK E y with
      | false =>
        rw [hq] at HPC
        go_upto_region 5 with fail
        clear hcy
        refine wp_region_lit ?_
        refine wpList_load_row rfl 31 _ rfl w1.heap.size rfl 31 _ _ _ gr Tryd.underlying31 rfl (by kernel_rfl) ?_
        clear gr
        go_wp2_with fail
        refine HPC.out.mono ?_
        rintro e w5 ⟨v5, rfl, hw5, B5⟩
        obtain ⟨u0, u3, u4, u5, f0, f3, f4, f5, ev⟩ := hw5.shape
        subst ev
        obtain ⟨Y, hY⟩ : ∃ Y, Y = w5.alloc (.cells #[.slice u0 (playD E y).hands.length f0, .int .i64 (playD E y).leader, .int .i64 (playD E y).trump, .slice u3 (playD E y).trick.length f3, .slice u4 (playD E y).won.length f4, .slice u5 (playD E y).points.length f5, .int .i64 (playD E y).left] 31) := ⟨_, rfl⟩
        have HY := Lib.hid hY
        have bY : Below wr.heap.size wr Y := by rw [hY]; exact B5.alloc B5.size _
        have HPY := Lib.hid (HP.out.2.1.below bY)
        clear hY bY hw5 B5 HPC
        go_upto_region 6 with fail
        rw [← HY.out]
        clear HY
        obtain ⟨e1, e2⟩ := playAll_stop zs D k (by rw [← Hn.out]; exact hlt) HP.out.2.2 (by rw [← hE.out, ← hy.out]; exact hq)
        have HD : Hid (playAllD D zs = E) := Lib.hid (by rw [e1, hE.out])
        have HN := Lib.hid e2
        have pa := HPY.out
        clear e1 e2 hq HPY
        obtain ⟨q0, q3, q4, q5, d0, d3, d4, d5, gr, g1, gN, hN, bN⟩ := pa.final (Nat.le_succ _) (by have := Hsz.out; omega)
        have HX := Lib.hid (And.intro gN (And.intro hN bN))
        clear pa gN hN bN
        go_upto_region 7 with fail
        refine wp_region_lit ?_
        refine wpList_load_row rfl 31 _ rfl w1.heap.size rfl 31 _ _ _ gr Tryd.underlying31 rfl (by kernel_rfl) ?_
        clear gr
        refine wpList_plain (by rfl) (fun K hK => ?_)
        go_simp
        refine hK _ _ ?_
        clear hK K
        refine wpList_store_row rfl 31 _ _ rfl (w.heap.size + 1) #[.slice q0 E.hands.length d0, .int .i64 E.leader, .int .i64 E.trump, .slice q3 E.trick.length d3, .slice q4 E.won.length d4, .slice q5 E.points.length d5, .int .i64 E.left] rfl rfl 31 _ g1 (by kernel_rfl) rfl (by simp [Value.oneCell']) ?_
        clear g1
        go_wp2_with fail
        refine bodyPost_ret (results_row_tmp rfl _ _ (w.heap.size + 1) _ _ _ _ rfl HX.out.1 Tryd.underlying31 rfl (by kernel_rfl)) rfl ?_
        rw [HD.out, HN.out]
        exact ⟨_, rfl, HX.out.2.1, HX.out.2.2⟩
      | true =>
        rw [hq] at HPC
        go_upto_region 5 with fail
        clear hcy
        refine wp_region_lit ?_
        refine wpList_load_row rfl 31 _ rfl w1.heap.size rfl 31 _ _ _ gr Tryd.underlying31 rfl (by kernel_rfl) ?_
        clear gr
        go_wp2_with fail
        refine HPC.out.mono ?_
        rintro e w5 ⟨v5, rfl, hw5, B5⟩
        obtain ⟨u0, u3, u4, u5, f0, f3, f4, f5, ev⟩ := hw5.shape
        subst ev
        obtain ⟨Y, hY⟩ : ∃ Y, Y = w5.alloc (.cells #[.slice u0 (playD E y).hands.length f0, .int .i64 (playD E y).leader, .int .i64 (playD E y).trump, .slice u3 (playD E y).trick.length f3, .slice u4 (playD E y).won.length f4, .slice u5 (playD E y).points.length f5, .int .i64 (playD E y).left] 31) := ⟨_, rfl⟩
        have HY := Lib.hid hY
        have bY5 : Below w5.heap.size w5 Y := by rw [hY]; exact (Below.refl _ _).alloc (Nat.le_refl _) _
        have bY : Below wr.heap.size wr Y := B5.trans (bY5.mono B5.size)
        have gY : Y.heap[w5.heap.size]? = some (.cells #[.slice u0 (playD E y).hands.length f0, .int .i64 (playD E y).leader, .int .i64 (playD E y).trump, .slice u3 (playD E y).trick.length f3, .slice u4 (playD E y).won.length f4, .slice u5 (playD E y).points.length f5, .int .i64 (playD E y).left] 31 (0, 0)) := by rw [hY]; exact heap_alloc_new _ _
        obtain ⟨hws, pa, hall⟩ := HP.out
        have paN := pa.next bY (hw5.below bY5) (Nat.le_refl _) bY5.size hws hbox.out.1 hbox.out.2
        obtain ⟨⟨_, _, _, _, _, _, _, _, go, -⟩, -, -⟩ := pa.below bY
        obtain ⟨Z, hZ⟩ : ∃ Z, Z = Y.setRow w1.heap.size #[.slice u0 (playD E y).hands.length f0, .int .i64 (playD E y).leader, .int .i64 (playD E y).trump, .slice u3 (playD E y).trick.length f3, .slice u4 (playD E y).won.length f4, .slice u5 (playD E y).points.length f5, .int .i64 (playD E y).left] := ⟨_, rfl⟩
        rw [← hZ] at paN
        have sZ : W0.heap.size ≤ Z.heap.size := by rw [hZ]; simp [World.setRow]; have := bY.size; omega
        have HPN : Hid (W0.heap.size ≤ Z.heap.size ∧ PA W0.heap.size (w.heap.size + 1) w1.heap.size w Z (runP D zs (k + 1)) ∧ ∀ i, i < k + 1 → playOK (runP D zs i) (zs.getD i 0) = true) := Lib.hid ⟨sZ, by rw [hsucc.out]; exact paN, fun i hi => by
          by_cases e : i < k
          · exact hall i e
          · obtain rfl : i = k := by omega
            rw [← hE.out]
            have : zs.getD i 0 = y := by rw [hy.out]; simp [List.getD, hzl]
            rw [this]; exact hq⟩
        have HZ := Lib.hid hZ
        clear hY bY5 bY hw5 B5 HPC paN pa hall hws sZ hZ hq HP
        go_upto_region 6 with fail
        rw [← HY.out]
        clear HY
        go_upto_region 8 with fail
        refine wp_region_lit ?_
        refine wpList_load_row rfl 31 _ rfl w5.heap.size rfl 31 _ _ _ gY Tryd.underlying31 rfl (by kernel_rfl) ?_
        clear gY
        refine wpList_store_row rfl 31 _ _ rfl w1.heap.size #[.slice u0 (playD E y).hands.length f0, .int .i64 (playD E y).leader, .int .i64 (playD E y).trump, .slice u3 (playD E y).trick.length f3, .slice u4 (playD E y).won.length f4, .slice u5 (playD E y).points.length f5, .int .i64 (playD E y).left] rfl rfl 31 _ go (by kernel_rfl) rfl (by simp [Value.oneCell']) ?_
        clear go
        rw [← HZ.out]
        clear HZ
        go_wp2_with fail
        go_roundw
        case rel => exact ⟨k + 1, by omega, by go_num, HPN⟩
        case measure => simp [intOf]; omega
    · obtain rfl : k = n := by omega
      obtain ⟨hws, pa, hall⟩ := hrel.out
      obtain ⟨e1, e2⟩ := playAll_full zs D (by rw [← Hn.out]; exact hall)
      obtain ⟨E, hE⟩ : ∃ E, Hid (E = runP D zs k) := ⟨_, Lib.hid rfl⟩
      have HD : Hid (playAllD D zs = E) := Lib.hid (by rw [e1, hE.out, Hn.out])
      have HN : Hid (playAllN D zs = k) := Lib.hid (by rw [e2, Hn.out])
      rw [← hE.out] at pa
      clear e1 e2 hall hws hrel
      obtain ⟨q0, q3, q4, q5, d0, d3, d4, d5, gr, g1, gN, hN, bN⟩ := pa.final (Nat.le_succ _) (by have := Hsz.out; omega)
      have HX := Lib.hid (And.intro gN (And.intro hN bN))
      clear pa gN hN bN
      go_upto_region 10 with fail
      refine wp_region_lit ?_
      refine wpList_load_row rfl 31 _ rfl w1.heap.size rfl 31 _ _ _ gr Tryd.underlying31 rfl (by kernel_rfl) ?_
      clear gr
      refine wpList_plain (by rfl) (fun K hK => ?_)
      go_simp
      refine hK _ _ ?_
      clear hK K
      refine wpList_plain (by rfl) (fun K hK => ?_)
      go_simp
      refine hK _ _ ?_
      clear hK K
      refine wpList_store_row rfl 31 _ _ rfl (w.heap.size + 1) #[.slice q0 E.hands.length d0, .int .i64 E.leader, .int .i64 E.trump, .slice q3 E.trick.length d3, .slice q4 E.won.length d4, .slice q5 E.points.length d5, .int .i64 E.left] rfl rfl 31 _ g1 (by kernel_rfl) rfl (by simp [Value.oneCell']) ?_
      clear g1
      go_wp2_with fail
      refine bodyPost_ret (results_row_tmp rfl _ _ (w.heap.size + 1) _ _ _ _ rfl HX.out.1 Tryd.underlying31 rfl (by kernel_rfl)) rfl ?_
      rw [HD.out, HN.out]
      exact ⟨_, rfl, HX.out.2.1, HX.out.2.2⟩
namespace M2
set_option maxRecDepth 100000 in
set_option maxHeartbeats 4000000 in
theorem sPlayAll_any (v vc : Value) (D : MDeal) (zs : List Int) (bz : Nat) (w : World) (h : RdDeal w v D) (hc : RdAt .i64 w vc zs bz) (hf : D.Few) (hl : zs.length ≤ 1099511627776) :
    Calls Tryd.prog 22 #[v, vc] w fun e w' => ∃ v', e = .returned (.tuple #[v', .int .i64 (playAllN D zs : Nat)]) ∧ WrDeal (In w.heap.size w'.heap.size) w' v' (playAllD D zs) ∧ Below w.heap.size w w' := by
  obtain ⟨p0, p3, p4, p5, c0, c3, c4, c5, ev⟩ := h.shape
  subst ev
  obtain ⟨ac, capc, rfl, -, hwf, hcell⟩ := hc
  obtain ⟨W0, hW0⟩ : ∃ W, W = (w.alloc (.cells #[.slice p0 D.hands.length c0, .int .i64 D.leader, .int .i64 D.trump, .slice p3 D.trick.length c3, .slice p4 D.won.length c4, .slice p5 D.points.length c5, .int .i64 D.left] 31)).alloc (.cells #[.slice none 0 0, .int .i64 0, .int .i64 0, .slice none 0 0, .slice none 0 0, .slice none 0 0, .int .i64 0] 31) := ⟨_, rfl⟩
  have G0 : W0.heap[w.heap.size]? = some (.cells #[.slice p0 D.hands.length c0, .int .i64 D.leader, .int .i64 D.trump, .slice p3 D.trick.length c3, .slice p4 D.won.length c4, .slice p5 D.points.length c5, .int .i64 D.left] 31 (0, 0)) := by rw [hW0]; exact heap_alloc2_old _ _ _
  have G1 : W0.heap[w.heap.size + 1]? = some (.cells #[.slice none 0 0, .int .i64 0, .int .i64 0, .slice none 0 0, .slice none 0 0, .slice none 0 0, .int .i64 0] 31 (0, 0)) := by rw [hW0]; exact heap_alloc2_new _ _ _
  have hsz : W0.heap.size = w.heap.size + 2 := by rw [hW0]; simp
  have B0 : Below w.heap.size w W0 := by rw [hW0]; exact ((Below.refl _ _).alloc (Nat.le_refl _) _).alloc (by simp) _
  have HCp := Lib.hid (sl12Copy_any _ D W0 (h.below B0) hf)
  skip
  have HW := Lib.hid hW0
  have HG := Lib.hid (And.intro G0 (And.intro G1 (And.intro hsz B0)))
  have Hsz := Lib.hid hsz
  have Hf := Lib.hid hf
  have Hwf := Lib.hid hwf
  have Hcell := Lib.hid hcell
  obtain ⟨n, hn⟩ : ∃ n, n = zs.length := ⟨_, rfl⟩
  have Hn := Lib.hid hn
  rw [← hn] at hl ⊢
  clear h hf hW0 G0 G1 hsz B0 hwf hcell hn
  go_enter Tryd.func22, Tryd.ntmps22
  go_upto_region 1 with fail
  rw [← HW.out]
  obtain ⟨G0, G1, hsz, B0⟩ := HG.out
  refine wp_region_lit ?_
  refine wpList_load_row rfl 31 _ rfl w.heap.size rfl 31 _ _ _ G0 Tryd.underlying31 rfl (by kernel_rfl) ?_
  clear G0 G1 hsz B0
  go_wp2_with fail
  refine HCp.out.mono ?_
  rintro e w1 ⟨v1, rfl, own, B1⟩
  obtain ⟨q0, q3, q4, q5, d0, d3, d4, d5, S0, S3, S4, S5, ev, ho⟩ := id own
  subst ev
  obtain ⟨G0, G1, hsz, B0⟩ := HG.out
  have s1 := B1.size
  have g01 := (B1.block _ (show w.heap.size < W0.heap.size by omega)).trans G0
  have g11 := (B1.block _ (show w.heap.size + 1 < W0.heap.size by omega)).trans G1
  obtain ⟨X, hX⟩ : ∃ X, X = w1.setRow w.heap.size #[.slice q0 D.hands.length d0, .int .i64 D.leader, .int .i64 D.trump, .slice q3 D.trick.length d3, .slice q4 D.won.length d4, .slice q5 D.points.length d5, .int .i64 D.left] := ⟨_, rfl⟩
  have sX : X.heap.size = w1.heap.size := by rw [hX]; simp [World.setRow]
  have HPA : Hid (PA W0.heap.size (w.heap.size + 1) w.heap.size w X D) := Lib.hid (by
    rw [hX]
    refine ⟨⟨q0, q3, q4, q5, d0, d3, d4, d5, setRow_heap _ _ _ _ _ _ g01, (own.wr.touch (touchRow w1 w.heap.size _) (fun y hy e => by have := hy.1; omega)).mono (fun y hy => ⟨hy.1, by have := hy.2; simp [World.setRow]; omega, by have := hy.1; omega⟩)⟩, ?_, below_setRow (B0.trans (B1.mono B0.size)) (Nat.le_refl _) _⟩
    rw [setRow_other _ _ _ _ (show w.heap.size + 1 ≠ w.heap.size by omega)]; exact g11)
  have HX0 := Lib.hid hX
  have hbox : Hid (w.heap.size ≤ w.heap.size ∧ w.heap.size + 1 ≠ w.heap.size) := Lib.hid ⟨by omega, by omega⟩
  have hXs : Hid (W0.heap.size ≤ X.heap.size) := Lib.hid (by omega)
  clear ho own sX hX B1 s1 g11 G0 G1 hsz B0
  go_upto_region 2 with (refine wpList_store_row rfl 31 _ _ rfl w.heap.size #[.slice q0 D.hands.length d0, .int .i64 D.leader, .int .i64 D.trump, .slice q3 D.trick.length d3, .slice q4 D.won.length d4, .slice q5 D.points.length d5, .int .i64 D.left] rfl rfl 31 _ g01 (by kernel_rfl) rfl (by simp [Value.oneCell']) ?_)
  rw [← HX0.out]
  clear HX0 HCp g01
  go_wp2_with fail
  go_loopw [6, 7, 8] (fun i _ _ wr => ∃ k : Nat, k ≤ n ∧ i = .int .i64 k ∧ Hid (W0.heap.size ≤ wr.heap.size ∧ PA W0.heap.size (w.heap.size + 1) w.heap.size w wr (runP D zs k) ∧ ∀ i, i < k → playOK (runP D zs i) (zs.getD i 0) = true)) (fun i _ _ _ => n - (intOf i).toNat)
  case atStart => exact ⟨0, Nat.zero_le _, rfl, Lib.hid ⟨hXs.out, HPA.out, fun i hi => by omega⟩⟩
  case round =>
    clear HPA hXs
    obtain ⟨k, hk, rfl, hrel⟩ := hrel
    by_cases hlt : k < n
    · obtain ⟨hws, pa, hall⟩ := hrel.out
      have hzl : k < zs.length := by rw [← Hn.out]; exact hlt
      obtain ⟨off, rfl, hc⟩ : ∃ off, ac = some ⟨bz, off, none⟩ ∧ Cells .i64 w bz off zs := by
        rcases Hcell.out with h0 | h0
        · rw [h0] at hzl; simp at hzl
        · exact h0
      obtain ⟨y, hy⟩ : ∃ y, Hid (y = zs[k]) := ⟨_, Lib.hid rfl⟩
      have hcw := hc k hzl
      rw [← hy.out] at hcw
      have hcy : wr.cell? ⟨bz, off + k, none⟩ = some (.int .i64 y) := (pa.2.2.cell (World.block_lt_of_cell? _ _ hcw)).trans hcw
      have hwy : (Lit.int .i64 y).wf = true := by rw [hy.out]; exact Hwf.out _ (List.getElem_mem _)
      obtain ⟨E, hE⟩ : ∃ E, Hid (E = runP D zs k) := ⟨_, Lib.hid rfl⟩
      rw [← hE.out] at pa
      have hEf : E.Few := by rw [hE.out]; exact runP_few zs Hf.out k (by omega)
      have hsucc : Hid (runP D zs (k + 1) = playD E y) := Lib.hid (by rw [runP_succ D zs hzl, hE.out, hy.out])
      obtain ⟨⟨q0, q3, q4, q5, d0, d3, d4, d5, gr, hw⟩, g1, Bw⟩ := id pa
      have HP := Lib.hid (And.intro hws (And.intro pa hall))
      have hsz' := hws
      obtain ⟨fb, hfb⟩ : ∃ b, Hid (b = playOK E y) := ⟨_, Lib.hid rfl⟩
      have HC5 : Hid (∀ wx, Below wr.heap.size wr wx → wx.heap[w.heap.size]? = some (.cells #[.slice q0 E.hands.length d0, .int .i64 E.leader, .int .i64 E.trump, .slice q3 E.trick.length d3, .slice q4 E.won.length d4, .slice q5 E.points.length d5, .int .i64 E.left] 31 (0, 0)) ∧ wx.cell? ⟨bz, off + k, none⟩ = some (.int .i64 y)) := Lib.hid (fun wx hb => ⟨(hb.block _ (Array.getElem?_eq_some_iff.1 gr).1).trans gr, (hb.cell (World.block_lt_of_cell? _ _ hcy)).trans hcy⟩)
      have HPCh : Hid (∀ wx, Below wr.heap.size wr wx → Calls Tryd.prog 20 #[.agg #[.slice q0 E.hands.length d0, .int .i64 E.leader, .int .i64 E.trump, .slice q3 E.trick.length d3, .slice q4 E.won.length d4, .slice q5 E.points.length d5, .int .i64 E.left], .int .i64 y] wx fun e w' => ∃ v', e = .returned (.tuple #[v', .bool fb]) ∧ WrDeal (In wx.heap.size w'.heap.size) w' v' (playD E y) ∧ Below wx.heap.size wx w') := Lib.hid (fun wx hb => by rw [hfb.out]; exact sPlayCard_any _ E y wx (hw.rd.below hb) hEf hwy)
      have HPC := HPCh.out
      have hkn : k < n := hlt
      clear hw g1 Bw hws pa hall hEf hsz' hcw hc hwy gr
      go_upto_region 5 with fail
      clear hcy
      have HPC' := Lib.hid HPC
      clear HPC
      refine wp_region_table1 [(0, some 18, .is (.agg #[.slice q0 E.hands.length d0, .int .i64 E.leader, .int .i64 E.trump, .slice q3 E.trick.length d3, .slice q4 E.won.length d4, .slice q5 E.points.length d5, .int .i64 E.left])), (1, some 19, .is (.slice (some ⟨bz, off, none⟩) n capc)), (2, some 20, .is (.int .i64 (k : Int))), (3, some 21, .is (.pointer (some ⟨bz, off + k, none⟩))), (4, some 22, .is (.int .i64 y)), (5, some 23, .own (fun S w v => ∃ v2, v = .tuple #[v2, .bool fb] ∧ WrDeal S w v2 (playD E y)) (fun S w w' v h b => by obtain ⟨v2, e, h2⟩ := h; exact ⟨v2, e, h2.below b⟩)), (6, some 17, .own2 [5] (fun vs v => v = vs.getD 0 undef ∧ ∃ v2, v = .tuple #[v2, .bool fb])), (7, some 24, .own2 [6] (fun vs v => ∃ x, vs.getD 0 undef = .tuple #[v, x])), (8, some 25, .is (.bool fb)), (9, some 7, .box #[.slice none 0 0, .int .i64 0, .int .i64 0, .slice none 0 0, .slice none 0 0, .slice none 0 0, .int .i64 0] 31)] (8, some 25, .is (.bool fb)) 2 (by kernel_rfl) (by kernel_rfl) (by kernel_rfl) (by kernel_rfl) (by kernel_rfl) (L := #[true, true, true, true, true, true, true, true, true, true, false, false]) (by kernel_rfl) (L1 := #[true, true, true, true, true, true, true, true, false, true, false, false]) (by kernel_rfl) (T1 := [(0, some 18, .is (.agg #[.slice q0 E.hands.length d0, .int .i64 E.leader, .int .i64 E.trump, .slice q3 E.trick.length d3, .slice q4 E.won.length d4, .slice q5 E.points.length d5, .int .i64 E.left])), (1, some 19, .is (.slice (some ⟨bz, off, none⟩) n capc)), (2, some 20, .is (.int .i64 (k : Int))), (3, some 21, .is (.pointer (some ⟨bz, off + k, none⟩))), (4, some 22, .is (.int .i64 y)), (5, some 23, .own (fun S w v => ∃ v2, v = .tuple #[v2, .bool fb] ∧ WrDeal S w v2 (playD E y)) (fun S w w' v h b => by obtain ⟨v2, e, h2⟩ := h; exact ⟨v2, e, h2.below b⟩)), (6, some 17, .own2 [5] (fun vs v => v = vs.getD 0 undef ∧ ∃ v2, v = .tuple #[v2, .bool fb])), (7, some 24, .own2 [6] (fun vs v => ∃ x, vs.getD 0 undef = .tuple #[v, x])), (9, some 7, .box #[.slice none 0 0, .int .i64 0, .int .i64 0, .slice none 0 0, .slice none 0 0, .slice none 0 0, .int .i64 0] 31)]) (by rfl) ?steps ?fin ?lag
      case steps =>
        refine StepsT.cons [] (by simp only [List.getElem?_toArray, List.getElem?_cons_succ, List.getElem?_cons_zero]; rfl) (by kernel_rfl) (by rfl) (fun wx val iv hB hV K hK => ?_) ?_
        · (obtain ⟨G, -⟩ := HC5.out wx hB; clear hV; simp only [putT, List.foldl_cons, List.foldl_nil, Made.val, Act.put, List.setIfInBounds_toArray, List.set_cons_zero, List.set_cons_succ]; rw [if_pos (by rfl)]; exact wp_load_row 31 (.tmp 2) (by rfl) w.heap.size (by rfl) 31 #[.slice q0 E.hands.length d0, .int .i64 E.leader, .int .i64 E.trump, .slice q3 E.trick.length d3, .slice q4 E.won.length d4, .slice q5 E.points.length d5, .int .i64 E.left] (0, 0) _ G Tryd.underlying31 (by rfl) (by kernel_rfl) (hK.out _ _ rfl (Below.refl _ _)))
        refine StepsT.cons [] (by simp only [List.getElem?_toArray, List.getElem?_cons_succ, List.getElem?_cons_zero]; rfl) (by kernel_rfl) (by rfl) (fun wx val iv hB hV K hK => ?_) ?_
        · clear hV; simp only [putT, List.foldl_cons, List.foldl_nil, Made.val, Act.put, List.setIfInBounds_toArray, List.set_cons_zero, List.set_cons_succ]; go_simp; exact hK.out _ _ rfl (Below.refl _ _)
        refine StepsT.cons [] (by simp only [List.getElem?_toArray, List.getElem?_cons_succ, List.getElem?_cons_zero]; rfl) (by kernel_rfl) (by rfl) (fun wx val iv hB hV K hK => ?_) ?_
        · clear hV; simp only [putT, List.foldl_cons, List.foldl_nil, Made.val, Act.put, List.setIfInBounds_toArray, List.set_cons_zero, List.set_cons_succ]; go_simp; exact hK.out _ _ rfl (Below.refl _ _)
        refine StepsT.cons [(1, some 19, .is (.slice (some ⟨bz, off, none⟩) n capc)), (2, some 20, .is (.int .i64 (k : Int)))] (by simp only [List.getElem?_toArray, List.getElem?_cons_succ, List.getElem?_cons_zero]; rfl) (by kernel_rfl) (by rfl) (fun wx val iv hB hV K hK => ?_) ?_
        · (obtain ⟨k0, k1⟩ := (HC5.out wx hB)); clear hV; simp only [putT, List.foldl_cons, List.foldl_nil, Made.val, Act.put, List.setIfInBounds_toArray, List.set_cons_zero, List.set_cons_succ]; go_simp; exact hK.out _ _ rfl (Below.refl _ _)
        refine StepsT.cons [(3, some 21, .is (.pointer (some ⟨bz, off + k, none⟩)))] (by simp only [List.getElem?_toArray, List.getElem?_cons_succ, List.getElem?_cons_zero]; rfl) (by kernel_rfl) (by rfl) (fun wx val iv hB hV K hK => ?_) ?_
        · (obtain ⟨k0, k1⟩ := (HC5.out wx hB)); clear hV; simp only [putT, List.foldl_cons, List.foldl_nil, Made.val, Act.put, List.setIfInBounds_toArray, List.set_cons_zero, List.set_cons_succ]; go_simp; exact hK.out _ _ rfl (Below.refl _ _)
        refine StepsT.cons [(0, some 18, .is (.agg #[.slice q0 E.hands.length d0, .int .i64 E.leader, .int .i64 E.trump, .slice q3 E.trick.length d3, .slice q4 E.won.length d4, .slice q5 E.points.length d5, .int .i64 E.left])), (4, some 22, .is (.int .i64 y))] (by simp only [List.getElem?_toArray, List.getElem?_cons_succ, List.getElem?_cons_zero]; rfl) (by kernel_rfl) (by rfl) (fun wx val iv hB hV K hK => ?_) ?_
        · (have HQ := HPC'.out wx hB; clear hV; simp only [putT, List.foldl_cons, List.foldl_nil, Made.val, Act.put, List.setIfInBounds_toArray, List.set_cons_zero, List.set_cons_succ]; go_simp; go_at_call 20; refine HQ.mono ?_; rintro e wa ⟨va, rfl, hwa, Ba⟩; exact hK.out _ _ ⟨va, rfl, hwa⟩ Ba)
        refine StepsT.cons [(5, some 23, .own (fun S w v => ∃ v2, v = .tuple #[v2, .bool fb] ∧ WrDeal S w v2 (playD E y)) (fun S w w' v h b => by obtain ⟨v2, e, h2⟩ := h; exact ⟨v2, e, h2.below b⟩))] (by simp only [List.getElem?_toArray, List.getElem?_cons_succ, List.getElem?_cons_zero]; rfl) (by kernel_rfl) (by rfl) (fun wx val iv hB hV K hK => ?_) ?_
        · (obtain ⟨v2, e5, -⟩ := hV (5, some 23, .own (fun S w v => ∃ v2, v = .tuple #[v2, .bool fb] ∧ WrDeal S w v2 (playD E y)) (fun S w w' v h b => by obtain ⟨v2, e, h2⟩ := h; exact ⟨v2, e, h2.below b⟩)) (by simp); (try dsimp only at e5); clear hV; simp only [putT, List.foldl_cons, List.foldl_nil, Made.val, Act.put, List.setIfInBounds_toArray, List.set_cons_zero, List.set_cons_succ]; rw [e5]; go_simp; rw [← e5]; exact hK.out _ _ ⟨rfl, v2, e5⟩ (Below.refl _ _))
        refine StepsT.cons [(6, some 17, .own2 [5] (fun vs v => v = vs.getD 0 undef ∧ ∃ v2, v = .tuple #[v2, .bool fb]))] (by simp only [List.getElem?_toArray, List.getElem?_cons_succ, List.getElem?_cons_zero]; rfl) (by kernel_rfl) (by rfl) (fun wx val iv hB hV K hK => ?_) ?_
        · (obtain ⟨-, v2, e6⟩ := hV (6, some 17, .own2 [5] (fun vs v => v = vs.getD 0 undef ∧ ∃ v2, v = .tuple #[v2, .bool fb])) (by simp); (try dsimp only at e6); clear hV; simp only [putT, List.foldl_cons, List.foldl_nil, Made.val, Act.put, List.setIfInBounds_toArray, List.set_cons_zero, List.set_cons_succ]; rw [e6]; go_simp; rw [← e6]; exact hK.out _ _ ⟨_, e6⟩ (Below.refl _ _))
        refine StepsT.cons [(6, some 17, .own2 [5] (fun vs v => v = vs.getD 0 undef ∧ ∃ v2, v = .tuple #[v2, .bool fb]))] (by simp only [List.getElem?_toArray, List.getElem?_cons_succ, List.getElem?_cons_zero]; rfl) (by kernel_rfl) (by rfl) (fun wx val iv hB hV K hK => ?_) ?_
        · (obtain ⟨-, v2, e6⟩ := hV (6, some 17, .own2 [5] (fun vs v => v = vs.getD 0 undef ∧ ∃ v2, v = .tuple #[v2, .bool fb])) (by simp); (try dsimp only at e6); clear hV; simp only [putT, List.foldl_cons, List.foldl_nil, Made.val, Act.put, List.setIfInBounds_toArray, List.set_cons_zero, List.set_cons_succ]; rw [e6]; go_simp; rw [← e6]; exact hK.out _ _ rfl (Below.refl _ _))
        refine StepsT.cons [] (by simp only [List.getElem?_toArray, List.getElem?_cons_succ, List.getElem?_cons_zero]; rfl) (by kernel_rfl) (by rfl) (fun wx val iv hB hV K hK => ?_) ?_
        · clear hV; simp only [putT, List.foldl_cons, List.foldl_nil, Made.val, Act.put, List.setIfInBounds_toArray, List.set_cons_zero, List.set_cons_succ]; go_simp; exact hK.out _ _ ⟨rfl, heap_alloc_new _ _, by simp⟩ ((Below.refl _ _).alloc (Nat.le_refl _) _)
        exact StepsT.nil
      case fin =>
        intro wx val iv BX hV hD
        obtain ⟨⟨v2, e5, hw2⟩, L5, U5⟩ := hV (5, some 23, .own (fun S w v => ∃ v2, v = .tuple #[v2, .bool fb] ∧ WrDeal S w v2 (playD E y)) (fun S w w' v h b => by obtain ⟨v2, e, h2⟩ := h; exact ⟨v2, e, h2.below b⟩)) (by simp)
        obtain ⟨⟨eb, hbx, lb⟩, lbx, ubx⟩ := hV (9, some 7, .box #[.slice none 0 0, .int .i64 0, .int .i64 0, .slice none 0 0, .slice none 0 0, .slice none 0 0, .int .i64 0] 31) (by simp)
        have x59 := hD 5 (by simp) 9 (by simp) (by decide)
        obtain ⟨⟨e6, -⟩, -, -⟩ := hV (6, some 17, .own2 [5] (fun vs v => v = vs.getD 0 undef ∧ ∃ v2, v = .tuple #[v2, .bool fb])) (by simp)
        obtain ⟨⟨x7, e7⟩, -, -⟩ := hV (7, some 24, .own2 [6] (fun vs v => ∃ x, vs.getD 0 undef = .tuple #[v, x])) (by simp)
        (try dsimp only at e5)
        have hw2 : WrDeal (In (iv 5).1 (iv 5).2) wx v2 (playD E y) := hw2
        (try dsimp only at eb)
        (try dsimp only at hbx)
        (try dsimp only at lb)
        dsimp only at L5 U5 lbx ubx
        replace e6 : val 6 = val 5 := e6
        replace e7 : val 6 = .tuple #[val 7, x7] := e7
        have e77 : val 7 = v2 := by
          have := e7.symm.trans (e6.trans e5)
          simp at this
          exact this.1
        clear e7
        obtain ⟨u0, u3, u4, u5, f0, f3, f4, f5, ev⟩ := hw2.shape
        subst ev
        obtain ⟨hws, pa, hall⟩ := HP.out
        obtain ⟨rr, hrr⟩ : ∃ r, r = (iv 9).1 := ⟨_, rfl⟩
        rw [← hrr] at eb hbx lb lbx x59
        obtain ⟨Y, hY⟩ : ∃ Y, Y = wx.setRow rr #[.slice u0 (playD E y).hands.length f0, .int .i64 (playD E y).leader, .int .i64 (playD E y).trump, .slice u3 (playD E y).trick.length f3, .slice u4 (playD E y).won.length f4, .slice u5 (playD E y).points.length f5, .int .i64 (playD E y).left] := ⟨_, rfl⟩
        have sY : Y.heap.size = wx.heap.size := by rw [hY]; simp [World.setRow]
        have bY : Below wr.heap.size wr Y := by rw [hY]; exact below_setRow BX lbx _
        have gY : Y.heap[rr]? = some (.cells #[.slice u0 (playD E y).hands.length f0, .int .i64 (playD E y).leader, .int .i64 (playD E y).trump, .slice u3 (playD E y).trick.length f3, .slice u4 (playD E y).won.length f4, .slice u5 (playD E y).points.length f5, .int .i64 (playD E y).left] 31 (0, 0)) := by rw [hY]; exact setRow_heap _ _ _ _ _ _ hbx
        have hw3 : WrDeal (In (iv 5).1 (iv 5).2) Y (.agg #[.slice u0 (playD E y).hands.length f0, .int .i64 (playD E y).leader, .int .i64 (playD E y).trump, .slice u3 (playD E y).trick.length f3, .slice u4 (playD E y).won.length f4, .slice u5 (playD E y).points.length f5, .int .i64 (playD E y).left]) (playD E y) := by rw [hY]; exact hw2.touch (touchRow wx rr _) (fun b hb e => by have := hb.1; have := hb.2; omega)
        have paN := pa.next bY hw3 L5 (by omega) hws hbox.out.1 hbox.out.2
        have paY := pa.below bY
        obtain ⟨⟨_, _, _, _, _, _, _, _, go, -⟩, -, -⟩ := id paY
        obtain ⟨Z, hZ⟩ : ∃ Z, Z = Y.setRow w.heap.size #[.slice u0 (playD E y).hands.length f0, .int .i64 (playD E y).leader, .int .i64 (playD E y).trump, .slice u3 (playD E y).trick.length f3, .slice u4 (playD E y).won.length f4, .slice u5 (playD E y).points.length f5, .int .i64 (playD E y).left] := ⟨_, rfl⟩
        rw [← hZ] at paN
        have sZ : W0.heap.size ≤ Z.heap.size := by rw [hZ]; simp [World.setRow]; have := bY.size; omega
        have HPY := Lib.hid (And.intro paY (And.intro hall (And.intro sZ (And.intro gY go))))
        have HPN := Lib.hid paN
        have HY := Lib.hid hY
        have HZ := Lib.hid hZ
        clear hV hD hw2 hw3 L5 U5 lb lbx ubx x59 hws pa hall hrr sY bY gY paN paY go hZ sZ hY BX HP HPC' HPCh HC5
        simp only [putT, List.foldl_cons, List.foldl_nil, Made.val, Act.put, List.setIfInBounds_toArray, List.set_cons_zero, List.set_cons_succ]
        rw [e6, e5, e77, eb]
        clear e5 eb e6 e77
        refine wpAny_one (i := 10) (by kernel_rfl) (by simp only [List.getElem?_toArray, List.getElem?_cons_succ, List.getElem?_cons_zero]; rfl) (fun K hK => ?_)
        rw [if_pos (by rfl)]
        refine wp_store_row 31 (.tmp 7) (.tmp 24) (by rfl) rr #[.slice u0 (playD E y).hands.length f0, .int .i64 (playD E y).leader, .int .i64 (playD E y).trump, .slice u3 (playD E y).trick.length f3, .slice u4 (playD E y).won.length f4, .slice u5 (playD E y).points.length f5, .int .i64 (playD E y).left] (by rfl) (by rfl) 31 _ hbx (by kernel_rfl) (by rfl) (by simp [Value.oneCell']) (hK.out _ _ ?_)
        clear hK K hbx
        refine wpAny_one (i := 11) (by kernel_rfl) (by simp only [List.getElem?_toArray, List.getElem?_cons_succ, List.getElem?_cons_zero]; rfl) (fun K hK => ?_)
        go_simp
        refine hK.out _ _ ?_
        clear hK K
        refine wpAny_end (by kernel_rfl) ?_
        rw [← HY.out]
        clear HY
        cases fb with
        | false =>
          obtain ⟨e1, e2⟩ := playAll_stop zs D k (by rw [← Hn.out]; exact hlt) HPY.out.2.1 (by rw [← hE.out, ← hy.out]; exact hfb.out.symm)
          have HD : Hid (playAllD D zs = E) := Lib.hid (by rw [e1, hE.out])
          have HN := Lib.hid e2
          have pa := HPY.out.1
          clear e1 e2
          obtain ⟨q0, q3, q4, q5, d0, d3, d4, d5, gr, g1, gN, hN, bN⟩ := pa.final (Nat.le_succ _) (by have := Hsz.out; omega)
          have HX := Lib.hid (And.intro gN (And.intro hN bN))
          clear pa gN hN bN
          go_upto_region 7 with fail
          refine wp_region_lit ?_
          refine wpList_load_row rfl 31 _ rfl w.heap.size rfl 31 _ _ _ gr Tryd.underlying31 rfl (by kernel_rfl) ?_
          clear gr
          refine wpList_plain (by rfl) (fun K hK => ?_)
          go_simp
          refine hK _ _ ?_
          clear hK K
          refine wpList_store_row rfl 31 _ _ rfl (w.heap.size + 1) #[.slice q0 E.hands.length d0, .int .i64 E.leader, .int .i64 E.trump, .slice q3 E.trick.length d3, .slice q4 E.won.length d4, .slice q5 E.points.length d5, .int .i64 E.left] rfl rfl 31 _ g1 (by kernel_rfl) rfl (by simp [Value.oneCell']) ?_
          clear g1
          go_wp2_with fail
          refine bodyPost_ret (results_row_tmp rfl _ _ (w.heap.size + 1) _ _ _ _ rfl HX.out.1 Tryd.underlying31 rfl (by kernel_rfl)) rfl ?_
          rw [HD.out, HN.out]
          exact ⟨_, rfl, HX.out.2.1, HX.out.2.2⟩
          | true =>
          have hq : playOK E y = true := hfb.out.symm
          have HPN2 : Hid (W0.heap.size ≤ Z.heap.size ∧ PA W0.heap.size (w.heap.size + 1) w.heap.size w Z (runP D zs (k + 1)) ∧ ∀ i, i < k + 1 → playOK (runP D zs i) (zs.getD i 0) = true) := Lib.hid ⟨HPY.out.2.2.1, by rw [hsucc.out]; exact HPN.out, fun i hi => by
            by_cases e : i < k
            · exact HPY.out.2.1 i e
            · obtain rfl : i = k := by omega
              rw [← hE.out]
              have : zs.getD i 0 = y := by rw [hy.out]; simp [List.getD, hzl]
              rw [this]; exact hq⟩
          obtain ⟨gY, go⟩ := HPY.out.2.2.2
          clear hq HPY HPN
          go_upto_region 8 with fail
          refine wp_region_lit ?_
          refine wpList_load_row rfl 31 _ rfl rr rfl 31 _ _ _ gY Tryd.underlying31 rfl (by kernel_rfl) ?_
          clear gY
          refine wpList_store_row rfl 31 _ _ rfl w.heap.size #[.slice u0 (playD E y).hands.length f0, .int .i64 (playD E y).leader, .int .i64 (playD E y).trump, .slice u3 (playD E y).trick.length f3, .slice u4 (playD E y).won.length f4, .slice u5 (playD E y).points.length f5, .int .i64 (playD E y).left] rfl rfl 31 _ go (by kernel_rfl) rfl (by simp [Value.oneCell']) ?_
          clear go
          rw [← HZ.out]
          clear HZ
          have hkm : (k : Int) < 9223372036854775807 := by omega
          go_wp2_with fail
          go_roundw
          case rel => exact ⟨k + 1, by omega, by go_num, HPN2⟩
          case measure => simp [intOf]; omega
      case lag =>
        intro wx val iv BX hV hD
        obtain ⟨⟨v2, e5, hw2⟩, L5, U5⟩ := hV (5, some 23, .own (fun S w v => ∃ v2, v = .tuple #[v2, .bool fb] ∧ WrDeal S w v2 (playD E y)) (fun S w w' v h b => by obtain ⟨v2, e, h2⟩ := h; exact ⟨v2, e, h2.below b⟩)) (by simp) (by simp)
        obtain ⟨⟨eb, hbx, lb⟩, lbx, ubx⟩ := hV (9, some 7, .box #[.slice none 0 0, .int .i64 0, .int .i64 0, .slice none 0 0, .slice none 0 0, .slice none 0 0, .int .i64 0] 31) (by simp) (by simp)
        have x59 := hD 5 (by simp) 9 (by simp) (by simp) (by simp) (by decide)
        obtain ⟨⟨e6, -⟩, -, -⟩ := hV (6, some 17, .own2 [5] (fun vs v => v = vs.getD 0 undef ∧ ∃ v2, v = .tuple #[v2, .bool fb])) (by simp) (by simp)
        obtain ⟨⟨x7, e7⟩, -, -⟩ := hV (7, some 24, .own2 [6] (fun vs v => ∃ x, vs.getD 0 undef = .tuple #[v, x])) (by simp) (by simp)
        (try dsimp only at e5)
        have hw2 : WrDeal (In (iv 5).1 (iv 5).2) wx v2 (playD E y) := hw2
        (try dsimp only at eb)
        (try dsimp only at hbx)
        (try dsimp only at lb)
        dsimp only at L5 U5 lbx ubx
        replace e6 : val 6 = val 5 := e6
        replace e7 : val 6 = .tuple #[val 7, x7] := e7
        have e77 : val 7 = v2 := by
          have := e7.symm.trans (e6.trans e5)
          simp at this
          exact this.1
        clear e7
        obtain ⟨u0, u3, u4, u5, f0, f3, f4, f5, ev⟩ := hw2.shape
        subst ev
        obtain ⟨hws, pa, hall⟩ := HP.out
        obtain ⟨rr, hrr⟩ : ∃ r, r = (iv 9).1 := ⟨_, rfl⟩
        rw [← hrr] at eb hbx lb lbx x59
        obtain ⟨Y, hY⟩ : ∃ Y, Y = wx.setRow rr #[.slice u0 (playD E y).hands.length f0, .int .i64 (playD E y).leader, .int .i64 (playD E y).trump, .slice u3 (playD E y).trick.length f3, .slice u4 (playD E y).won.length f4, .slice u5 (playD E y).points.length f5, .int .i64 (playD E y).left] := ⟨_, rfl⟩
        have sY : Y.heap.size = wx.heap.size := by rw [hY]; simp [World.setRow]
        have bY : Below wr.heap.size wr Y := by rw [hY]; exact below_setRow BX lbx _
        have gY : Y.heap[rr]? = some (.cells #[.slice u0 (playD E y).hands.length f0, .int .i64 (playD E y).leader, .int .i64 (playD E y).trump, .slice u3 (playD E y).trick.length f3, .slice u4 (playD E y).won.length f4, .slice u5 (playD E y).points.length f5, .int .i64 (playD E y).left] 31 (0, 0)) := by rw [hY]; exact setRow_heap _ _ _ _ _ _ hbx
        have hw3 : WrDeal (In (iv 5).1 (iv 5).2) Y (.agg #[.slice u0 (playD E y).hands.length f0, .int .i64 (playD E y).leader, .int .i64 (playD E y).trump, .slice u3 (playD E y).trick.length f3, .slice u4 (playD E y).won.length f4, .slice u5 (playD E y).points.length f5, .int .i64 (playD E y).left]) (playD E y) := by rw [hY]; exact hw2.touch (touchRow wx rr _) (fun b hb e => by have := hb.1; have := hb.2; omega)
        have paN := pa.next bY hw3 L5 (by omega) hws hbox.out.1 hbox.out.2
        have paY := pa.below bY
        obtain ⟨⟨_, _, _, _, _, _, _, _, go, -⟩, -, -⟩ := id paY
        obtain ⟨Z, hZ⟩ : ∃ Z, Z = Y.setRow w.heap.size #[.slice u0 (playD E y).hands.length f0, .int .i64 (playD E y).leader, .int .i64 (playD E y).trump, .slice u3 (playD E y).trick.length f3, .slice u4 (playD E y).won.length f4, .slice u5 (playD E y).points.length f5, .int .i64 (playD E y).left] := ⟨_, rfl⟩
        rw [← hZ] at paN
        have sZ : W0.heap.size ≤ Z.heap.size := by rw [hZ]; simp [World.setRow]; have := bY.size; omega
        have HPY := Lib.hid (And.intro paY (And.intro hall (And.intro sZ (And.intro gY go))))
        have HPN := Lib.hid paN
        have HY := Lib.hid hY
        have HZ := Lib.hid hZ
        clear hV hD hw2 hw3 L5 U5 lb lbx ubx x59 hws pa hall hrr sY bY gY paN paY go hZ sZ hY BX HP HPC' HPCh HC5
        simp only [putT, List.foldl_cons, List.foldl_nil, Made.val, Act.put, List.setIfInBounds_toArray, List.set_cons_zero, List.set_cons_succ]
        rw [e6, e5, e77, eb]
        clear e5 eb e6 e77
        refine wpAny_pair (i := 8) (k := 10) (by kernel_rfl) (by simp only [List.getElem?_toArray, List.getElem?_cons_succ, List.getElem?_cons_zero]; rfl) (by simp only [List.getElem?_toArray, List.getElem?_cons_succ, List.getElem?_cons_zero]; rfl) (fun K hK => ?_) (fun K hK => ?_)
        · skip
          go_simp
          refine hK.out _ _ ?_
          clear hK K
          refine wpAny_one (i := 10) (by kernel_rfl) (by simp only [List.getElem?_toArray, List.getElem?_cons_succ, List.getElem?_cons_zero]; rfl) (fun K hK => ?_)
          rw [if_pos (by rfl)]
          refine wp_store_row 31 (.tmp 7) (.tmp 24) (by rfl) rr #[.slice u0 (playD E y).hands.length f0, .int .i64 (playD E y).leader, .int .i64 (playD E y).trump, .slice u3 (playD E y).trick.length f3, .slice u4 (playD E y).won.length f4, .slice u5 (playD E y).points.length f5, .int .i64 (playD E y).left] (by rfl) (by rfl) 31 _ hbx (by kernel_rfl) (by rfl) (by simp [Value.oneCell']) (hK.out _ _ ?_)
          clear hK K hbx
          refine wpAny_one (i := 11) (by kernel_rfl) (by simp only [List.getElem?_toArray, List.getElem?_cons_succ, List.getElem?_cons_zero]; rfl) (fun K hK => ?_)
          go_simp
          refine hK.out _ _ ?_
          clear hK K
          refine wpAny_end (by kernel_rfl) ?_
          rw [← HY.out]
          clear HY
          cases fb with
          | false =>
            obtain ⟨e1, e2⟩ := playAll_stop zs D k (by rw [← Hn.out]; exact hlt) HPY.out.2.1 (by rw [← hE.out, ← hy.out]; exact hfb.out.symm)
            have HD : Hid (playAllD D zs = E) := Lib.hid (by rw [e1, hE.out])
            have HN := Lib.hid e2
            have pa := HPY.out.1
            clear e1 e2
            obtain ⟨q0, q3, q4, q5, d0, d3, d4, d5, gr, g1, gN, hN, bN⟩ := pa.final (Nat.le_succ _) (by have := Hsz.out; omega)
            have HX := Lib.hid (And.intro gN (And.intro hN bN))
            clear pa gN hN bN
            go_upto_region 7 with fail
            refine wp_region_lit ?_
            refine wpList_load_row rfl 31 _ rfl w.heap.size rfl 31 _ _ _ gr Tryd.underlying31 rfl (by kernel_rfl) ?_
            clear gr
            refine wpList_plain (by rfl) (fun K hK => ?_)
            go_simp
            refine hK _ _ ?_
            clear hK K
            refine wpList_store_row rfl 31 _ _ rfl (w.heap.size + 1) #[.slice q0 E.hands.length d0, .int .i64 E.leader, .int .i64 E.trump, .slice q3 E.trick.length d3, .slice q4 E.won.length d4, .slice q5 E.points.length d5, .int .i64 E.left] rfl rfl 31 _ g1 (by kernel_rfl) rfl (by simp [Value.oneCell']) ?_
            clear g1
            go_wp2_with fail
            refine bodyPost_ret (results_row_tmp rfl _ _ (w.heap.size + 1) _ _ _ _ rfl HX.out.1 Tryd.underlying31 rfl (by kernel_rfl)) rfl ?_
            rw [HD.out, HN.out]
            exact ⟨_, rfl, HX.out.2.1, HX.out.2.2⟩
            | true =>
            have hq : playOK E y = true := hfb.out.symm
            have HPN2 : Hid (W0.heap.size ≤ Z.heap.size ∧ PA W0.heap.size (w.heap.size + 1) w.heap.size w Z (runP D zs (k + 1)) ∧ ∀ i, i < k + 1 → playOK (runP D zs i) (zs.getD i 0) = true) := Lib.hid ⟨HPY.out.2.2.1, by rw [hsucc.out]; exact HPN.out, fun i hi => by
              by_cases e : i < k
              · exact HPY.out.2.1 i e
              · obtain rfl : i = k := by omega
                rw [← hE.out]
                have : zs.getD i 0 = y := by rw [hy.out]; simp [List.getD, hzl]
                rw [this]; exact hq⟩
            obtain ⟨gY, go⟩ := HPY.out.2.2.2
            clear hq HPY HPN
            go_upto_region 8 with fail
            refine wp_region_lit ?_
            refine wpList_load_row rfl 31 _ rfl rr rfl 31 _ _ _ gY Tryd.underlying31 rfl (by kernel_rfl) ?_
            clear gY
            refine wpList_store_row rfl 31 _ _ rfl w.heap.size #[.slice u0 (playD E y).hands.length f0, .int .i64 (playD E y).leader, .int .i64 (playD E y).trump, .slice u3 (playD E y).trick.length f3, .slice u4 (playD E y).won.length f4, .slice u5 (playD E y).points.length f5, .int .i64 (playD E y).left] rfl rfl 31 _ go (by kernel_rfl) rfl (by simp [Value.oneCell']) ?_
            clear go
            rw [← HZ.out]
            clear HZ
            have hkm : (k : Int) < 9223372036854775807 := by omega
            go_wp2_with fail
            go_roundw
            case rel => exact ⟨k + 1, by omega, by go_num, HPN2⟩
            case measure => simp [intOf]; omega
        · skip
          rw [if_pos (by rfl)]
          refine wp_store_row 31 (.tmp 7) (.tmp 24) (by rfl) rr #[.slice u0 (playD E y).hands.length f0, .int .i64 (playD E y).leader, .int .i64 (playD E y).trump, .slice u3 (playD E y).trick.length f3, .slice u4 (playD E y).won.length f4, .slice u5 (playD E y).points.length f5, .int .i64 (playD E y).left] (by rfl) (by rfl) 31 _ hbx (by kernel_rfl) (by rfl) (by simp [Value.oneCell']) (hK.out _ _ ?_)
          clear hK K hbx
          refine wpAny_one (i := 8) (by kernel_rfl) (by simp only [List.getElem?_toArray, List.getElem?_cons_succ, List.getElem?_cons_zero]; rfl) (fun K hK => ?_)
          go_simp
          refine hK.out _ _ ?_
          clear hK K
          refine wpAny_one (i := 11) (by kernel_rfl) (by simp only [List.getElem?_toArray, List.getElem?_cons_succ, List.getElem?_cons_zero]; rfl) (fun K hK => ?_)
          go_simp
          refine hK.out _ _ ?_
          clear hK K
          refine wpAny_end (by kernel_rfl) ?_
          rw [← HY.out]
          clear HY
          cases fb with
          | false =>
            obtain ⟨e1, e2⟩ := playAll_stop zs D k (by rw [← Hn.out]; exact hlt) HPY.out.2.1 (by rw [← hE.out, ← hy.out]; exact hfb.out.symm)
            have HD : Hid (playAllD D zs = E) := Lib.hid (by rw [e1, hE.out])
            have HN := Lib.hid e2
            have pa := HPY.out.1
            clear e1 e2
            obtain ⟨q0, q3, q4, q5, d0, d3, d4, d5, gr, g1, gN, hN, bN⟩ := pa.final (Nat.le_succ _) (by have := Hsz.out; omega)
            have HX := Lib.hid (And.intro gN (And.intro hN bN))
            clear pa gN hN bN
            go_upto_region 7 with fail
            refine wp_region_lit ?_
            refine wpList_load_row rfl 31 _ rfl w.heap.size rfl 31 _ _ _ gr Tryd.underlying31 rfl (by kernel_rfl) ?_
            clear gr
            refine wpList_plain (by rfl) (fun K hK => ?_)
            go_simp
            refine hK _ _ ?_
            clear hK K
            refine wpList_store_row rfl 31 _ _ rfl (w.heap.size + 1) #[.slice q0 E.hands.length d0, .int .i64 E.leader, .int .i64 E.trump, .slice q3 E.trick.length d3, .slice q4 E.won.length d4, .slice q5 E.points.length d5, .int .i64 E.left] rfl rfl 31 _ g1 (by kernel_rfl) rfl (by simp [Value.oneCell']) ?_
            clear g1
            go_wp2_with fail
            refine bodyPost_ret (results_row_tmp rfl _ _ (w.heap.size + 1) _ _ _ _ rfl HX.out.1 Tryd.underlying31 rfl (by kernel_rfl)) rfl ?_
            rw [HD.out, HN.out]
            exact ⟨_, rfl, HX.out.2.1, HX.out.2.2⟩
            | true =>
            have hq : playOK E y = true := hfb.out.symm
            have HPN2 : Hid (W0.heap.size ≤ Z.heap.size ∧ PA W0.heap.size (w.heap.size + 1) w.heap.size w Z (runP D zs (k + 1)) ∧ ∀ i, i < k + 1 → playOK (runP D zs i) (zs.getD i 0) = true) := Lib.hid ⟨HPY.out.2.2.1, by rw [hsucc.out]; exact HPN.out, fun i hi => by
              by_cases e : i < k
              · exact HPY.out.2.1 i e
              · obtain rfl : i = k := by omega
                rw [← hE.out]
                have : zs.getD i 0 = y := by rw [hy.out]; simp [List.getD, hzl]
                rw [this]; exact hq⟩
            obtain ⟨gY, go⟩ := HPY.out.2.2.2
            clear hq HPY HPN
            go_upto_region 8 with fail
            refine wp_region_lit ?_
            refine wpList_load_row rfl 31 _ rfl rr rfl 31 _ _ _ gY Tryd.underlying31 rfl (by kernel_rfl) ?_
            clear gY
            refine wpList_store_row rfl 31 _ _ rfl w.heap.size #[.slice u0 (playD E y).hands.length f0, .int .i64 (playD E y).leader, .int .i64 (playD E y).trump, .slice u3 (playD E y).trick.length f3, .slice u4 (playD E y).won.length f4, .slice u5 (playD E y).points.length f5, .int .i64 (playD E y).left] rfl rfl 31 _ go (by kernel_rfl) rfl (by simp [Value.oneCell']) ?_
            clear go
            rw [← HZ.out]
            clear HZ
            have hkm : (k : Int) < 9223372036854775807 := by omega
            go_wp2_with fail
            go_roundw
            case rel => exact ⟨k + 1, by omega, by go_num, HPN2⟩
            case measure => simp [intOf]; omega
    · obtain rfl : k = n := by omega
      obtain ⟨hws, pa, hall⟩ := hrel.out
      obtain ⟨e1, e2⟩ := playAll_full zs D (by rw [← Hn.out]; exact hall)
      obtain ⟨E, hE⟩ : ∃ E, Hid (E = runP D zs k) := ⟨_, Lib.hid rfl⟩
      have HD : Hid (playAllD D zs = E) := Lib.hid (by rw [e1, hE.out, Hn.out])
      have HN : Hid (playAllN D zs = k) := Lib.hid (by rw [e2, Hn.out])
      rw [← hE.out] at pa
      clear e1 e2 hall hws hrel
      obtain ⟨q0, q3, q4, q5, d0, d3, d4, d5, gr, g1, gN, hN, bN⟩ := pa.final (Nat.le_succ _) (by have := Hsz.out; omega)
      have HX := Lib.hid (And.intro gN (And.intro hN bN))
      clear pa gN hN bN
      go_upto_region 9 with fail
      refine wp_region_lit ?_
      refine wpList_load_row rfl 31 _ rfl w.heap.size rfl 31 _ _ _ gr Tryd.underlying31 rfl (by kernel_rfl) ?_
      clear gr
      refine wpList_plain (by rfl) (fun K hK => ?_)
      go_simp
      refine hK _ _ ?_
      clear hK K
      refine wpList_plain (by rfl) (fun K hK => ?_)
      go_simp
      refine hK _ _ ?_
      clear hK K
      refine wpList_store_row rfl 31 _ _ rfl (w.heap.size + 1) #[.slice q0 E.hands.length d0, .int .i64 E.leader, .int .i64 E.trump, .slice q3 E.trick.length d3, .slice q4 E.won.length d4, .slice q5 E.points.length d5, .int .i64 E.left] rfl rfl 31 _ g1 (by kernel_rfl) rfl (by simp [Value.oneCell']) ?_
      clear g1
      go_wp2_with fail
      refine bodyPost_ret (results_row_tmp rfl _ _ (w.heap.size + 1) _ _ _ _ rfl HX.out.1 Tryd.underlying31 rfl (by kernel_rfl)) rfl ?_
      rw [HD.out, HN.out]
      exact ⟨_, rfl, HX.out.2.1, HX.out.2.2⟩
end M2
end Go.Proofs.YtbojhbhniollaaaDoor
