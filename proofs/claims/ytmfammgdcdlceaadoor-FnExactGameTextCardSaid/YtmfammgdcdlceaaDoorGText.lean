/-
  GameText, both sides.
-/
import Derived.Test.YtmfammgdcdlceaaDoorSizesW
import Derived.Test.YtmfammgdcdlceaaDoorGameQ
import Derived.Test.YtmfammgdcdlceaaDoorGameS
import Derived.Test.YtmfammgdcdlceaaDoorHeldO
import Derived.Test.YtmfammgdcdlceaaDoorMade
import Derived.Deep.Cut
namespace Go.Proofs.YtmfammgdcdlceaaDoor
open Go.RowKit
set_option linter.unusedVariables false
set_option linter.unusedSimpArgs false

theorem heap_some {D : MGame} (h : gameB D = true) : ∃ L, D.heap.length = L + 1 := by
  unfold gameB at h
  simp only [Bool.and_eq_true, Bool.not_eq_true', beq_eq_false_iff_ne] at h
  obtain ⟨-, -, h2, -⟩ := h
  rcases e : D.heap with _ | ⟨x, xs⟩
  · rw [e] at h2; exact absurd rfl h2
  · exact ⟨xs.length, rfl⟩
def cardTL (c : Int) : List UInt8 := (cardTxt c).data.toList
theorem cardTL_v (c : Int) : Value.string (cardTxt c) = .string ⟨(cardTL c).toArray⟩ := by
  unfold cardTL
  cases cardTxt c; rfl
theorem cardTL_len (c : Int) : (cardTL c).length ≤ 2 := by
  have := cardTxt_size c
  unfold cardTL
  simpa using this
theorem own_rdkept {w : World} {B : Nat} {v : Value} {zs : List Int} (h : w.ownsRow B 3 1 v zs.length (zs.map (Value.int .i64))) (hw : ∀ n ∈ zs, (Lit.int .i64 n).wf = true) : ∃ b, ∀ wx, StrKept w wx → RdAt .i64 wx v zs b := by
  obtain ⟨b, -, hwr⟩ := own_wr h hw
  refine ⟨b, fun wx hk => hwr.rd.keep fun hz => ?_⟩
  obtain ⟨-, h2⟩ := h
  rcases h2 with ⟨-, h0⟩ | ⟨g, cap, cur, rfl, hg, hh, hnc, hcm, hcs, htake⟩
  · exact absurd (List.eq_nil_of_length_eq_zero h0) hz
  · rcases hwr.rd.open with ⟨e, -⟩ | ⟨-, off, c, hv, -, -⟩
    · exact absurd e hz
    · have e := Option.some.inj (Value.slice.inj hv).1
      injection e with e1 _ _
      subst e1
      rw [hh]
      exact hk _ _ _ _ (.inr rfl) hh
def topG (D : MGame) : Int := D.heap.getD (D.heap.length - 1) 0
def frontL (D : MGame) : List UInt8 := Lib.itoa D.turn ++ [58] ++ cardTL (topG D)
def gameL (D : MGame) : List UInt8 := frontL D ++ allL sizeL (lensI D.hands) ++ [47] ++ Lib.itoa (D.stock.length : Int)
def gameTxt (D : MGame) : ByteArray := if gameB D = true then ⟨(gameL D).toArray⟩ else ⟨#[]⟩
theorem gameTxt_no {D : MGame} (h : gameB D = false) : gameTxt D = ⟨#[]⟩ := if_neg (by rw [h]; decide)
theorem gameTxt_yes {D : MGame} (h : gameB D = true) : gameTxt D = ⟨(gameL D).toArray⟩ := if_pos h
set_option maxRecDepth 100000 in
set_option maxHeartbeats 4000000 in
theorem sGameText_any (v : Value) (D : MGame) (w : World) (h : RdGame w v D) (hf : D.Few) :
    Calls Tryd.prog 21 #[v] w fun e w' => e = .returned (.string (gameTxt D)) ∧ Below w.heap.size w w' := by
  have h00 := h
  obtain ⟨p4, p5, p8, p9, p10, c4, c5, c8, c9, c10, b9, b10, rfl, -, h8, -, h10, wf0, -⟩ := h
  have HI := Lib.hid (fun wx (hb : Below w.heap.size w wx) => sIsGame_any _ D wx (h00.below hb) hf _ rfl)
  have HFM := Lib.hid (fun wx => sFormatInt_any D.turn wx wf0)
  have Hrow := Lib.hid (fun wx (hb : Below w.heap.size w wx) j (hj : j < D.hands.length) => (h8.below hb).row hj)
  have H10 := Lib.hid (fun wx (hb : Below w.heap.size w wx) => (h10.below hb).open)
  have hst : D.stock.length ≤ 1048576 := hf.2.2.2.1
  have hhl : D.hands.length ≤ 1048576 := hf.2.1
  have hsum : sumLen D.hands ≤ 1048576 := hf.2.2.1
  have hhp : D.heap.length ≤ 1048576 := hf.2.2.2.2
  have HL := Lib.hid (And.intro (itoaL_len wf0) (And.intro hst (And.intro hhl (And.intro hsum hhp))))
  have HFr : Hid (frontL D = Lib.itoa D.turn ++ [58] ++ cardTL (topG D)) := Lib.hid rfl
  have HGm : Hid (gameL D = frontL D ++ allL sizeL (lensI D.hands) ++ [47] ++ Lib.itoa (D.stock.length : Int)) := Lib.hid rfl
  have Hno := Lib.hid (@gameTxt_no D)
  have Hyes := Lib.hid (@gameTxt_yes D)
  have Hsome := Lib.hid (@heap_some D)
  have Htop : Hid (topG D = D.heap.getD (D.heap.length - 1) 0) := Lib.hid rfl
  have Hlw := Lib.hid (lensI_wf hsum)
  have Hln := Lib.hid (lensI_len D.hands)
  obtain ⟨nh, hnh⟩ : ∃ n, n = D.hands.length := ⟨_, rfl⟩
  obtain ⟨ns, hns⟩ : ∃ n, n = D.stock.length := ⟨_, rfl⟩
  obtain ⟨nl, hnl⟩ : ∃ n, n = D.heap.length := ⟨_, rfl⟩
  have HN := Lib.hid (And.intro hnh (And.intro hns hnl))
  rw [← hnh, ← hns, ← hnl] at HI ⊢
  obtain ⟨W0, hW0⟩ : ∃ W, W = w.alloc (.cells #[.int .i64 D.rules.players, .int .i64 D.rules.each, .bool D.rules.sameSuit, .bool D.rules.sameRank, .slice p4 D.rules.wild.length c4, .slice p5 D.rules.skip.length c5, .int .i64 D.rules.take, .int .i64 D.rules.limit, .slice p8 nh c8, .slice p9 ns c9, .slice p10 nl c10, .int .i64 D.turn, .int .i64 D.moves, .int .i64 D.passes] 47) := ⟨_, rfl⟩
  have G0 : W0.heap[w.heap.size]? = some (.cells #[.int .i64 D.rules.players, .int .i64 D.rules.each, .bool D.rules.sameSuit, .bool D.rules.sameRank, .slice p4 D.rules.wild.length c4, .slice p5 D.rules.skip.length c5, .int .i64 D.rules.take, .int .i64 D.rules.limit, .slice p8 nh c8, .slice p9 ns c9, .slice p10 nl c10, .int .i64 D.turn, .int .i64 D.moves, .int .i64 D.passes] 47 (0, 0)) := by rw [hW0]; exact heap_alloc_new _ _
  have hsz : W0.heap.size = w.heap.size + 1 := by rw [hW0]; simp
  have B0 : Below w.heap.size w W0 := by rw [hW0]; exact (Below.refl _ _).alloc (Nat.le_refl _) _
  have HW := Lib.hid hW0
  have HGX : Hid (∀ wx, Below W0.heap.size W0 wx → wx.heap[w.heap.size]? = some (.cells #[.int .i64 D.rules.players, .int .i64 D.rules.each, .bool D.rules.sameSuit, .bool D.rules.sameRank, .slice p4 D.rules.wild.length c4, .slice p5 D.rules.skip.length c5, .int .i64 D.rules.take, .int .i64 D.rules.limit, .slice p8 nh c8, .slice p9 ns c9, .slice p10 nl c10, .int .i64 D.turn, .int .i64 D.moves, .int .i64 D.passes] 47 (0, 0)) ∧ Below w.heap.size w wx) := Lib.hid (fun wx hb => ⟨(hb.block _ (by omega)).trans G0, B0.trans (hb.mono B0.size)⟩)
  have HI0 := Lib.hid (HI.out W0 B0)
  have HG0 := Lib.hid (And.intro G0 hsz)
  clear h00 h8 h10 hf hW0 hnh hns hnl wf0 HI hsz B0 hst hhl hsum hhp G0
  go_enter Tryd.func21, Tryd.ntmps21
  go_upto_region 1 with fail
  rw [← HW.out]
  refine wp_region_lit ?_
  refine wpList_load_row rfl 47 _ rfl w.heap.size rfl 47 _ _ _ HG0.out.1 Tryd.underlying47 rfl (by kernel_rfl) ?_
  go_wp2_with fail
  refine HI0.out.mono ?_
  rintro e w1 ⟨rfl, bb1⟩
  cases hg : gameB D with
  | false =>
    have HT := Lib.hid (Hno.out hg)
    have B1 := (HGX.out w1 bb1).2
    clear hg bb1
    go_wp2_with fail
    go_ret
    exact ⟨by rw [HT.out]; rfl, B1⟩
  | true =>
    have HT := Lib.hid (Hyes.out hg)
    obtain ⟨L, hL⟩ := Hsome.out hg
    rw [← HN.out.2.2] at hL
    clear hg
    have hwrap : IntKind.i64.wrap ((nl : Int) - 1) = (L : Int) := by have h1 := HL.out; have h2 := HN.out; rw [IntWalk.i64_in _ (by omega)]; omega
    have hLl : L < nl := by omega
    have hLi : (L : Int) < (nl : Int) := by omega
    have hL0 : (0 : Int) ≤ (L : Int) := by omega
    have hLz : L < D.heap.length := by rw [← HN.out.2.2]; omega
    have Htp : Hid (topG D = D.heap[L]'hLz) := Lib.hid (by rw [Htop.out, ← HN.out.2.2, hL]; simp [List.getD, hLz])
    obtain ⟨off10, hp10, hc10⟩ : ∃ off, p10 = some ⟨b10, off, none⟩ ∧ ∀ wx, Below w.heap.size w wx → wx.cell? ⟨b10, off + L, none⟩ = some (.int .i64 (topG D)) := by
      rcases H10.out w (Below.refl _ _) with ⟨h00, -⟩ | ⟨-, off2, c2, hv, -, hc2⟩
      · rw [h00] at hLz; simp at hLz
      · exact ⟨off2, (Value.slice.inj hv).1, fun wx hb => by rw [(hb.cell (World.block_lt_of_cell? _ _ (hc2 L hLz))), hc2 L hLz, Htp.out]⟩
    subst hp10
    have HCt := Lib.hid hc10
    obtain ⟨top, htop⟩ : ∃ t, t = topG D := ⟨_, rfl⟩
    rw [← htop] at HCt HFr
    have hctl := cardTL_len top
    clear hc10 hL hLz Htp htop
    obtain ⟨A1, hA1⟩ : ∃ A, A = Lib.itoa D.turn ++ [58] := ⟨_, rfl⟩
    obtain ⟨A2, hA2⟩ : ∃ A, A = A1 ++ cardTL top := ⟨_, rfl⟩
    have lA1 : A1.length ≤ 21 := by have := HL.out.1; rw [hA1]; simp; omega
    have lA2 : A2.length ≤ 23 := by rw [hA2]; simp; omega
    have ad1 : ∀ wq, (Op.stringOp .add ⟨(Lib.itoa D.turn).toArray⟩ ⟨#[58]⟩).run Tryd.prog wq = .ok (.string ⟨A1.toArray⟩) wq := fun wq => by rw [hA1]; exact addL_run wq _ [58] (by have := HL.out.1; simp; omega)
    have ad2 : ∀ wq, (Op.stringOp .add ⟨A1.toArray⟩ ⟨(cardTL top).toArray⟩).run Tryd.prog wq = .ok (.string ⟨A2.toArray⟩) wq := fun wq => by rw [hA2]; exact addL_run wq _ _ (by omega)
    have HA : Hid (frontL D = A2) := Lib.hid (by rw [HFr.out, hA2, hA1])
    clear hA1 hA2 lA1
    go_wp2_with fail
    go_upto_region 3 with fail
    refine wp_region_table [(0, some 8, .is (.pointer (some ⟨w.heap.size, 11, none⟩))), (1, some 9, .is (.int .i64 D.turn)), (2, some 10, .is (.string ⟨(Lib.itoa D.turn).toArray⟩)), (3, some 11, .is (.string ⟨A1.toArray⟩)), (4, some 12, .is (.pointer (some ⟨w.heap.size, 10, none⟩))), (5, some 13, .is (.slice (some ⟨b10, off10, none⟩) nl c10)), (6, some 14, .is (.pointer (some ⟨w.heap.size, 10, none⟩))), (7, some 15, .is (.slice (some ⟨b10, off10, none⟩) nl c10)), (8, some 16, .is (.int .i64 nl)), (9, some 17, .is (.int .i64 (L : Int))), (10, some 18, .is (.pointer (some ⟨b10, off10 + L, none⟩))), (11, some 19, .is (.int .i64 top)), (12, some 20, .is (.string ⟨(cardTL top).toArray⟩)), (13, some 21, .is (.string ⟨A2.toArray⟩))] 1 (by kernel_rfl) (by kernel_rfl) (by kernel_rfl) (by kernel_rfl) (by kernel_rfl) (L := #[true, true, true, true, true, true, true, true, true, true, true, true, true, true, false]) (by kernel_rfl) ?steps ?fin
    case steps =>
      refine StepsT.cons [] (by simp only [List.getElem?_toArray, List.getElem?_cons_succ, List.getElem?_cons_zero]; rfl) (by kernel_rfl) (by rfl) (fun wx val iv hB hV K hK => ?_) ?_
      · clear hV; simp only [putT, List.foldl_cons, List.foldl_nil, Made.val, Act.put, List.setIfInBounds_toArray, List.set_cons_zero, List.set_cons_succ]; go_simp; exact hK.out _ _ rfl (Below.refl _ _)
      refine StepsT.cons [(0, some 8, .is (.pointer (some ⟨w.heap.size, 11, none⟩)))] (by simp only [List.getElem?_toArray, List.getElem?_cons_succ, List.getElem?_cons_zero]; rfl) (by kernel_rfl) (by rfl) (fun wx val iv hB hV K hK => ?_) ?_
      · (obtain ⟨hgc, hbw⟩ := HGX.out wx (bb1.trans (hB.mono bb1.size)); have hct := HCt.out wx hbw; obtain ⟨-, -, -, -, -, -, -, -, kk8, kk9, kk10, kk11, -⟩ := SGame_cells hgc); clear hV; simp only [putT, List.foldl_cons, List.foldl_nil, Made.val, Act.put, List.setIfInBounds_toArray, List.set_cons_zero, List.set_cons_succ]; go_simp; exact hK.out _ _ rfl (Below.refl _ _)
      refine StepsT.cons [(1, some 9, .is (.int .i64 D.turn))] (by simp only [List.getElem?_toArray, List.getElem?_cons_succ, List.getElem?_cons_zero]; rfl) (by kernel_rfl) (by rfl) (fun wx val iv hB hV K hK => ?_) ?_
      · (clear hV; simp only [putT, List.foldl_cons, List.foldl_nil, Made.val, Act.put, List.setIfInBounds_toArray, List.set_cons_zero, List.set_cons_succ]; go_simp; go_at_call 32; refine (HFM.out wx).mono ?_; rintro e wa ⟨rfl, Ba⟩; exact hK.out _ _ rfl Ba)
      refine StepsT.cons [(2, some 10, .is (.string ⟨(Lib.itoa D.turn).toArray⟩))] (by simp only [List.getElem?_toArray, List.getElem?_cons_succ, List.getElem?_cons_zero]; rfl) (by kernel_rfl) (by rfl) (fun wx val iv hB hV K hK => ?_) ?_
      · clear hV; simp only [putT, List.foldl_cons, List.foldl_nil, Made.val, Act.put, List.setIfInBounds_toArray, List.set_cons_zero, List.set_cons_succ]; go_simp; exact hK.out _ _ rfl (Below.refl _ _)
      refine StepsT.cons [] (by simp only [List.getElem?_toArray, List.getElem?_cons_succ, List.getElem?_cons_zero]; rfl) (by kernel_rfl) (by rfl) (fun wx val iv hB hV K hK => ?_) ?_
      · clear hV; simp only [putT, List.foldl_cons, List.foldl_nil, Made.val, Act.put, List.setIfInBounds_toArray, List.set_cons_zero, List.set_cons_succ]; go_simp; exact hK.out _ _ rfl (Below.refl _ _)
      refine StepsT.cons [(4, some 12, .is (.pointer (some ⟨w.heap.size, 10, none⟩)))] (by simp only [List.getElem?_toArray, List.getElem?_cons_succ, List.getElem?_cons_zero]; rfl) (by kernel_rfl) (by rfl) (fun wx val iv hB hV K hK => ?_) ?_
      · (obtain ⟨hgc, hbw⟩ := HGX.out wx (bb1.trans (hB.mono bb1.size)); have hct := HCt.out wx hbw; obtain ⟨-, -, -, -, -, -, -, -, kk8, kk9, kk10, kk11, -⟩ := SGame_cells hgc); clear hV; simp only [putT, List.foldl_cons, List.foldl_nil, Made.val, Act.put, List.setIfInBounds_toArray, List.set_cons_zero, List.set_cons_succ]; go_simp; exact hK.out _ _ rfl (Below.refl _ _)
      refine StepsT.cons [] (by simp only [List.getElem?_toArray, List.getElem?_cons_succ, List.getElem?_cons_zero]; rfl) (by kernel_rfl) (by rfl) (fun wx val iv hB hV K hK => ?_) ?_
      · clear hV; simp only [putT, List.foldl_cons, List.foldl_nil, Made.val, Act.put, List.setIfInBounds_toArray, List.set_cons_zero, List.set_cons_succ]; go_simp; exact hK.out _ _ rfl (Below.refl _ _)
      refine StepsT.cons [(6, some 14, .is (.pointer (some ⟨w.heap.size, 10, none⟩)))] (by simp only [List.getElem?_toArray, List.getElem?_cons_succ, List.getElem?_cons_zero]; rfl) (by kernel_rfl) (by rfl) (fun wx val iv hB hV K hK => ?_) ?_
      · (obtain ⟨hgc, hbw⟩ := HGX.out wx (bb1.trans (hB.mono bb1.size)); have hct := HCt.out wx hbw; obtain ⟨-, -, -, -, -, -, -, -, kk8, kk9, kk10, kk11, -⟩ := SGame_cells hgc); clear hV; simp only [putT, List.foldl_cons, List.foldl_nil, Made.val, Act.put, List.setIfInBounds_toArray, List.set_cons_zero, List.set_cons_succ]; go_simp; exact hK.out _ _ rfl (Below.refl _ _)
      refine StepsT.cons [(7, some 15, .is (.slice (some ⟨b10, off10, none⟩) nl c10))] (by simp only [List.getElem?_toArray, List.getElem?_cons_succ, List.getElem?_cons_zero]; rfl) (by kernel_rfl) (by rfl) (fun wx val iv hB hV K hK => ?_) ?_
      · clear hV; simp only [putT, List.foldl_cons, List.foldl_nil, Made.val, Act.put, List.setIfInBounds_toArray, List.set_cons_zero, List.set_cons_succ]; go_simp; exact hK.out _ _ rfl (Below.refl _ _)
      refine StepsT.cons [(8, some 16, .is (.int .i64 nl))] (by simp only [List.getElem?_toArray, List.getElem?_cons_succ, List.getElem?_cons_zero]; rfl) (by kernel_rfl) (by rfl) (fun wx val iv hB hV K hK => ?_) ?_
      · clear hV; simp only [putT, List.foldl_cons, List.foldl_nil, Made.val, Act.put, List.setIfInBounds_toArray, List.set_cons_zero, List.set_cons_succ]; go_simp; exact hK.out _ _ rfl (Below.refl _ _)
      refine StepsT.cons [(5, some 13, .is (.slice (some ⟨b10, off10, none⟩) nl c10)), (9, some 17, .is (.int .i64 (L : Int)))] (by simp only [List.getElem?_toArray, List.getElem?_cons_succ, List.getElem?_cons_zero]; rfl) (by kernel_rfl) (by rfl) (fun wx val iv hB hV K hK => ?_) ?_
      · (obtain ⟨hgc, hbw⟩ := HGX.out wx (bb1.trans (hB.mono bb1.size)); have hct := HCt.out wx hbw; obtain ⟨-, -, -, -, -, -, -, -, kk8, kk9, kk10, kk11, -⟩ := SGame_cells hgc); clear hV; simp only [putT, List.foldl_cons, List.foldl_nil, Made.val, Act.put, List.setIfInBounds_toArray, List.set_cons_zero, List.set_cons_succ]; go_simp; exact hK.out _ _ rfl (Below.refl _ _)
      refine StepsT.cons [(10, some 18, .is (.pointer (some ⟨b10, off10 + L, none⟩)))] (by simp only [List.getElem?_toArray, List.getElem?_cons_succ, List.getElem?_cons_zero]; rfl) (by kernel_rfl) (by rfl) (fun wx val iv hB hV K hK => ?_) ?_
      · (obtain ⟨hgc, hbw⟩ := HGX.out wx (bb1.trans (hB.mono bb1.size)); have hct := HCt.out wx hbw; obtain ⟨-, -, -, -, -, -, -, -, kk8, kk9, kk10, kk11, -⟩ := SGame_cells hgc); clear hV; simp only [putT, List.foldl_cons, List.foldl_nil, Made.val, Act.put, List.setIfInBounds_toArray, List.set_cons_zero, List.set_cons_succ]; go_simp; exact hK.out _ _ rfl (Below.refl _ _)
      refine StepsT.cons [(2, some 10, .is (.string ⟨(Lib.itoa D.turn).toArray⟩)), (11, some 19, .is (.int .i64 top))] (by simp only [List.getElem?_toArray, List.getElem?_cons_succ, List.getElem?_cons_zero]; rfl) (by kernel_rfl) (by rfl) (fun wx val iv hB hV K hK => ?_) ?_
      · (clear hV; simp only [putT, List.foldl_cons, List.foldl_nil, Made.val, Act.put, List.setIfInBounds_toArray, List.set_cons_zero, List.set_cons_succ]; go_simp; go_at_call 46; refine (sCardText_any top wx).mono ?_; rintro e wa ⟨rfl, Ba⟩; exact hK.out _ _ (cardTL_v top) Ba)
      refine StepsT.cons [(3, some 11, .is (.string ⟨A1.toArray⟩)), (12, some 20, .is (.string ⟨(cardTL top).toArray⟩))] (by simp only [List.getElem?_toArray, List.getElem?_cons_succ, List.getElem?_cons_zero]; rfl) (by kernel_rfl) (by rfl) (fun wx val iv hB hV K hK => ?_) ?_
      · clear hV; simp only [putT, List.foldl_cons, List.foldl_nil, Made.val, Act.put, List.setIfInBounds_toArray, List.set_cons_zero, List.set_cons_succ]; go_simp; exact hK.out _ _ rfl (Below.refl _ _)
      exact StepsT.nil
    case fin =>
      intro wx val iv BX hV hD
      clear hV hD ad1 ad2
      (try simp only [putT, List.foldl_cons, List.foldl_nil, Made.val, Act.put, List.setIfInBounds_toArray, List.set_cons_zero, List.set_cons_succ])
      refine wpAny_one (i := 14) (by kernel_rfl) (by simp only [List.getElem?_toArray, List.getElem?_cons_succ, List.getElem?_cons_zero]; rfl) (fun K hK => ?_)
      go_simp
      refine hK.out _ _ ?_
      clear hK K
      refine wpAny_end (by kernel_rfl) ?_
      (try simp only [putT, List.foldl_cons, List.foldl_nil, Made.val, Act.put, List.setIfInBounds_toArray, List.set_cons_zero, List.set_cons_succ])
      have Hx := Lib.hid (HGX.out wx (bb1.trans (BX.mono bb1.size)))
      have HF := Lib.hid (fun k hk => allL_takeC (f := sizeL) (zs := lensI D.hands) (fun x hx => sizeL_len (Hlw.out x hx)) k hk)
      have hnh6 : nh ≤ 1048576 := by have := HL.out; have := HN.out; omega
      clear BX bb1 hwrap hLl hLi hL0
      go_upto_region 5 with fail
      go_loopw [3, 4] (fun s i wr => ∃ k : Nat, k ≤ nh ∧ i = .int .i64 k ∧ Below wx.heap.size wx wr ∧ s = .string ⟨(A2 ++ allL sizeL ((lensI D.hands).take k)).toArray⟩) (fun _ i _ => nh - (intOf i).toNat)
      case atStart => exact ⟨0, Nat.zero_le _, rfl, Below.refl _ _, by simp [allL]⟩
      case round =>
        obtain ⟨k, hk, rfl, hb2, rfl⟩ := hrel
        have Bw := Hx.out.2.trans (hb2.mono Hx.out.2.size)
        have gk := (hb2.block _ (Array.getElem?_eq_some_iff.1 Hx.out.1).1).trans Hx.out.1
        obtain ⟨-, -, -, -, -, -, -, -, kk8, kk9, -⟩ := SGame_cells gk
        clear gk
        by_cases hlt : k < nh
        · have hzl : k < D.hands.length := by rw [← HN.out.1]; exact hlt
          have hzl2 : k < (lensI D.hands).length := by rw [Hln.out]; exact hzl
          obtain ⟨blk, off, cap', p, c, b, hv, hc, -, -⟩ := Hrow.out wr Bw k hzl
          have ha := (Value.slice.inj hv).1
          clear hv
          subst ha
          have hel : (lensI D.hands)[k]'hzl2 = ((D.hands[k]'hzl).length : Int) := by simp [lensI]
          have hyw : (Lit.int .i64 ((D.hands[k]'hzl).length : Int)).wf = true := by rw [← hel]; exact Hlw.out _ (List.getElem_mem hzl2)
          have HT2 : Hid (A2 ++ allL sizeL ((lensI D.hands).take (k + 1)) = A2 ++ allL sizeL ((lensI D.hands).take k) ++ [32] ++ Lib.itoa ((D.hands[k]'hzl).length : Int)) := Lib.hid (by rw [allL_take sizeL (lensI D.hands) k hzl2, hel]; simp [sizeL])
          have hFl : (A2 ++ allL sizeL ((lensI D.hands).take k)).length ≤ 130000000 := by
            have := HF.out k (by omega)
            rw [List.length_append]; omega
          have hYl := itoaL_len hyw
          have HC := Lib.hid (sFormatInt_any ((D.hands[k]'hzl).length : Int) wr hyw)
          clear hel hzl2 hyw
          obtain ⟨m, hm⟩ : ∃ m, m = (D.hands[k]'hzl).length := ⟨_, rfl⟩
          rw [← hm] at hc HT2 hYl HC
          clear hm
          generalize Lib.itoa (m : Int) = Y at *
          generalize (A2 ++ allL sizeL ((lensI D.hands).take k)) = F at *
          have hadd0 : ∀ wq, (Op.stringOp .add ⟨F.toArray⟩ ⟨#[32]⟩).run Tryd.prog wq = .ok (.string ⟨(F ++ [32]).toArray⟩) wq := fun wq => addL_run wq F [32] (by simp; omega)
          have hadd : ∀ wq, (Op.stringOp .add ⟨(F ++ [32]).toArray⟩ ⟨Y.toArray⟩).run Tryd.prog wq = .ok (.string ⟨(F ++ [32] ++ Y).toArray⟩) wq := fun wq => addL_run wq (F ++ [32]) Y (by simp; omega)
          clear Bw
          go_wp2_with fail
          refine HC.out.mono ?_
          rintro e w3 ⟨rfl, b3⟩
          have B3 := hb2.trans (b3.mono hb2.size)
          clear b3
          go_wp2_with fail
          go_roundw
          case rel => exact ⟨k + 1, by omega, by go_num, B3, by rw [HT2.out]; simp⟩
          case measure => simp [intOf]; omega
        · obtain rfl : k = nh := by omega
          have e : (lensI D.hands).take k = lensI D.hands := List.take_of_length_le (by rw [Hln.out, ← HN.out.1]; exact Nat.le_refl _)
          have hFl : (A2 ++ allL sizeL (lensI D.hands)).length ≤ 130000000 := by
            have := HF.out k (by rw [Hln.out, ← HN.out.1]; exact Nat.le_refl _)
            rw [e] at this
            rw [List.length_append]; omega
          rw [e]
          clear e
          have hnsw : (Lit.int .i64 (ns : Int)).wf = true := WalkArith.wf_i64 (by have := HL.out; have := HN.out; omega)
          have hYl := itoaL_len hnsw
          have HC := Lib.hid (sFormatInt_any (ns : Int) wr hnsw)
          have HFin : Hid (gameL D = A2 ++ allL sizeL (lensI D.hands) ++ [47] ++ Lib.itoa (ns : Int)) := Lib.hid (by rw [HGm.out, HA.out, ← HN.out.2.1])
          generalize Lib.itoa (ns : Int) = Y at *
          generalize (A2 ++ allL sizeL (lensI D.hands)) = F at *
          have hadd0 : ∀ wq, (Op.stringOp .add ⟨F.toArray⟩ ⟨#[47]⟩).run Tryd.prog wq = .ok (.string ⟨(F ++ [47]).toArray⟩) wq := fun wq => addL_run wq F [47] (by simp; omega)
          have hadd : ∀ wq, (Op.stringOp .add ⟨(F ++ [47]).toArray⟩ ⟨Y.toArray⟩).run Tryd.prog wq = .ok (.string ⟨(F ++ [47] ++ Y).toArray⟩) wq := fun wq => addL_run wq (F ++ [47]) Y (by simp; omega)
          have HBw := Lib.hid Bw
          clear hnsw Bw
          go_wp2_with fail
          refine HC.out.mono ?_
          rintro e w3 ⟨rfl, b3⟩
          have B3 := HBw.out.trans (b3.mono HBw.out.size)
          clear b3
          go_wp2_with fail
          go_ret
          exact ⟨by rw [HT.out, HFin.out]; simp, B3⟩
set_option maxRecDepth 100000 in
set_option maxHeartbeats 4000000 in
theorem gameText_any (v : Value) (D : MGame) (w : World) (h : RdGame w v D) (hf : D.Few) (hG : Grps w) (hP : Pow w) :
    Calls Tryd.prog 23 #[v] w fun e w' => e = .returned (.string (gameTxt D)) ∧ Below w.heap.size w w' := by
  have h00 := h
  obtain ⟨p4, p5, p8, p9, p10, c4, c5, c8, c9, c10, b9, b10, rfl, -, h8, -, h10, wf0, -⟩ := h
  have HI := Lib.hid (fun wx (hb : Below w.heap.size w wx) => isGame_any _ D wx (h00.below hb) hf (hG.below hb) _ rfl)
  have HCH := Lib.hid (fun wx (hb : Below w.heap.size w wx) => cardsHeld_own _ D wx (h00.below hb) hf)
  have HPw := Lib.hid (fun wx (hb : Below w.heap.size w wx) => hP.below hb (Nat.le_refl _))
  have HFM := Lib.hid (fun wx (hb : Below w.heap.size w wx) => formatInt_any D.turn wx wf0 (hP.below hb (Nat.le_refl _)))
  have H10 := Lib.hid (fun wx (hb : Below w.heap.size w wx) => (h10.below hb).open)
  have hst : D.stock.length ≤ 1048576 := hf.2.2.2.1
  have hhl : D.hands.length ≤ 1048576 := hf.2.1
  have hsum : sumLen D.hands ≤ 1048576 := hf.2.2.1
  have hhp : D.heap.length ≤ 1048576 := hf.2.2.2.2
  have HL := Lib.hid (And.intro (itoaL_len wf0) (And.intro hst (And.intro hhl (And.intro hsum hhp))))
  have HFr : Hid (frontL D = Lib.itoa D.turn ++ [58] ++ cardTL (topG D)) := Lib.hid rfl
  have HGm : Hid (gameL D = frontL D ++ allL sizeL (lensI D.hands) ++ [47] ++ Lib.itoa (D.stock.length : Int)) := Lib.hid rfl
  have Hno := Lib.hid (@gameTxt_no D)
  have Hyes := Lib.hid (@gameTxt_yes D)
  have Hsome := Lib.hid (@heap_some D)
  have Htop : Hid (topG D = D.heap.getD (D.heap.length - 1) 0) := Lib.hid rfl
  have Hlw := Lib.hid (lensI_wf hsum)
  have Hln := Lib.hid (lensI_len D.hands)
  obtain ⟨nh, hnh⟩ : ∃ n, n = D.hands.length := ⟨_, rfl⟩
  obtain ⟨ns, hns⟩ : ∃ n, n = D.stock.length := ⟨_, rfl⟩
  obtain ⟨nl, hnl⟩ : ∃ n, n = D.heap.length := ⟨_, rfl⟩
  have HN := Lib.hid (And.intro hnh (And.intro hns hnl))
  rw [← hnh, ← hns, ← hnl] at HI HCH ⊢
  obtain ⟨W0, hW0⟩ : ∃ W, W = w.alloc (.cells #[.int .i64 D.rules.players, .int .i64 D.rules.each, .bool D.rules.sameSuit, .bool D.rules.sameRank, .slice p4 D.rules.wild.length c4, .slice p5 D.rules.skip.length c5, .int .i64 D.rules.take, .int .i64 D.rules.limit, .slice p8 nh c8, .slice p9 ns c9, .slice p10 nl c10, .int .i64 D.turn, .int .i64 D.moves, .int .i64 D.passes] 47) := ⟨_, rfl⟩
  have G0 : W0.heap[w.heap.size]? = some (.cells #[.int .i64 D.rules.players, .int .i64 D.rules.each, .bool D.rules.sameSuit, .bool D.rules.sameRank, .slice p4 D.rules.wild.length c4, .slice p5 D.rules.skip.length c5, .int .i64 D.rules.take, .int .i64 D.rules.limit, .slice p8 nh c8, .slice p9 ns c9, .slice p10 nl c10, .int .i64 D.turn, .int .i64 D.moves, .int .i64 D.passes] 47 (0, 0)) := by rw [hW0]; exact heap_alloc_new _ _
  have hsz : W0.heap.size = w.heap.size + 1 := by rw [hW0]; simp
  have B0 : Below w.heap.size w W0 := by rw [hW0]; exact (Below.refl _ _).alloc (Nat.le_refl _) _
  have HW := Lib.hid hW0
  have HGX : Hid (∀ wx, Below W0.heap.size W0 wx → wx.heap[w.heap.size]? = some (.cells #[.int .i64 D.rules.players, .int .i64 D.rules.each, .bool D.rules.sameSuit, .bool D.rules.sameRank, .slice p4 D.rules.wild.length c4, .slice p5 D.rules.skip.length c5, .int .i64 D.rules.take, .int .i64 D.rules.limit, .slice p8 nh c8, .slice p9 ns c9, .slice p10 nl c10, .int .i64 D.turn, .int .i64 D.moves, .int .i64 D.passes] 47 (0, 0)) ∧ Below w.heap.size w wx) := Lib.hid (fun wx hb => ⟨(hb.block _ (by omega)).trans G0, B0.trans (hb.mono B0.size)⟩)
  have HI0 := Lib.hid (HI.out W0 B0)
  have HG0 := Lib.hid (And.intro G0 hsz)
  clear h00 h8 h10 hf hG hP hW0 hnh hns hnl wf0 HI hsz B0 hst hhl hsum hhp G0
  go_enter Tryd.func23, Tryd.ntmps23
  go_upto_region 1 with fail
  rw [← HW.out]
  refine wp_region_lit ?_
  refine wpList_load_row rfl 47 _ rfl w.heap.size rfl 47 _ _ _ HG0.out.1 Tryd.underlying47 rfl (by kernel_rfl) ?_
  go_wp2_with fail
  refine HI0.out.mono ?_
  rintro e w1 ⟨rfl, bb1⟩
  cases hg : gameB D with
  | false =>
    have HT := Lib.hid (Hno.out hg)
    have B1 := (HGX.out w1 bb1).2
    clear hg bb1
    go_wp2_with fail
    go_ret
    exact ⟨by rw [HT.out]; rfl, B1⟩
  | true =>
    have HT := Lib.hid (Hyes.out hg)
    obtain ⟨L, hL⟩ := Hsome.out hg
    rw [← HN.out.2.2] at hL
    clear hg
    have hwrap : IntKind.i64.wrap ((nl : Int) - 1) = (L : Int) := by have h1 := HL.out; have h2 := HN.out; rw [IntWalk.i64_in _ (by omega)]; omega
    have hLl : L < nl := by omega
    have hLi : (L : Int) < (nl : Int) := by omega
    have hL0 : (0 : Int) ≤ (L : Int) := by omega
    have hLz : L < D.heap.length := by rw [← HN.out.2.2]; omega
    have Htp : Hid (topG D = D.heap[L]'hLz) := Lib.hid (by rw [Htop.out, ← HN.out.2.2, hL]; simp [List.getD, hLz])
    obtain ⟨off10, hp10, hc10⟩ : ∃ off, p10 = some ⟨b10, off, none⟩ ∧ ∀ wx, Below w.heap.size w wx → wx.cell? ⟨b10, off + L, none⟩ = some (.int .i64 (topG D)) := by
      rcases H10.out w (Below.refl _ _) with ⟨h00, -⟩ | ⟨-, off2, c2, hv, -, hc2⟩
      · rw [h00] at hLz; simp at hLz
      · exact ⟨off2, (Value.slice.inj hv).1, fun wx hb => by rw [(hb.cell (World.block_lt_of_cell? _ _ (hc2 L hLz))), hc2 L hLz, Htp.out]⟩
    subst hp10
    have HCt := Lib.hid hc10
    obtain ⟨top, htop⟩ : ∃ t, t = topG D := ⟨_, rfl⟩
    rw [← htop] at HCt HFr
    have hctl := cardTL_len top
    clear hc10 hL hLz Htp htop
    have s1 := bb1.size
    obtain ⟨g, hgd⟩ : ∃ g, g = w1.heap.size := ⟨_, rfl⟩
    obtain ⟨W2, hW2⟩ : ∃ W, W = w1.alloc (.cells #[.slice none 0 0] 67) := ⟨_, rfl⟩
    have bb2 : Below w1.heap.size w1 W2 := by rw [hW2]; exact (Below.refl _ _).alloc (Nat.le_refl _) _
    have s2 : W2.heap.size = g + 1 := by rw [hW2, hgd]; simp
    have hlg : w.heap.size < g := by have := HG0.out.2; omega
    have BW2 : BWr W2 g g [] := by rw [hW2, hgd]; exact BWr.fresh (Nat.le_refl _)
    have bw12 := bb1.trans (bb2.mono s1)
    have HGg : Hid (∀ wx, Below g W2 wx → wx.heap[w.heap.size]? = some (.cells #[.int .i64 D.rules.players, .int .i64 D.rules.each, .bool D.rules.sameSuit, .bool D.rules.sameRank, .slice p4 D.rules.wild.length c4, .slice p5 D.rules.skip.length c5, .int .i64 D.rules.take, .int .i64 D.rules.limit, .slice p8 nh c8, .slice p9 ns c9, .slice (some ⟨b10, off10, none⟩) nl c10, .int .i64 D.turn, .int .i64 D.moves, .int .i64 D.passes] 47 (0, 0)) ∧ Below w.heap.size w wx) := Lib.hid (fun wx hb => by
      have h1 := HGX.out W2 bw12
      exact ⟨(hb.block _ hlg).trans h1.1, h1.2.trans (hb.mono (Nat.le_of_lt hlg))⟩)
    have HW2 : Hid (w1.alloc (.cells #[.slice none 0 0] 67) = W2) := Lib.hid hW2.symm
    have HBW := Lib.hid BW2
    have Hsg := Lib.hid hgd
    have HG : Hid (∀ wx, Below W2.heap.size W2 wx → wx.heap[w.heap.size]? = some (.cells #[.int .i64 D.rules.players, .int .i64 D.rules.each, .bool D.rules.sameSuit, .bool D.rules.sameRank, .slice p4 D.rules.wild.length c4, .slice p5 D.rules.skip.length c5, .int .i64 D.rules.take, .int .i64 D.rules.limit, .slice p8 nh c8, .slice p9 ns c9, .slice (some ⟨b10, off10, none⟩) nl c10, .int .i64 D.turn, .int .i64 D.moves, .int .i64 D.passes] 47 (0, 0)) ∧ Below w.heap.size w wx ∧ Below g W2 wx) := Lib.hid (fun wx hb => by
      have h1 := HGg.out wx (hb.mono (by omega))
      exact ⟨h1.1, h1.2, hb.mono (by omega)⟩)
    have hs2 : g ≤ W2.heap.size := by omega
    have HHN : Hid (nh = D.hands.length ∧ ns = D.stock.length) := Lib.hid ⟨HN.out.1, HN.out.2.1⟩
    have hnsw : (Lit.int .i64 (ns : Int)).wf = true := WalkArith.wf_i64 (by have := HL.out; have := HN.out; omega)
    have hYl := itoaL_len hnsw
    have HFN := Lib.hid (fun wx (hb : Below w.heap.size w wx) => formatInt_any (ns : Int) wx hnsw (HPw.out wx hb))
    have HFin : Hid (gameL D = frontL D ++ allL sizeL (lensI D.hands) ++ [47] ++ Lib.itoa (ns : Int)) := Lib.hid (by rw [HGm.out, ← HN.out.2.1])
    have HF := Lib.hid (allL_lenC (f := sizeL) (zs := lensI D.hands) (fun x hx => sizeL_len (Hlw.out x hx)))
    have hln := Hln.out
    have hnh6 : D.hands.length ≤ 1048576 := HL.out.2.2.1
    have Hlen2 : Hid ((lensI D.hands).length ≤ 1048576) := Lib.hid (by rw [hln]; exact hnh6)
    clear hln hnh6 hnsw hW2 BW2 bw12 bb2 s1 s2 bb1
    go_upto_region 4 with fail
    rw [HW2.out, ← Hsg.out]
    clear hgd
    refine wp_region_table [(0, some 7, .is (.pointer (some ⟨w.heap.size, 11, none⟩))), (1, some 8, .is (.int .i64 D.turn)), (2, some 9, .is (.string ⟨(Lib.itoa D.turn).toArray⟩)), (3, some 10, .is (.pointer (some ⟨w.heap.size, 10, none⟩))), (4, some 11, .is (.slice (some ⟨b10, off10, none⟩) nl c10)), (5, some 12, .is (.pointer (some ⟨w.heap.size, 10, none⟩))), (6, some 13, .is (.slice (some ⟨b10, off10, none⟩) nl c10)), (7, some 14, .is (.int .i64 nl)), (8, some 15, .is (.int .i64 (L : Int))), (9, some 16, .is (.pointer (some ⟨b10, off10 + L, none⟩))), (10, some 17, .is (.int .i64 top)), (11, some 18, .is (.string ⟨(cardTL top).toArray⟩)), (12, some 19, .own (fun S w v => ∃ g, v = .slice (some ⟨g, 0, none⟩) 3 3 ∧ WordsAt w g [Lib.itoa D.turn, [58], cardTL top]) (fun S w w' v h b => by obtain ⟨g, h1, h2⟩ := h; exact ⟨g, h1, h2.kept (StrKept.of_below b)⟩))] 1 (by kernel_rfl) (by kernel_rfl) (by kernel_rfl) (by kernel_rfl) (by kernel_rfl) (L := #[true, true, true, true, true, true, true, true, true, true, true, true, true, false]) (by kernel_rfl) ?steps ?fin
    case steps =>
      refine StepsT.cons [] (by simp only [List.getElem?_toArray, List.getElem?_cons_succ, List.getElem?_cons_zero]; rfl) (by kernel_rfl) (by rfl) (fun wx val iv hB hV K hK => ?_) ?_
      · clear hV; simp only [putT, List.foldl_cons, List.foldl_nil, Made.val, Act.put, List.setIfInBounds_toArray, List.set_cons_zero, List.set_cons_succ]; go_simp; exact hK.out _ _ rfl (Below.refl _ _)
      refine StepsT.cons [(0, some 7, .is (.pointer (some ⟨w.heap.size, 11, none⟩)))] (by simp only [List.getElem?_toArray, List.getElem?_cons_succ, List.getElem?_cons_zero]; rfl) (by kernel_rfl) (by rfl) (fun wx val iv hB hV K hK => ?_) ?_
      · (obtain ⟨hgc, hbw, -⟩ := HG.out wx hB; have hct := HCt.out wx hbw; obtain ⟨-, -, -, -, -, -, -, -, kk8, kk9, kk10, kk11, -⟩ := SGame_cells hgc); clear hV; simp only [putT, List.foldl_cons, List.foldl_nil, Made.val, Act.put, List.setIfInBounds_toArray, List.set_cons_zero, List.set_cons_succ]; go_simp; exact hK.out _ _ rfl (Below.refl _ _)
      refine StepsT.cons [(1, some 8, .is (.int .i64 D.turn))] (by simp only [List.getElem?_toArray, List.getElem?_cons_succ, List.getElem?_cons_zero]; rfl) (by kernel_rfl) (by rfl) (fun wx val iv hB hV K hK => ?_) ?_
      · (have hbw := (HG.out wx hB).2.1; clear hV; simp only [putT, List.foldl_cons, List.foldl_nil, Made.val, Act.put, List.setIfInBounds_toArray, List.set_cons_zero, List.set_cons_succ]; go_simp; go_at_call 36; refine (HFM.out wx hbw).mono ?_; rintro e wa ⟨rfl, Ba⟩; exact hK.out _ _ rfl Ba)
      refine StepsT.cons [] (by simp only [List.getElem?_toArray, List.getElem?_cons_succ, List.getElem?_cons_zero]; rfl) (by kernel_rfl) (by rfl) (fun wx val iv hB hV K hK => ?_) ?_
      · clear hV; simp only [putT, List.foldl_cons, List.foldl_nil, Made.val, Act.put, List.setIfInBounds_toArray, List.set_cons_zero, List.set_cons_succ]; go_simp; exact hK.out _ _ rfl (Below.refl _ _)
      refine StepsT.cons [(3, some 10, .is (.pointer (some ⟨w.heap.size, 10, none⟩)))] (by simp only [List.getElem?_toArray, List.getElem?_cons_succ, List.getElem?_cons_zero]; rfl) (by kernel_rfl) (by rfl) (fun wx val iv hB hV K hK => ?_) ?_
      · (obtain ⟨hgc, hbw, -⟩ := HG.out wx hB; have hct := HCt.out wx hbw; obtain ⟨-, -, -, -, -, -, -, -, kk8, kk9, kk10, kk11, -⟩ := SGame_cells hgc); clear hV; simp only [putT, List.foldl_cons, List.foldl_nil, Made.val, Act.put, List.setIfInBounds_toArray, List.set_cons_zero, List.set_cons_succ]; go_simp; exact hK.out _ _ rfl (Below.refl _ _)
      refine StepsT.cons [] (by simp only [List.getElem?_toArray, List.getElem?_cons_succ, List.getElem?_cons_zero]; rfl) (by kernel_rfl) (by rfl) (fun wx val iv hB hV K hK => ?_) ?_
      · clear hV; simp only [putT, List.foldl_cons, List.foldl_nil, Made.val, Act.put, List.setIfInBounds_toArray, List.set_cons_zero, List.set_cons_succ]; go_simp; exact hK.out _ _ rfl (Below.refl _ _)
      refine StepsT.cons [(5, some 12, .is (.pointer (some ⟨w.heap.size, 10, none⟩)))] (by simp only [List.getElem?_toArray, List.getElem?_cons_succ, List.getElem?_cons_zero]; rfl) (by kernel_rfl) (by rfl) (fun wx val iv hB hV K hK => ?_) ?_
      · (obtain ⟨hgc, hbw, -⟩ := HG.out wx hB; have hct := HCt.out wx hbw; obtain ⟨-, -, -, -, -, -, -, -, kk8, kk9, kk10, kk11, -⟩ := SGame_cells hgc); clear hV; simp only [putT, List.foldl_cons, List.foldl_nil, Made.val, Act.put, List.setIfInBounds_toArray, List.set_cons_zero, List.set_cons_succ]; go_simp; exact hK.out _ _ rfl (Below.refl _ _)
      refine StepsT.cons [(6, some 13, .is (.slice (some ⟨b10, off10, none⟩) nl c10))] (by simp only [List.getElem?_toArray, List.getElem?_cons_succ, List.getElem?_cons_zero]; rfl) (by kernel_rfl) (by rfl) (fun wx val iv hB hV K hK => ?_) ?_
      · clear hV; simp only [putT, List.foldl_cons, List.foldl_nil, Made.val, Act.put, List.setIfInBounds_toArray, List.set_cons_zero, List.set_cons_succ]; go_simp; exact hK.out _ _ rfl (Below.refl _ _)
      refine StepsT.cons [(7, some 14, .is (.int .i64 nl))] (by simp only [List.getElem?_toArray, List.getElem?_cons_succ, List.getElem?_cons_zero]; rfl) (by kernel_rfl) (by rfl) (fun wx val iv hB hV K hK => ?_) ?_
      · clear hV; simp only [putT, List.foldl_cons, List.foldl_nil, Made.val, Act.put, List.setIfInBounds_toArray, List.set_cons_zero, List.set_cons_succ]; go_simp; exact hK.out _ _ rfl (Below.refl _ _)
      refine StepsT.cons [(4, some 11, .is (.slice (some ⟨b10, off10, none⟩) nl c10)), (8, some 15, .is (.int .i64 (L : Int)))] (by simp only [List.getElem?_toArray, List.getElem?_cons_succ, List.getElem?_cons_zero]; rfl) (by kernel_rfl) (by rfl) (fun wx val iv hB hV K hK => ?_) ?_
      · (obtain ⟨hgc, hbw, -⟩ := HG.out wx hB; have hct := HCt.out wx hbw; obtain ⟨-, -, -, -, -, -, -, -, kk8, kk9, kk10, kk11, -⟩ := SGame_cells hgc); clear hV; simp only [putT, List.foldl_cons, List.foldl_nil, Made.val, Act.put, List.setIfInBounds_toArray, List.set_cons_zero, List.set_cons_succ]; go_simp; exact hK.out _ _ rfl (Below.refl _ _)
      refine StepsT.cons [(9, some 16, .is (.pointer (some ⟨b10, off10 + L, none⟩)))] (by simp only [List.getElem?_toArray, List.getElem?_cons_succ, List.getElem?_cons_zero]; rfl) (by kernel_rfl) (by rfl) (fun wx val iv hB hV K hK => ?_) ?_
      · (obtain ⟨hgc, hbw, -⟩ := HG.out wx hB; have hct := HCt.out wx hbw; obtain ⟨-, -, -, -, -, -, -, -, kk8, kk9, kk10, kk11, -⟩ := SGame_cells hgc); clear hV; simp only [putT, List.foldl_cons, List.foldl_nil, Made.val, Act.put, List.setIfInBounds_toArray, List.set_cons_zero, List.set_cons_succ]; go_simp; exact hK.out _ _ rfl (Below.refl _ _)
      refine StepsT.cons [(2, some 9, .is (.string ⟨(Lib.itoa D.turn).toArray⟩)), (10, some 17, .is (.int .i64 top))] (by simp only [List.getElem?_toArray, List.getElem?_cons_succ, List.getElem?_cons_zero]; rfl) (by kernel_rfl) (by rfl) (fun wx val iv hB hV K hK => ?_) ?_
      · (clear hV; simp only [putT, List.foldl_cons, List.foldl_nil, Made.val, Act.put, List.setIfInBounds_toArray, List.set_cons_zero, List.set_cons_succ]; go_simp; go_at_call 55; refine (cardText_any top wx).mono ?_; rintro e wa ⟨rfl, Ba⟩; exact hK.out _ _ (cardTL_v top) Ba)
      refine StepsT.cons [(2, some 9, .is (.string ⟨(Lib.itoa D.turn).toArray⟩)), (11, some 18, .is (.string ⟨(cardTL top).toArray⟩))] (by simp only [List.getElem?_toArray, List.getElem?_cons_succ, List.getElem?_cons_zero]; rfl) (by kernel_rfl) (by rfl) (fun wx val iv hB hV K hK => ?_) ?_
      · (clear hV; simp only [putT, List.foldl_cons, List.foldl_nil, Made.val, Act.put, List.setIfInBounds_toArray, List.set_cons_zero, List.set_cons_succ]; go_simp; exact hK.out _ _ ⟨_, rfl, WordsAt.fresh _ _ [Lib.itoa D.turn, [58], cardTL top] rfl⟩ ((Below.refl _ _).alloc (Nat.le_refl _) _))
      exact StepsT.nil
    case fin =>
      intro wx val iv BX hV hD
      obtain ⟨⟨q, hq1, hq2⟩, -, -⟩ := hV (12, some 19, .own (fun S w v => ∃ g, v = .slice (some ⟨g, 0, none⟩) 3 3 ∧ WordsAt w g [Lib.itoa D.turn, [58], cardTL top]) (fun S w w' v h b => by obtain ⟨g, h1, h2⟩ := h; exact ⟨g, h1, h2.kept (StrKept.of_below b)⟩)) (by simp)
      simp only at hq1 hq2
      clear hV hD
      (try simp only [putT, List.foldl_cons, List.foldl_nil, Made.val, Act.put, List.setIfInBounds_toArray, List.set_cons_zero, List.set_cons_succ])
      generalize val 12 = x at *
      subst hq1
      have HPB := Lib.hid (putB_any g g q 3 [] [Lib.itoa D.turn, [58], cardTL top] wx (HBW.out.below BX) hq2 (by simp) (by have := HL.out.1; simp [Lib.lens]; omega) (Nat.le_trans hs2 BX.size))
      have HX := Lib.hid (HG.out wx BX)
      have hsx := Nat.le_trans hs2 BX.size
      clear hq2 BX
      refine wpAny_one (i := 13) (by kernel_rfl) (by simp only [List.getElem?_toArray, List.getElem?_cons_succ, List.getElem?_cons_zero]; rfl) (fun K hK => ?_)
      go_simp
      go_at_call 48
      refine HPB.out.mono ?_
      rintro e w3 ⟨rfl, bw3, b3, -⟩
      refine hK.out _ _ ?_
      clear hK K
      refine wpAny_end (by kernel_rfl) ?_
      (try simp only [putT, List.foldl_cons, List.foldl_nil, Made.val, Act.put, List.setIfInBounds_toArray, List.set_cons_zero, List.set_cons_succ])
      have B3 := HX.out.2.2.trans b3
      obtain ⟨g3, Bw3⟩ := HGg.out w3 B3
      have hs3 := Nat.le_trans hsx b3.size
      have hfl : ([] ++ [Lib.itoa D.turn, [58], cardTL top].flatten) = frontL D := by rw [HFr.out]; simp
      rw [hfl] at bw3
      have hfr : (frontL D).length ≤ 23 := by rw [HFr.out]; have := HL.out.1; simp; omega
      have HH := Lib.hid (HCH.out w3 Bw3)
      have HB3 := Lib.hid (And.intro bw3 (And.intro B3 (And.intro Bw3 hs3)))
      clear b3 bw3 HX HPB hfl hsx B3 Bw3 hs3
      go_upto_region 5 with fail
      refine wp_region_lit ?_
      refine wpList_load_row rfl 47 _ rfl w.heap.size rfl 47 _ _ _ g3 Tryd.underlying47 rfl (by kernel_rfl) ?_
      go_wp2_with fail
      refine HH.out.mono ?_
      rintro e w4 ⟨vh, rfl, hown, b4⟩
      obtain ⟨bh, hkept⟩ := own_rdkept hown Hlw.out
      obtain ⟨bw3, B3, Bw3, hs3⟩ := HB3.out
      have B4 := B3.trans (b4.mono hs3)
      have hs4 := Nat.le_trans hs3 b4.size
      have Bw4 := Bw3.trans (b4.mono Bw3.size)
      have HPS := Lib.hid (putSizes_any g g bh (frontL D) vh (lensI D.hands) w4 (bw3.below b4) (fun wy _ hk => hkept wy hk) (by omega) Hlen2.out hs4 (fun wy hb => HPw.out wy (Bw4.trans (hb.mono (Nat.le_of_lt hlg)))))
      have HB4 := Lib.hid (And.intro B4 hs4)
      clear hkept hown bw3 B3 Bw3 hs3 B4 hs4 Bw4 b4 HH HB3
      go_wp2_with fail
      refine HPS.out.mono ?_
      rintro e w5 ⟨rfl, bw5, b5⟩
      obtain ⟨B4, hs4⟩ := HB4.out
      have B5 := B4.trans b5
      have hs5 := Nat.le_trans hs4 b5.size
      obtain ⟨g5, Bw5⟩ := HGg.out w5 B5
      obtain ⟨-, -, -, -, -, -, -, -, kk8, kk9, -⟩ := SGame_cells g5
      have HF5 := Lib.hid (HFN.out w5 Bw5)
      have HB5 := Lib.hid (And.intro bw5 (And.intro B5 (And.intro Bw5 hs5)))
      have hfl5 : (frontL D ++ allL sizeL (lensI D.hands)).length ≤ 23000000 := by
        have h1 := HF.out
        have h2 := Hlen2.out
        rw [List.length_append]; omega
      clear bw5 b5 B5 hs5 Bw5 g5 B4 hs4 HPS HB4
      generalize hP0 : Lib.itoa (ns : Int) = Y at *
      go_wp2_with fail
      refine HF5.out.mono ?_
      rintro e w6 ⟨rfl, b6⟩
      obtain ⟨bw5, B5, Bw5, hs5⟩ := HB5.out
      have B6 := B5.trans (b6.mono hs5)
      have hs6 := Nat.le_trans hs5 b6.size
      have bA : Below w6.heap.size w6 (w6.alloc (.cells #[.string ⟨#[47]⟩, .string ⟨Y.toArray⟩] 9)) := (Below.refl _ _).alloc (Nat.le_refl _) _
      have HP2 := Lib.hid (putB_any g g w6.heap.size 2 (frontL D ++ allL sizeL (lensI D.hands)) [[47], Y] _ ((bw5.below b6).below bA) (WordsAt.fresh w6 #[.string ⟨#[47]⟩, .string ⟨Y.toArray⟩] [[47], Y] rfl) (by simp) (by simp [Lib.lens] at hfl5 ⊢; omega) (Nat.le_trans hs6 bA.size))
      have HB6 := Lib.hid (B6.trans (bA.mono hs6))
      clear bw5 B5 Bw5 hs5 b6 B6 hs6 bA HF5 HB5 kk8 kk9
      go_wp2_with fail
      refine HP2.out.mono ?_
      rintro e w7 ⟨rfl, bw7, b7, -⟩
      have B7 := HB6.out.trans b7
      have Bw7 := (HGg.out w7 B7).2
      obtain ⟨-, v7, hg7, hown7⟩ := bw7
      have hcv := own_conv hown7
      have k7 := cellsB hg7
      have HFin2 : Hid (gameL D = (frontL D ++ allL sizeL (lensI D.hands)) ++ [[47], Y].flatten) := Lib.hid (by rw [HFin.out]; simp)
      clear hown7 b7 hg7 B7 HP2 HB6
      rw [← HFin2.out] at hcv
      go_wp2_with fail
      go_ret
      exact ⟨by rw [HT.out]; rfl, Bw7⟩
end Go.Proofs.YtmfammgdcdlceaaDoor
