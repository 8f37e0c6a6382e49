/-
  FormatTable, both sides.
-/
import Derived.Test.YtmfammgdcdlceaaDoorCallsT
import Derived.Test.YtmfammgdcdlceaaDoorTab
import Derived.Test.YtmfammgdcdlceaaDoorMade
import Derived.Deep.Cut
namespace Go.Proofs.YtmfammgdcdlceaaDoor
open Go.RowKit
set_option linter.unusedVariables false
set_option linter.unusedSimpArgs false

def tabL (a b c : Nat) (on : Bool) : List UInt8 := jl [32] (mapL Lib.itoa [(a : Int), (b : Int), (c : Int)]) ++ (if on = true then [32, 111, 110] else [32, 111, 102, 102])
def fmtTab (D : MTable) : ByteArray := ⟨(tabL D.seals.length D.record.length D.sheet.length D.on).toArray⟩
theorem nums3 (a b c : Nat) : numsTxt [(a : Int), (b : Int), (c : Int)] = ⟨(jl [32] (mapL Lib.itoa [(a : Int), (b : Int), (c : Int)])).toArray⟩ := by
  unfold numsTxt
  rw [lineT_some _ _ (by simp [mapL])]
theorem three_rd (w : World) (g a b c : Nat) (ha : a ≤ 1048576) (hb : b ≤ 1048576) (hc : c ≤ 1048576) (hg : w.heap[g]? = some (.cells #[.int .i64 (a : Int), .int .i64 (b : Int), .int .i64 (c : Int)] 3 (0, 0))) : RdAt .i64 w (.slice (some ⟨g, 0, none⟩) 3 3) [(a : Int), (b : Int), (c : Int)] g := by
  refine ⟨_, 3, rfl, ⟨Nat.le_refl _, by unfold maxLen; omega, fun h => by cases h⟩, fun n hn => ?_, .inr ⟨0, rfl, fun j hj => ?_⟩⟩
  · simp only [List.mem_cons, List.not_mem_nil, or_false] at hn
    rcases hn with rfl | rfl | rfl <;> exact WalkArith.wf_i64 (by omega)
  · have : j = 0 ∨ j = 1 ∨ j = 2 := by simp at hj; omega
    rcases this with rfl | rfl | rfl <;> simp [World.cell?, hg]
theorem jl3_len (a b c : Nat) (ha : a ≤ 1048576) (hb : b ≤ 1048576) (hc : c ≤ 1048576) : (jl [32] (mapL Lib.itoa [(a : Int), (b : Int), (c : Int)])).length ≤ 30000000 := by
  refine Nat.le_trans (jl_len _ _) (mapL_jlen (fun x hx => ?_) (by simp) [32] (by decide))
  simp only [List.mem_cons, List.not_mem_nil, or_false] at hx
  rcases hx with rfl | rfl | rfl <;> exact itoaL_len (WalkArith.wf_i64 (by omega))
set_option maxRecDepth 100000 in
set_option maxHeartbeats 4000000 in
theorem sFormatTable_any (v : Value) (D : MTable) (w : World) (h : RdTable w v D) (hf : D.Few) :
    Calls Tryd.prog 26 #[v] w fun e w' => e = .returned (.string (fmtTab D)) ∧ Below w.heap.size w w' := by
  have h00 := h
  obtain ⟨p4, p5, p8, p10, p15, p16, p19, p20, p21, p25, p26, c4, c5, c8, c10, c15, c16, c19, c20, c21, c25, c26, hv⟩ := h.shape
  have fa : D.seals.length ≤ 1048576 := hf.2.1
  have fb : D.record.length ≤ 1048576 := hf.2.2.2.2.1
  have fc : D.sheet.length ≤ 1048576 := hf.2.2.2.2.2.1
  subst hv
  have HFT : Hid (fmtTab D = ⟨(tabL D.seals.length D.record.length D.sheet.length D.on).toArray⟩) := Lib.hid rfl
  obtain ⟨na, hna⟩ : ∃ n, n = D.seals.length := ⟨_, rfl⟩
  obtain ⟨nb, hnb⟩ : ∃ n, n = D.record.length := ⟨_, rfl⟩
  obtain ⟨nc, hnc⟩ : ∃ n, n = D.sheet.length := ⟨_, rfl⟩
  rw [← hna, ← hnb, ← hnc] at HFT ⊢
  rw [← hna] at fa
  rw [← hnb] at fb
  rw [← hnc] at fc
  clear h h00 hf hna hnb hnc
  obtain ⟨J, hJ⟩ : ∃ J, J = jl [32] (mapL Lib.itoa [(na : Int), (nb : Int), (nc : Int)]) := ⟨_, rfl⟩
  have hJl : J.length ≤ 30000000 := by rw [hJ]; exact jl3_len na nb nc fa fb fc
  have HN3 : Hid (numsTxt [(na : Int), (nb : Int), (nc : Int)] = ⟨J.toArray⟩) := Lib.hid (by rw [nums3, hJ])
  have HFT2 : Hid (fmtTab D = ⟨(J ++ (if D.on = true then [32, 111, 110] else [32, 111, 102, 102])).toArray⟩) := Lib.hid (by rw [HFT.out, hJ]; rfl)
  clear hJ HFT
  obtain ⟨W0, hW0⟩ : ∃ W, W = w.alloc (.cells #[.int .i64 D.rules.players, .int .i64 D.rules.each, .bool D.rules.sameSuit, .bool D.rules.sameRank, .slice p4 D.rules.wild.length c4, .slice p5 D.rules.skip.length c5, .int .i64 D.rules.take, .int .i64 D.rules.limit, .slice p8 na c8, .bool D.on, .slice p10 D.deck.length c10, .int .i64 D.game.rules.players, .int .i64 D.game.rules.each, .bool D.game.rules.sameSuit, .bool D.game.rules.sameRank, .slice p15 D.game.rules.wild.length c15, .slice p16 D.game.rules.skip.length c16, .int .i64 D.game.rules.take, .int .i64 D.game.rules.limit, .slice p19 D.game.hands.length c19, .slice p20 D.game.stock.length c20, .slice p21 D.game.heap.length c21, .int .i64 D.game.turn, .int .i64 D.game.moves, .int .i64 D.game.passes, .slice p25 nb c25, .slice p26 nc c26] 56) := ⟨_, rfl⟩
  have G0 : W0.heap[w.heap.size]? = some (.cells #[.int .i64 D.rules.players, .int .i64 D.rules.each, .bool D.rules.sameSuit, .bool D.rules.sameRank, .slice p4 D.rules.wild.length c4, .slice p5 D.rules.skip.length c5, .int .i64 D.rules.take, .int .i64 D.rules.limit, .slice p8 na c8, .bool D.on, .slice p10 D.deck.length c10, .int .i64 D.game.rules.players, .int .i64 D.game.rules.each, .bool D.game.rules.sameSuit, .bool D.game.rules.sameRank, .slice p15 D.game.rules.wild.length c15, .slice p16 D.game.rules.skip.length c16, .int .i64 D.game.rules.take, .int .i64 D.game.rules.limit, .slice p19 D.game.hands.length c19, .slice p20 D.game.stock.length c20, .slice p21 D.game.heap.length c21, .int .i64 D.game.turn, .int .i64 D.game.moves, .int .i64 D.game.passes, .slice p25 nb c25, .slice p26 nc c26] 56 (0, 0)) := by rw [hW0]; exact heap_alloc_new _ _
  have B0 : Below w.heap.size w W0 := by rw [hW0]; exact (Below.refl _ _).alloc (Nat.le_refl _) _
  have HW := Lib.hid hW0
  have k8 := box_cell G0 8
  have k9 := box_cell G0 9
  have k25 := box_cell G0 25
  have k26 := box_cell G0 26
  simp at k8 k9 k25 k26
  have bA : Below W0.heap.size W0 (W0.alloc (.cells #[.int .i64 (na : Int), .int .i64 (nb : Int), .int .i64 (nc : Int)] 3)) := (Below.refl _ _).alloc (Nat.le_refl _) _
  have HC := Lib.hid (sFormatNumbers_any _ [(na : Int), (nb : Int), (nc : Int)] W0.heap.size _ (three_rd _ W0.heap.size na nb nc fa fb fc (heap_alloc_new W0 _)) (by simp))
  rw [HN3.out] at HC
  have HB := Lib.hid (B0.trans (bA.mono B0.size))
  have ad1 : ∀ wq, (Op.stringOp .add ⟨J.toArray⟩ ⟨#[32, 111, 110]⟩).run Tryd.prog wq = .ok (.string ⟨(J ++ [32, 111, 110]).toArray⟩) wq := fun wq => addL_run wq J [32, 111, 110] (by simp; omega)
  have ad2 : ∀ wq, (Op.stringOp .add ⟨J.toArray⟩ ⟨#[32, 111, 102, 102]⟩).run Tryd.prog wq = .ok (.string ⟨(J ++ [32, 111, 102, 102]).toArray⟩) wq := fun wq => addL_run wq J [32, 111, 102, 102] (by simp; omega)
  clear hW0 G0 bA B0 HN3
  cases hon : D.on with
  | true =>
    rw [hon] at k9 HW
    have HT : Hid (fmtTab D = ⟨(J ++ [32, 111, 110]).toArray⟩) := Lib.hid (by rw [HFT2.out, hon]; rfl)
    clear hon HFT2
    go_enter Tryd.func26, Tryd.ntmps26
    go_upto_region 1 with fail
    rw [← HW.out]
    go_wp2_with fail
    refine HC.out.mono ?_
    rintro e w3 ⟨rfl, b3⟩
    have B3 := HB.out.trans (b3.mono HB.out.size)
    clear b3
    go_wp2_with fail
    go_ret
    exact ⟨by rw [HT.out]; rfl, B3⟩
  | false =>
    rw [hon] at k9 HW
    have HT : Hid (fmtTab D = ⟨(J ++ [32, 111, 102, 102]).toArray⟩) := Lib.hid (by rw [HFT2.out, hon]; rfl)
    clear hon HFT2
    go_enter Tryd.func26, Tryd.ntmps26
    go_upto_region 1 with fail
    rw [← HW.out]
    go_wp2_with fail
    refine HC.out.mono ?_
    rintro e w3 ⟨rfl, b3⟩
    have B3 := HB.out.trans (b3.mono HB.out.size)
    clear b3
    go_wp2_with fail
    go_ret
    exact ⟨by rw [HT.out]; rfl, B3⟩
set_option maxRecDepth 100000 in
set_option maxHeartbeats 4000000 in
theorem formatTable_any (v : Value) (D : MTable) (w : World) (h : RdTable w v D) (hf : D.Few) (hP : Pow w) :
    Calls Tryd.prog 28 #[v] w fun e w' => e = .returned (.string (fmtTab D)) ∧ Below w.heap.size w w' := by
  have h00 := h
  obtain ⟨p4, p5, p8, p10, p15, p16, p19, p20, p21, p25, p26, c4, c5, c8, c10, c15, c16, c19, c20, c21, c25, c26, hv⟩ := h.shape
  have fa : D.seals.length ≤ 1048576 := hf.2.1
  have fb : D.record.length ≤ 1048576 := hf.2.2.2.2.1
  have fc : D.sheet.length ≤ 1048576 := hf.2.2.2.2.2.1
  have HPw := Lib.hid (fun wx (hb : Below w.heap.size w wx) => hP.below hb (Nat.le_refl _))
  have HGP := Lib.hid (fun wx (hb : Below w.heap.size w wx) => gamesPlayed_any _ D wx (h00.below hb) hf)
  unfold gamesPlayed at HGP
  subst hv
  have HFT : Hid (fmtTab D = ⟨(tabL D.seals.length D.record.length D.sheet.length D.on).toArray⟩) := Lib.hid rfl
  obtain ⟨na, hna⟩ : ∃ n, n = D.seals.length := ⟨_, rfl⟩
  obtain ⟨nb, hnb⟩ : ∃ n, n = D.record.length := ⟨_, rfl⟩
  obtain ⟨nc, hnc⟩ : ∃ n, n = D.sheet.length := ⟨_, rfl⟩
  rw [← hna, ← hnb, ← hnc] at HFT ⊢
  rw [← hna] at fa
  rw [← hnb] at fb
  rw [← hnc] at fc
  rw [← hna, ← hnb, ← hnc] at HGP
  clear h h00 hf hP hna hnb hnc
  obtain ⟨J, hJ⟩ : ∃ J, J = jl [32] (mapL Lib.itoa [(na : Int), (nb : Int), (nc : Int)]) := ⟨_, rfl⟩
  have hJl : J.length ≤ 30000000 := by rw [hJ]; exact jl3_len na nb nc fa fb fc
  have HN3 : Hid (numsTxt [(na : Int), (nb : Int), (nc : Int)] = ⟨J.toArray⟩) := Lib.hid (by rw [nums3, hJ])
  have HFT2 : Hid (fmtTab D = ⟨(J ++ (if D.on = true then [32, 111, 110] else [32, 111, 102, 102])).toArray⟩) := Lib.hid (by rw [HFT.out, hJ]; rfl)
  clear hJ HFT
  obtain ⟨W0, hW0⟩ : ∃ W, W = w.alloc (.cells #[.int .i64 D.rules.players, .int .i64 D.rules.each, .bool D.rules.sameSuit, .bool D.rules.sameRank, .slice p4 D.rules.wild.length c4, .slice p5 D.rules.skip.length c5, .int .i64 D.rules.take, .int .i64 D.rules.limit, .slice p8 na c8, .bool D.on, .slice p10 D.deck.length c10, .int .i64 D.game.rules.players, .int .i64 D.game.rules.each, .bool D.game.rules.sameSuit, .bool D.game.rules.sameRank, .slice p15 D.game.rules.wild.length c15, .slice p16 D.game.rules.skip.length c16, .int .i64 D.game.rules.take, .int .i64 D.game.rules.limit, .slice p19 D.game.hands.length c19, .slice p20 D.game.stock.length c20, .slice p21 D.game.heap.length c21, .int .i64 D.game.turn, .int .i64 D.game.moves, .int .i64 D.game.passes, .slice p25 nb c25, .slice p26 nc c26] 56) := ⟨_, rfl⟩
  have G0 : W0.heap[w.heap.size]? = some (.cells #[.int .i64 D.rules.players, .int .i64 D.rules.each, .bool D.rules.sameSuit, .bool D.rules.sameRank, .slice p4 D.rules.wild.length c4, .slice p5 D.rules.skip.length c5, .int .i64 D.rules.take, .int .i64 D.rules.limit, .slice p8 na c8, .bool D.on, .slice p10 D.deck.length c10, .int .i64 D.game.rules.players, .int .i64 D.game.rules.each, .bool D.game.rules.sameSuit, .bool D.game.rules.sameRank, .slice p15 D.game.rules.wild.length c15, .slice p16 D.game.rules.skip.length c16, .int .i64 D.game.rules.take, .int .i64 D.game.rules.limit, .slice p19 D.game.hands.length c19, .slice p20 D.game.stock.length c20, .slice p21 D.game.heap.length c21, .int .i64 D.game.turn, .int .i64 D.game.moves, .int .i64 D.game.passes, .slice p25 nb c25, .slice p26 nc c26] 56 (0, 0)) := by rw [hW0]; exact heap_alloc_new _ _
  have hsz : W0.heap.size = w.heap.size + 1 := by rw [hW0]; simp
  have B0 : Below w.heap.size w W0 := by rw [hW0]; exact (Below.refl _ _).alloc (Nat.le_refl _) _
  have HGX : Hid (∀ wx, Below W0.heap.size W0 wx → wx.heap[w.heap.size]? = some (.cells #[.int .i64 D.rules.players, .int .i64 D.rules.each, .bool D.rules.sameSuit, .bool D.rules.sameRank, .slice p4 D.rules.wild.length c4, .slice p5 D.rules.skip.length c5, .int .i64 D.rules.take, .int .i64 D.rules.limit, .slice p8 na c8, .bool D.on, .slice p10 D.deck.length c10, .int .i64 D.game.rules.players, .int .i64 D.game.rules.each, .bool D.game.rules.sameSuit, .bool D.game.rules.sameRank, .slice p15 D.game.rules.wild.length c15, .slice p16 D.game.rules.skip.length c16, .int .i64 D.game.rules.take, .int .i64 D.game.rules.limit, .slice p19 D.game.hands.length c19, .slice p20 D.game.stock.length c20, .slice p21 D.game.heap.length c21, .int .i64 D.game.turn, .int .i64 D.game.moves, .int .i64 D.game.passes, .slice p25 nb c25, .slice p26 nc c26] 56 (0, 0)) ∧ Below w.heap.size w wx) := Lib.hid (fun wx hb => ⟨(hb.block _ (by omega)).trans G0, B0.trans (hb.mono B0.size)⟩)
  have HNu : Hid (∀ (wx : World), Below w.heap.size w wx → ∀ g, wx.heap[g]? = some (.cells #[.int .i64 (na : Int), .int .i64 (nb : Int), .int .i64 (nc : Int)] 3 (0, 0)) → Calls Tryd.prog 59 #[.slice (some ⟨g, 0, none⟩) 3 3] wx fun e w' => e = .returned (.string ⟨J.toArray⟩) ∧ Below wx.heap.size wx w') := Lib.hid (fun wx hb g hg => by
    rw [← HN3.out]
    exact formatNumbers_any _ [(na : Int), (nb : Int), (nc : Int)] g wx (three_rd wx g na nb nc fa fb fc hg) (by simp) (HPw.out wx hb))
  have HW := Lib.hid hW0
  have ad1 : ∀ wq, (Op.stringOp .add ⟨J.toArray⟩ ⟨#[32, 111, 110]⟩).run Tryd.prog wq = .ok (.string ⟨(J ++ [32, 111, 110]).toArray⟩) wq := fun wq => addL_run wq J [32, 111, 110] (by simp; omega)
  have ad2 : ∀ wq, (Op.stringOp .add ⟨J.toArray⟩ ⟨#[32, 111, 102, 102]⟩).run Tryd.prog wq = .ok (.string ⟨(J ++ [32, 111, 102, 102]).toArray⟩) wq := fun wq => addL_run wq J [32, 111, 102, 102] (by simp; omega)
  clear hW0 G0 hsz B0 HN3
  go_enter Tryd.func28, Tryd.ntmps28
  go_upto_region 1 with fail
  rw [← HW.out]
  refine wp_region_table [(0, some 4, .is (.pointer (some ⟨w.heap.size, 8, none⟩))), (1, some 5, .is (.slice p8 na c8)), (2, some 6, .is (.int .i64 na)), (3, some 7, .is (.pointer (some ⟨w.heap.size, 25, none⟩))), (4, some 8, .is (.slice p25 nb c25)), (5, some 9, .is (.int .i64 nb)), (6, some 10, .is (.agg #[.int .i64 D.rules.players, .int .i64 D.rules.each, .bool D.rules.sameSuit, .bool D.rules.sameRank, .slice p4 D.rules.wild.length c4, .slice p5 D.rules.skip.length c5, .int .i64 D.rules.take, .int .i64 D.rules.limit, .slice p8 na c8, .bool D.on, .slice p10 D.deck.length c10, .int .i64 D.game.rules.players, .int .i64 D.game.rules.each, .bool D.game.rules.sameSuit, .bool D.game.rules.sameRank, .slice p15 D.game.rules.wild.length c15, .slice p16 D.game.rules.skip.length c16, .int .i64 D.game.rules.take, .int .i64 D.game.rules.limit, .slice p19 D.game.hands.length c19, .slice p20 D.game.stock.length c20, .slice p21 D.game.heap.length c21, .int .i64 D.game.turn, .int .i64 D.game.moves, .int .i64 D.game.passes, .slice p25 nb c25, .slice p26 nc c26])), (7, some 11, .is (.int .i64 (nc : Int))), (8, some 12, (.own (fun S w v => ∃ g, v = .slice (some ⟨g, 0, none⟩) 3 3 ∧ w.heap[g]? = some (.cells #[.int .i64 (na : Int), .int .i64 (nb : Int), .int .i64 (nc : Int)] 3 (0, 0))) (fun S w w' v h b => by obtain ⟨g, h1, h2⟩ := h; exact ⟨g, h1, (b.block _ (Array.getElem?_eq_some_iff.1 h2).1).trans h2⟩))), (9, some 13, .is (.string ⟨J.toArray⟩))] 1 (by kernel_rfl) (by kernel_rfl) (by kernel_rfl) (by kernel_rfl) (by kernel_rfl) (L := #[true, true, true, true, true, true, true, true, true, true, false]) (by kernel_rfl) ?steps ?fin
  case steps =>
    refine StepsT.cons [] (by simp only [List.getElem?_toArray, List.getElem?_cons_succ, List.getElem?_cons_zero]; rfl) (by kernel_rfl) (by rfl) (fun wx val iv hB hV K hK => ?_) ?_
    · clear hV; simp only [putT, List.foldl_cons, List.foldl_nil, Made.val, Act.put, List.setIfInBounds_toArray, List.set_cons_zero, List.set_cons_succ]; go_simp; exact hK.out _ _ rfl (Below.refl _ _)
    refine StepsT.cons [(0, some 4, .is (.pointer (some ⟨w.heap.size, 8, none⟩)))] (by simp only [List.getElem?_toArray, List.getElem?_cons_succ, List.getElem?_cons_zero]; rfl) (by kernel_rfl) (by rfl) (fun wx val iv hB hV K hK => ?_) ?_
    · (obtain ⟨hgc, hbw⟩ := HGX.out wx hB; have k8 := box_cell hgc 8; have k25 := box_cell hgc 25; simp at k8 k25); clear hV; simp only [putT, List.foldl_cons, List.foldl_nil, Made.val, Act.put, List.setIfInBounds_toArray, List.set_cons_zero, List.set_cons_succ]; go_simp; exact hK.out _ _ rfl (Below.refl _ _)
    refine StepsT.cons [(1, some 5, .is (.slice p8 na c8))] (by simp only [List.getElem?_toArray, List.getElem?_cons_succ, List.getElem?_cons_zero]; rfl) (by kernel_rfl) (by rfl) (fun wx val iv hB hV K hK => ?_) ?_
    · clear hV; simp only [putT, List.foldl_cons, List.foldl_nil, Made.val, Act.put, List.setIfInBounds_toArray, List.set_cons_zero, List.set_cons_succ]; go_simp; exact hK.out _ _ rfl (Below.refl _ _)
    refine StepsT.cons [] (by simp only [List.getElem?_toArray, List.getElem?_cons_succ, List.getElem?_cons_zero]; rfl) (by kernel_rfl) (by rfl) (fun wx val iv hB hV K hK => ?_) ?_
    · clear hV; simp only [putT, List.foldl_cons, List.foldl_nil, Made.val, Act.put, List.setIfInBounds_toArray, List.set_cons_zero, List.set_cons_succ]; go_simp; exact hK.out _ _ rfl (Below.refl _ _)
    refine StepsT.cons [(3, some 7, .is (.pointer (some ⟨w.heap.size, 25, none⟩)))] (by simp only [List.getElem?_toArray, List.getElem?_cons_succ, List.getElem?_cons_zero]; rfl) (by kernel_rfl) (by rfl) (fun wx val iv hB hV K hK => ?_) ?_
    · (obtain ⟨hgc, hbw⟩ := HGX.out wx hB; have k8 := box_cell hgc 8; have k25 := box_cell hgc 25; simp at k8 k25); clear hV; simp only [putT, List.foldl_cons, List.foldl_nil, Made.val, Act.put, List.setIfInBounds_toArray, List.set_cons_zero, List.set_cons_succ]; go_simp; exact hK.out _ _ rfl (Below.refl _ _)
    refine StepsT.cons [(4, some 8, .is (.slice p25 nb c25))] (by simp only [List.getElem?_toArray, List.getElem?_cons_succ, List.getElem?_cons_zero]; rfl) (by kernel_rfl) (by rfl) (fun wx val iv hB hV K hK => ?_) ?_
    · clear hV; simp only [putT, List.foldl_cons, List.foldl_nil, Made.val, Act.put, List.setIfInBounds_toArray, List.set_cons_zero, List.set_cons_succ]; go_simp; exact hK.out _ _ rfl (Below.refl _ _)
    refine StepsT.cons [] (by simp only [List.getElem?_toArray, List.getElem?_cons_succ, List.getElem?_cons_zero]; rfl) (by kernel_rfl) (by rfl) (fun wx val iv hB hV K hK => ?_) ?_
    · (obtain ⟨G, -⟩ := HGX.out wx hB; clear hV; simp only [putT, List.foldl_cons, List.foldl_nil, Made.val, Act.put, List.setIfInBounds_toArray, List.set_cons_zero, List.set_cons_succ]; rw [if_pos (by rfl)]; exact wp_load_row 56 (.tmp 1) (by rfl) w.heap.size (by rfl) 56 #[.int .i64 D.rules.players, .int .i64 D.rules.each, .bool D.rules.sameSuit, .bool D.rules.sameRank, .slice p4 D.rules.wild.length c4, .slice p5 D.rules.skip.length c5, .int .i64 D.rules.take, .int .i64 D.rules.limit, .slice p8 na c8, .bool D.on, .slice p10 D.deck.length c10, .int .i64 D.game.rules.players, .int .i64 D.game.rules.each, .bool D.game.rules.sameSuit, .bool D.game.rules.sameRank, .slice p15 D.game.rules.wild.length c15, .slice p16 D.game.rules.skip.length c16, .int .i64 D.game.rules.take, .int .i64 D.game.rules.limit, .slice p19 D.game.hands.length c19, .slice p20 D.game.stock.length c20, .slice p21 D.game.heap.length c21, .int .i64 D.game.turn, .int .i64 D.game.moves, .int .i64 D.game.passes, .slice p25 nb c25, .slice p26 nc c26] (0, 0) _ G Tryd.underlying56 (by rfl) (by kernel_rfl) (hK.out _ _ rfl (Below.refl _ _)))
    refine StepsT.cons [(6, some 10, .is (.agg #[.int .i64 D.rules.players, .int .i64 D.rules.each, .bool D.rules.sameSuit, .bool D.rules.sameRank, .slice p4 D.rules.wild.length c4, .slice p5 D.rules.skip.length c5, .int .i64 D.rules.take, .int .i64 D.rules.limit, .slice p8 na c8, .bool D.on, .slice p10 D.deck.length c10, .int .i64 D.game.rules.players, .int .i64 D.game.rules.each, .bool D.game.rules.sameSuit, .bool D.game.rules.sameRank, .slice p15 D.game.rules.wild.length c15, .slice p16 D.game.rules.skip.length c16, .int .i64 D.game.rules.take, .int .i64 D.game.rules.limit, .slice p19 D.game.hands.length c19, .slice p20 D.game.stock.length c20, .slice p21 D.game.heap.length c21, .int .i64 D.game.turn, .int .i64 D.game.moves, .int .i64 D.game.passes, .slice p25 nb c25, .slice p26 nc c26]))] (by simp only [List.getElem?_toArray, List.getElem?_cons_succ, List.getElem?_cons_zero]; rfl) (by kernel_rfl) (by rfl) (fun wx val iv hB hV K hK => ?_) ?_
    · (have hbw := (HGX.out wx hB).2; clear hV; simp only [putT, List.foldl_cons, List.foldl_nil, Made.val, Act.put, List.setIfInBounds_toArray, List.set_cons_zero, List.set_cons_succ]; go_simp; go_at_call 60; refine (HGP.out wx hbw).mono ?_; rintro e wa ⟨rfl, Ba⟩; exact hK.out _ _ rfl Ba)
    refine StepsT.cons [(2, some 6, .is (.int .i64 na)), (5, some 9, .is (.int .i64 nb)), (7, some 11, .is (.int .i64 (nc : Int)))] (by simp only [List.getElem?_toArray, List.getElem?_cons_succ, List.getElem?_cons_zero]; rfl) (by kernel_rfl) (by rfl) (fun wx val iv hB hV K hK => ?_) ?_
    · (clear hV; simp only [putT, List.foldl_cons, List.foldl_nil, Made.val, Act.put, List.setIfInBounds_toArray, List.set_cons_zero, List.set_cons_succ]; go_simp; exact hK.out _ _ ⟨_, rfl, heap_alloc_new _ _⟩ ((Below.refl _ _).alloc (Nat.le_refl _) _))
    refine StepsT.cons [(7, some 11, .is (.int .i64 (nc : Int))), (8, some 12, (.own (fun S w v => ∃ g, v = .slice (some ⟨g, 0, none⟩) 3 3 ∧ w.heap[g]? = some (.cells #[.int .i64 (na : Int), .int .i64 (nb : Int), .int .i64 (nc : Int)] 3 (0, 0))) (fun S w w' v h b => by obtain ⟨g, h1, h2⟩ := h; exact ⟨g, h1, (b.block _ (Array.getElem?_eq_some_iff.1 h2).1).trans h2⟩)))] (by simp only [List.getElem?_toArray, List.getElem?_cons_succ, List.getElem?_cons_zero]; rfl) (by kernel_rfl) (by rfl) (fun wx val iv hB hV K hK => ?_) ?_
    · (obtain ⟨g, hg1, hg2⟩ := hV (8, some 12, (.own (fun S w v => ∃ g, v = .slice (some ⟨g, 0, none⟩) 3 3 ∧ w.heap[g]? = some (.cells #[.int .i64 (na : Int), .int .i64 (nb : Int), .int .i64 (nc : Int)] 3 (0, 0))) (fun S w w' v h b => by obtain ⟨g, h1, h2⟩ := h; exact ⟨g, h1, (b.block _ (Array.getElem?_eq_some_iff.1 h2).1).trans h2⟩))) (by simp); simp only at hg1 hg2; have hbw := (HGX.out wx hB).2; clear hV; simp only [putT, List.foldl_cons, List.foldl_nil, Made.val, Act.put, List.setIfInBounds_toArray, List.set_cons_zero, List.set_cons_succ] at hK ⊢; generalize val 8 = x at *; subst hg1; go_simp; go_at_call 59; refine (HNu.out wx hbw g hg2).mono ?_; rintro e wa ⟨rfl, Ba⟩; exact hK.out _ _ rfl Ba)
    exact StepsT.nil
  case fin =>
    intro wx val iv BX hV hD
    clear hV hD
    (try simp only [putT, List.foldl_cons, List.foldl_nil, Made.val, Act.put, List.setIfInBounds_toArray, List.set_cons_zero, List.set_cons_succ])
    refine wpAny_one (i := 10) (by kernel_rfl) (by simp only [List.getElem?_toArray, List.getElem?_cons_succ, List.getElem?_cons_zero]; rfl) (fun K hK => ?_)
    go_simp
    refine hK.out _ _ ?_
    clear hK K
    refine wpAny_end (by kernel_rfl) ?_
    (try simp only [putT, List.foldl_cons, List.foldl_nil, Made.val, Act.put, List.setIfInBounds_toArray, List.set_cons_zero, List.set_cons_succ])
    obtain ⟨hgc, Bw⟩ := HGX.out wx BX
    have k9 := box_cell hgc 9
    simp at k9
    clear hgc BX
    cases hon : D.on with
    | true =>
      rw [hon] at k9
      have HT : Hid (fmtTab D = ⟨(J ++ [32, 111, 110]).toArray⟩) := Lib.hid (by rw [HFT2.out, hon]; rfl)
      clear hon HFT2
      go_wp2_with fail
      go_ret
      exact ⟨by rw [HT.out]; rfl, Bw⟩
    | false =>
      rw [hon] at k9
      have HT : Hid (fmtTab D = ⟨(J ++ [32, 111, 102, 102]).toArray⟩) := Lib.hid (by rw [HFT2.out, hon]; rfl)
      clear hon HFT2
      go_wp2_with fail
      go_ret
      exact ⟨by rw [HT.out]; rfl, Bw⟩
end Go.Proofs.YtmfammgdcdlceaaDoor
