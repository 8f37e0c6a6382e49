/-
  IsFairDeck, both sides.
-/
import Derived.Test.YtaginoiiomaheaaDoorJointDeck
import Derived.Test.YtaginoiiomaheaaDoorNTable
import Derived.Test.YtaginoiiomaheaaDoorHas
import Derived.Test.YtaginoiiomaheaaDoorFrX
namespace Go.Proofs.YtaginoiiomaheaaDoor
open Go.RowKit
set_option linter.unusedVariables false
set_option linter.unusedSimpArgs false

def fairB (D : MTable) (zs zt : List Int) : Bool := D.on && (areB D.seals zs zt && decide (D.deck = jointD D.seals zs zt))
set_option maxRecDepth 100000 in
set_option maxHeartbeats 1000000 in
theorem sIsFairDeck_any (v vs vt : Value) (D : MTable) (zs zt : List Int) (bs bt : Nat) (w : World) (h : RdTable w v D) (hf : D.Few) (hs : RdAt .i64 w vs zs bs) (ht : RdAt .i64 w vt zt bt) (fs : zs.length ≤ 1048576) (ft : zt.length ≤ 1048576) (r : Bool) (hr : fairB D zs zt = r) :
    Calls Tryd.prog 5 #[v, vs, vt] w fun e w' => e = .returned (.bool r) ∧ Below w.heap.size w w' := by
  obtain ⟨p4, p5, p8, p10, p15, p16, p19, p20, p21, p25, p26, c4, c5, c8, c10, c15, c16, c19, c20, c21, c25, c26, b8, b10, b25, hv, h0, h8, h10, h11, h25, h26⟩ := h
  obtain ⟨f0, f8, f10, f11, f25, f26, fs26⟩ := hf
  subst hv
  unfold fairB at hr
  obtain ⟨o, ho⟩ : ∃ o, D.on = o := ⟨_, rfl⟩
  rw [ho] at hr ⊢
  obtain ⟨q, hq⟩ : ∃ q, areB D.seals zs zt = q := ⟨_, rfl⟩
  rw [hq] at hr
  obtain ⟨W0, hW0⟩ : ∃ W0, W0 = w.alloc (.cells #[.int .i64 D.rules.players, .int .i64 D.rules.each, .bool D.rules.sameSuit, .bool D.rules.sameRank, .slice p4 D.rules.wild.length c4, .slice p5 D.rules.skip.length c5, .int .i64 D.rules.take, .int .i64 D.rules.limit, .slice p8 D.seals.length c8, .bool o, .slice p10 D.deck.length c10, .int .i64 D.game.rules.players, .int .i64 D.game.rules.each, .bool D.game.rules.sameSuit, .bool D.game.rules.sameRank, .slice p15 D.game.rules.wild.length c15, .slice p16 D.game.rules.skip.length c16, .int .i64 D.game.rules.take, .int .i64 D.game.rules.limit, .slice p19 D.game.hands.length c19, .slice p20 D.game.stock.length c20, .slice p21 D.game.heap.length c21, .int .i64 D.game.turn, .int .i64 D.game.moves, .int .i64 D.game.passes, .slice p25 D.record.length c25, .slice p26 D.sheet.length c26] 36) := ⟨_, rfl⟩
  have G1 : W0.heap[w.heap.size]? = some (.cells #[.int .i64 D.rules.players, .int .i64 D.rules.each, .bool D.rules.sameSuit, .bool D.rules.sameRank, .slice p4 D.rules.wild.length c4, .slice p5 D.rules.skip.length c5, .int .i64 D.rules.take, .int .i64 D.rules.limit, .slice p8 D.seals.length c8, .bool o, .slice p10 D.deck.length c10, .int .i64 D.game.rules.players, .int .i64 D.game.rules.each, .bool D.game.rules.sameSuit, .bool D.game.rules.sameRank, .slice p15 D.game.rules.wild.length c15, .slice p16 D.game.rules.skip.length c16, .int .i64 D.game.rules.take, .int .i64 D.game.rules.limit, .slice p19 D.game.hands.length c19, .slice p20 D.game.stock.length c20, .slice p21 D.game.heap.length c21, .int .i64 D.game.turn, .int .i64 D.game.moves, .int .i64 D.game.passes, .slice p25 D.record.length c25, .slice p26 D.sheet.length c26] 36 (0, 0)) := by rw [hW0]; exact heap_alloc_new _ _
  have B0 : Below w.heap.size w W0 := by rw [hW0]; exact (Below.refl _ _).alloc (Nat.le_refl _) _
  have l1 : w.heap.size < W0.heap.size := by rw [hW0]; simp
  have HJ := Lib.hid (sJointDeck_any _ _ _ D.seals zs zt _ _ _ W0 (h8.below B0) (hs.below B0) (ht.below B0) f8 fs ft)
  rw [hq] at HJ
  have hjl : (jointD D.seals zs zt).length ≤ 1099511627776 := by have := jointD_len D.seals zs zt; omega
  have HE := Lib.hid (fun wx (hb : Below w.heap.size w wx) vj bj (hr : RdAt .i64 wx vj (jointD D.seals zs zt) bj) => (fun (hd : RdAt .i64 wx _ D.deck _) => sEqualInts_any _ _ _ _ _ _ wx hr hd hjl (by omega)) (h10.below hb))
  have HG : Hid (∀ wx, Below W0.heap.size W0 wx → wx.cell? ⟨w.heap.size, 9, none⟩ = some (.bool o) ∧ wx.cell? ⟨w.heap.size, 10, none⟩ = some (.slice p10 D.deck.length c10)) := Lib.hid (fun wx hx => by
    have G := (hx.block _ l1).trans G1
    refine ⟨?_, ?_⟩ <;> rw [box_cell G] <;> rfl)
  have hcs : (decide (jointD D.seals zs zt = D.deck)) = decide (D.deck = jointD D.seals zs zt) := by
    by_cases e : D.deck = jointD D.seals zs zt
    · simp [e]
    · have e2 : ¬ jointD D.seals zs zt = D.deck := fun x => e x.symm
      simp [e, e2]
  have Hcs := Lib.hid hcs
  have HW0 := Lib.hid hW0
  have HB0 := Lib.hid B0
  have HR := Lib.hid hr
  obtain ⟨ps, cs, es, -⟩ := id hs
  obtain ⟨pt, ct, et, -⟩ := id ht
  subst es et
  clear hW0 h0 h8 h10 h11 h25 h26 f0 f8 f10 f11 f25 f26 fs26 hs ht fs ft hq ho hr B0 G1 hjl hcs 
  go_enter Tryd.func5, Tryd.ntmps5
  go_wp2_with fail
  rw [← HW0.out]
  refine HJ.out.mono ?_
  rintro e w2 ⟨vj, bj, rfl, hbj, hwj, B2⟩
  obtain ⟨k9, k10⟩ := HG.out w2 B2
  have B3 := HB0.out.trans (B2.mono HB0.out.size)
  have HE2 := Lib.hid (HE.out w2 B3 _ _ hwj.rd)
  obtain ⟨pj, cj, ej, -⟩ := id hwj
  subst ej
  clear hwj
  cases o with
  | false =>
    obtain rfl : false = r := by rw [← HR.out]; rfl
    cases q <;> (go_wp2_with fail; go_ret; exact ⟨rfl, B3⟩)
  | true =>
    cases q with
    | false =>
      obtain rfl : false = r := by rw [← HR.out]; rfl
      go_wp2_with fail
      go_ret
      exact ⟨rfl, B3⟩
    | true =>
      have hrr : Hid (decide (jointD D.seals zs zt = D.deck) = r) := Lib.hid (by rw [Hcs.out]; exact HR.out)
      have HE3 := HE2.out
      rw [hrr.out] at HE3
      have HE4 := Lib.hid HE3
      clear HE3
      go_wp2_with fail
      refine HE4.out.mono ?_
      rintro e w3 ⟨rfl, B4⟩
      have B5 := B3.trans (B4.mono B3.size)
      go_wp2_with fail
      go_ret
      exact ⟨rfl, B5⟩
set_option maxRecDepth 100000 in
set_option maxHeartbeats 1000000 in
theorem isFairDeck_any (a0 a1 : Addr) (v vs vt : Value) (D : MTable) (zs zt : List Int) (bs bt : Nat) (w : World) (h : RdTable w v D) (hf : D.Few) (hs : RdAt .i64 w vs zs bs) (ht : RdAt .i64 w vt zt bt) (fs : zs.length ≤ 1048576) (ft : zt.length ≤ 1048576) (hS : Sent a0 a1 w) (r : Bool) (hr : fairB D zs zt = r) :
    Calls Tryd.prog 8 #[v, vs, vt] w fun e w' => e = .returned (.bool r) ∧ Below w.heap.size w w' := by
  obtain ⟨p4, p5, p8, p10, p15, p16, p19, p20, p21, p25, p26, c4, c5, c8, c10, c15, c16, c19, c20, c21, c25, c26, b8, b10, b25, hv, h0, h8, h10, h11, h25, h26⟩ := h
  obtain ⟨f0, f8, f10, f11, f25, f26, fs26⟩ := hf
  subst hv
  unfold fairB at hr
  obtain ⟨o, ho⟩ : ∃ o, D.on = o := ⟨_, rfl⟩
  rw [ho] at hr ⊢
  obtain ⟨q, hq⟩ : ∃ q, areB D.seals zs zt = q := ⟨_, rfl⟩
  rw [hq] at hr
  obtain ⟨W0, hW0⟩ : ∃ W0, W0 = w.alloc (.cells #[.int .i64 D.rules.players, .int .i64 D.rules.each, .bool D.rules.sameSuit, .bool D.rules.sameRank, .slice p4 D.rules.wild.length c4, .slice p5 D.rules.skip.length c5, .int .i64 D.rules.take, .int .i64 D.rules.limit, .slice p8 D.seals.length c8, .bool o, .slice p10 D.deck.length c10, .int .i64 D.game.rules.players, .int .i64 D.game.rules.each, .bool D.game.rules.sameSuit, .bool D.game.rules.sameRank, .slice p15 D.game.rules.wild.length c15, .slice p16 D.game.rules.skip.length c16, .int .i64 D.game.rules.take, .int .i64 D.game.rules.limit, .slice p19 D.game.hands.length c19, .slice p20 D.game.stock.length c20, .slice p21 D.game.heap.length c21, .int .i64 D.game.turn, .int .i64 D.game.moves, .int .i64 D.game.passes, .slice p25 D.record.length c25, .slice p26 D.sheet.length c26] 36) := ⟨_, rfl⟩
  have G1 : W0.heap[w.heap.size]? = some (.cells #[.int .i64 D.rules.players, .int .i64 D.rules.each, .bool D.rules.sameSuit, .bool D.rules.sameRank, .slice p4 D.rules.wild.length c4, .slice p5 D.rules.skip.length c5, .int .i64 D.rules.take, .int .i64 D.rules.limit, .slice p8 D.seals.length c8, .bool o, .slice p10 D.deck.length c10, .int .i64 D.game.rules.players, .int .i64 D.game.rules.each, .bool D.game.rules.sameSuit, .bool D.game.rules.sameRank, .slice p15 D.game.rules.wild.length c15, .slice p16 D.game.rules.skip.length c16, .int .i64 D.game.rules.take, .int .i64 D.game.rules.limit, .slice p19 D.game.hands.length c19, .slice p20 D.game.stock.length c20, .slice p21 D.game.heap.length c21, .int .i64 D.game.turn, .int .i64 D.game.moves, .int .i64 D.game.passes, .slice p25 D.record.length c25, .slice p26 D.sheet.length c26] 36 (0, 0)) := by rw [hW0]; exact heap_alloc_new _ _
  have B0 : Below w.heap.size w W0 := by rw [hW0]; exact (Below.refl _ _).alloc (Nat.le_refl _) _
  have l1 : w.heap.size < W0.heap.size := by rw [hW0]; simp
  have HJ := Lib.hid (jointDeck_any a0 a1 _ _ _ D.seals zs zt _ _ _ W0 (h8.below B0) (hs.below B0) (ht.below B0) f8 fs ft (hS.below B0 (Nat.le_refl _)))
  rw [hq] at HJ
  have hjl : (jointD D.seals zs zt).length ≤ 1099511627776 := by have := jointD_len D.seals zs zt; omega
  have HE := Lib.hid (fun wx (hb : Below w.heap.size w wx) vj bj (hr : RdAt .i64 wx vj (jointD D.seals zs zt) bj) => (fun (hd : RdAt .i64 wx _ D.deck _) => equalInts_any _ _ _ _ _ _ wx hd hr (by omega) hjl) (h10.below hb))
  have HG : Hid (∀ wx, Below W0.heap.size W0 wx → wx.cell? ⟨w.heap.size, 9, none⟩ = some (.bool o) ∧ wx.cell? ⟨w.heap.size, 10, none⟩ = some (.slice p10 D.deck.length c10)) := Lib.hid (fun wx hx => by
    have G := (hx.block _ l1).trans G1
    refine ⟨?_, ?_⟩ <;> rw [box_cell G] <;> rfl)
  have hcs : (decide (jointD D.seals zs zt = D.deck)) = decide (D.deck = jointD D.seals zs zt) := by
    by_cases e : D.deck = jointD D.seals zs zt
    · simp [e]
    · have e2 : ¬ jointD D.seals zs zt = D.deck := fun x => e x.symm
      simp [e, e2]
  have Hcs := Lib.hid hcs
  have HW0 := Lib.hid hW0
  have HB0 := Lib.hid B0
  have HR := Lib.hid hr
  obtain ⟨ps, cs, es, -⟩ := id hs
  obtain ⟨pt, ct, et, -⟩ := id ht
  subst es et
  clear hW0 h0 h8 h10 h11 h25 h26 f0 f8 f10 f11 f25 f26 fs26 hs ht fs ft hq ho hr B0 G1 hjl hcs hS
  go_enter Tryd.func8, Tryd.ntmps8
  go_wp2_with fail
  rw [← HW0.out]
  refine HJ.out.mono ?_
  rintro e w2 ⟨vj, bj, rfl, hbj, hwj, B2⟩
  obtain ⟨k9, k10⟩ := HG.out w2 B2
  have B3 := HB0.out.trans (B2.mono HB0.out.size)
  have HE2 := Lib.hid (HE.out w2 B3 _ _ hwj.rd)
  obtain ⟨pj, cj, ej, -⟩ := id hwj
  subst ej
  clear hwj
  cases o with
  | false =>
    obtain rfl : false = r := by rw [← HR.out]; rfl
    go_wp2_with fail; go_ret; exact ⟨rfl, B3⟩
  | true =>
    cases q with
    | false =>
      obtain rfl : false = r := by rw [← HR.out]; rfl
      go_wp2_with fail
      go_ret
      exact ⟨rfl, B3⟩
    | true =>
      have hrr : Hid (decide (D.deck = jointD D.seals zs zt) = r) := Lib.hid (by exact HR.out)
      have HE3 := HE2.out
      rw [hrr.out] at HE3
      have HE4 := Lib.hid HE3
      clear HE3
      go_wp2_with fail
      refine HE4.out.mono ?_
      rintro e w3 ⟨rfl, B4⟩
      have B5 := B3.trans (B4.mono B3.size)
      go_wp2_with fail
      go_ret
      exact ⟨rfl, B5⟩
end Go.Proofs.YtaginoiiomaheaaDoor
