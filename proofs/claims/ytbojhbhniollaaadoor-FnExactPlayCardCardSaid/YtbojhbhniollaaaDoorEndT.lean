/-
  The end of a trick: the program's endTrick.
-/
import Derived.Test.YtbojhbhniollaaaDoorODeal
import Derived.Test.YtbojhbhniollaaaDoorPlayC0
import Derived.Test.YtbojhbhniollaaaDoorWithO
import Derived.Test.YtbojhbhniollaaaDoorEarly
import Derived.OpenShut
import Derived.IntWalk
namespace Go.Proofs.YtbojhbhniollaaaDoor
open Go.RowKit
set_option linter.unusedVariables false
set_option linter.unusedSimpArgs false

theorem wrap_64 (z : Int) : IntKind.i64.wrap z = wrap64 z := IntWalk.i64_left z
set_option maxRecDepth 100000 in
set_option maxHeartbeats 4000000 in
theorem endTrick_any (a0 a1 : Addr) {lo o n m n4 n5 d0 d3 d4 d5 : Nat} {q0 q3 q4 q5 : Option Addr} (E : MDeal) (w : World) (h : OD lo o w E q0 q3 q4 q5 d0 d3 d4 d5 n m n4 n5) (hlo : lo ≤ w.heap.size) (hS : Sent a0 a1 w) (k wn : Nat) (hk : winnerOf E.trick E.trump = (k : Int)) (hkn : k < n) (l0 : 0 ≤ E.leader) (l1 : E.leader < (n : Int)) (n8 : n ≤ 4) (e4 : n4 = n) (e5 : n5 = n) (hm : E.trick.length ≤ 1048576) (hwn : (E.leader + (k : Int)) % (n : Int) = (wn : Int)) (hwl : wn < n) (hwe : winP E = wn) :
    Calls Tryd.prog 57 #[.pointer (some ⟨o, 0, none⟩)] w fun e w' => e = .returned (.tuple #[]) ∧ (∃ g, OD lo o w' (endP E) q0 (some ⟨g, 0, none⟩) q4 q5 d0 0 d4 d5 n 0 n4 n5) ∧ Below lo w w' := by
  obtain ⟨hr0, ⟨b3, h3⟩, -, -⟩ := h.rd
  have g := h.cells
  have l := h.lens
  have HC : Hid (∀ wx, Below w.heap.size w wx → wx.cell? ⟨o, 0, none⟩ = some (.slice q0 n d0) ∧ wx.cell? ⟨o, 1, none⟩ = some (.int .i64 E.leader) ∧ wx.cell? ⟨o, 2, none⟩ = some (.int .i64 E.trump) ∧ wx.cell? ⟨o, 3, none⟩ = some (.slice q3 m d3)) := Lib.hid (fun wx hb => by
    have G := (hb.block _ l.2.1).trans g
    refine ⟨?_, ?_, ?_, ?_⟩ <;> (rw [box_cell G]; rfl))
  have HWn : Hid (∀ wx, Below w.heap.size w wx → Calls Tryd.prog 79 #[.slice q3 m d3, .int .i64 E.trump] wx fun e w' => e = .returned (.int .i64 k) ∧ Below wx.heap.size wx w') := Lib.hid (fun wx hb => by have := winnerOf_any _ E.trick b3 E.trump wx (h3.below hb) (by omega); rw [hk] at this; exact this)
  have hmod : modI (E.leader + (k : Int)) (n : Int) = (wn : Int) := by unfold modI; rw [if_pos ⟨by omega, by omega⟩]; exact hwn
  have HMo : Hid (∀ wx, Below w.heap.size w wx → Calls Tryd.prog 74 #[.int .i64 (E.leader + (k : Int)), .int .i64 (n : Int)] wx fun e w' => e = .returned (.int .i64 wn) ∧ Below wx.heap.size wx w') := Lib.hid (fun wx hb => by
    have := mod_any a0 a1 (E.leader + (k : Int)) (n : Int) wx (WalkArith.wf_i64 (by omega)) (hS.below hb (Nat.le_refl _))
    rw [hmod] at this
    exact this.mono (fun e w' ⟨h1, h2⟩ => ⟨h1, h2 ▸ Below.refl _ _⟩))
  have HP : Hid (∀ wx, Below lo w wx → ∀ q d (bt : Nat), RdAt .i64 wx (.slice q m d) E.trick bt → Calls Tryd.prog 80 #[.slice q m d] wx fun e w' => e = .returned (.int .i64 (pts E.trick)) ∧ Below wx.heap.size wx w') := Lib.hid (fun wx hb q d bt hr => points_any _ E.trick bt wx hr (by omega))
  have hwr : IntKind.i64.wrap (E.leader + (k : Int)) = E.leader + (k : Int) := by rw [IntKind.wrap_i64]; omega
  have HO := Lib.hid h
  have HL := Lib.hid (And.intro hlo (And.intro l (And.intro e4 (And.intro e5 (And.intro hwe (And.intro hwl n8))))))
  clear hr0 h3 g l h hS hk hkn l0 l1 hm hwn hmod e4 e5 n8 hwe hlo
  go_enter Tryd.func57, Tryd.ntmps57
  go_upto_region 0 with fail
  refine wp_region_table [(0, some 3, .is (.pointer (some ⟨o, 0, none⟩))), (1, some 4, .is (.pointer (some ⟨o, 0, none⟩))), (2, some 5, .is (.pointer (some ⟨o, 1, none⟩))), (3, some 6, .is (.int .i64 E.leader)), (4, some 7, .is (.pointer (some ⟨o, 0, none⟩))), (5, some 8, .is (.pointer (some ⟨o, 0, none⟩))), (6, some 9, .is (.pointer (some ⟨o, 3, none⟩))), (7, some 10, .is (.slice q3 m d3)), (8, some 11, .is (.pointer (some ⟨o, 0, none⟩))), (9, some 12, .is (.pointer (some ⟨o, 0, none⟩))), (10, some 13, .is (.pointer (some ⟨o, 2, none⟩))), (11, some 14, .is (.int .i64 E.trump)), (12, some 15, .is (.int .i64 (k : Int))), (13, some 16, .is (.int .i64 (E.leader + (k : Int)))), (14, some 17, .is (.pointer (some ⟨o, 0, none⟩))), (15, some 18, .is (.pointer (some ⟨o, 0, none⟩))), (16, some 19, .is (.pointer (some ⟨o, 0, none⟩))), (17, some 20, .is (.slice q0 n d0)), (18, some 21, .is (.int .i64 n)), (19, some 22, .is (.int .i64 (wn : Int)))] 1 (by kernel_rfl) (by kernel_rfl) (by kernel_rfl) (by kernel_rfl) (by kernel_rfl) (L := #[true, true, true, true, true, true, true, true, true, true, true, true, true, true, true, true, true, true, true, true, false]) (by kernel_rfl) ?steps ?fin
  case steps =>
    refine StepsT.cons [] (by simp only [List.getElem?_toArray, List.getElem?_cons_succ, List.getElem?_cons_zero]; rfl) (by kernel_rfl) (by rfl) (fun wx val iv hB hV K hK => ?_) ?_
    · clear hV; simp only [putT, List.foldl_cons, List.foldl_nil, Made.val, Act.put, List.setIfInBounds_toArray, List.set_cons_zero, List.set_cons_succ]; go_simp; exact hK.out _ _ rfl (Below.refl _ _)
    refine StepsT.cons [(0, some 3, .is (.pointer (some ⟨o, 0, none⟩)))] (by simp only [List.getElem?_toArray, List.getElem?_cons_succ, List.getElem?_cons_zero]; rfl) (by kernel_rfl) (by rfl) (fun wx val iv hB hV K hK => ?_) ?_
    · clear hV; simp only [putT, List.foldl_cons, List.foldl_nil, Made.val, Act.put, List.setIfInBounds_toArray, List.set_cons_zero, List.set_cons_succ]; go_simp; exact hK.out _ _ rfl (Below.refl _ _)
    refine StepsT.cons [(1, some 4, .is (.pointer (some ⟨o, 0, none⟩)))] (by simp only [List.getElem?_toArray, List.getElem?_cons_succ, List.getElem?_cons_zero]; rfl) (by kernel_rfl) (by rfl) (fun wx val iv hB hV K hK => ?_) ?_
    · clear hV; simp only [putT, List.foldl_cons, List.foldl_nil, Made.val, Act.put, List.setIfInBounds_toArray, List.set_cons_zero, List.set_cons_succ]; go_simp; exact hK.out _ _ rfl (Below.refl _ _)
    refine StepsT.cons [(2, some 5, .is (.pointer (some ⟨o, 1, none⟩)))] (by simp only [List.getElem?_toArray, List.getElem?_cons_succ, List.getElem?_cons_zero]; rfl) (by kernel_rfl) (by rfl) (fun wx val iv hB hV K hK => ?_) ?_
    · (obtain ⟨k0, k1, k2, k3⟩ := HC.out wx hB); clear hV; simp only [putT, List.foldl_cons, List.foldl_nil, Made.val, Act.put, List.setIfInBounds_toArray, List.set_cons_zero, List.set_cons_succ]; go_simp; exact hK.out _ _ rfl (Below.refl _ _)
    refine StepsT.cons [] (by simp only [List.getElem?_toArray, List.getElem?_cons_succ, List.getElem?_cons_zero]; rfl) (by kernel_rfl) (by rfl) (fun wx val iv hB hV K hK => ?_) ?_
    · clear hV; simp only [putT, List.foldl_cons, List.foldl_nil, Made.val, Act.put, List.setIfInBounds_toArray, List.set_cons_zero, List.set_cons_succ]; go_simp; exact hK.out _ _ rfl (Below.refl _ _)
    refine StepsT.cons [(4, some 7, .is (.pointer (some ⟨o, 0, none⟩)))] (by simp only [List.getElem?_toArray, List.getElem?_cons_succ, List.getElem?_cons_zero]; rfl) (by kernel_rfl) (by rfl) (fun wx val iv hB hV K hK => ?_) ?_
    · clear hV; simp only [putT, List.foldl_cons, List.foldl_nil, Made.val, Act.put, List.setIfInBounds_toArray, List.set_cons_zero, List.set_cons_succ]; go_simp; exact hK.out _ _ rfl (Below.refl _ _)
    refine StepsT.cons [(5, some 8, .is (.pointer (some ⟨o, 0, none⟩)))] (by simp only [List.getElem?_toArray, List.getElem?_cons_succ, List.getElem?_cons_zero]; rfl) (by kernel_rfl) (by rfl) (fun wx val iv hB hV K hK => ?_) ?_
    · clear hV; simp only [putT, List.foldl_cons, List.foldl_nil, Made.val, Act.put, List.setIfInBounds_toArray, List.set_cons_zero, List.set_cons_succ]; go_simp; exact hK.out _ _ rfl (Below.refl _ _)
    refine StepsT.cons [(6, some 9, .is (.pointer (some ⟨o, 3, none⟩)))] (by simp only [List.getElem?_toArray, List.getElem?_cons_succ, List.getElem?_cons_zero]; rfl) (by kernel_rfl) (by rfl) (fun wx val iv hB hV K hK => ?_) ?_
    · (obtain ⟨k0, k1, k2, k3⟩ := HC.out wx hB); clear hV; simp only [putT, List.foldl_cons, List.foldl_nil, Made.val, Act.put, List.setIfInBounds_toArray, List.set_cons_zero, List.set_cons_succ]; go_simp; exact hK.out _ _ rfl (Below.refl _ _)
    refine StepsT.cons [] (by simp only [List.getElem?_toArray, List.getElem?_cons_succ, List.getElem?_cons_zero]; rfl) (by kernel_rfl) (by rfl) (fun wx val iv hB hV K hK => ?_) ?_
    · clear hV; simp only [putT, List.foldl_cons, List.foldl_nil, Made.val, Act.put, List.setIfInBounds_toArray, List.set_cons_zero, List.set_cons_succ]; go_simp; exact hK.out _ _ rfl (Below.refl _ _)
    refine StepsT.cons [(8, some 11, .is (.pointer (some ⟨o, 0, none⟩)))] (by simp only [List.getElem?_toArray, List.getElem?_cons_succ, List.getElem?_cons_zero]; rfl) (by kernel_rfl) (by rfl) (fun wx val iv hB hV K hK => ?_) ?_
    · clear hV; simp only [putT, List.foldl_cons, List.foldl_nil, Made.val, Act.put, List.setIfInBounds_toArray, List.set_cons_zero, List.set_cons_succ]; go_simp; exact hK.out _ _ rfl (Below.refl _ _)
    refine StepsT.cons [(9, some 12, .is (.pointer (some ⟨o, 0, none⟩)))] (by simp only [List.getElem?_toArray, List.getElem?_cons_succ, List.getElem?_cons_zero]; rfl) (by kernel_rfl) (by rfl) (fun wx val iv hB hV K hK => ?_) ?_
    · clear hV; simp only [putT, List.foldl_cons, List.foldl_nil, Made.val, Act.put, List.setIfInBounds_toArray, List.set_cons_zero, List.set_cons_succ]; go_simp; exact hK.out _ _ rfl (Below.refl _ _)
    refine StepsT.cons [(10, some 13, .is (.pointer (some ⟨o, 2, none⟩)))] (by simp only [List.getElem?_toArray, List.getElem?_cons_succ, List.getElem?_cons_zero]; rfl) (by kernel_rfl) (by rfl) (fun wx val iv hB hV K hK => ?_) ?_
    · (obtain ⟨k0, k1, k2, k3⟩ := HC.out wx hB); clear hV; simp only [putT, List.foldl_cons, List.foldl_nil, Made.val, Act.put, List.setIfInBounds_toArray, List.set_cons_zero, List.set_cons_succ]; go_simp; exact hK.out _ _ rfl (Below.refl _ _)
    refine StepsT.cons [(7, some 10, .is (.slice q3 m d3)), (11, some 14, .is (.int .i64 E.trump))] (by simp only [List.getElem?_toArray, List.getElem?_cons_succ, List.getElem?_cons_zero]; rfl) (by kernel_rfl) (by rfl) (fun wx val iv hB hV K hK => ?_) ?_
    · (clear hV; simp only [putT, List.foldl_cons, List.foldl_nil, Made.val, Act.put, List.setIfInBounds_toArray, List.set_cons_zero, List.set_cons_succ]; go_simp; go_at_call 79; refine (HWn.out wx hB).mono ?_; rintro e wa ⟨rfl, Ba⟩; exact hK.out _ _ rfl Ba)
    refine StepsT.cons [(3, some 6, .is (.int .i64 E.leader)), (12, some 15, .is (.int .i64 (k : Int)))] (by simp only [List.getElem?_toArray, List.getElem?_cons_succ, List.getElem?_cons_zero]; rfl) (by kernel_rfl) (by rfl) (fun wx val iv hB hV K hK => ?_) ?_
    · clear hV; simp only [putT, List.foldl_cons, List.foldl_nil, Made.val, Act.put, List.setIfInBounds_toArray, List.set_cons_zero, List.set_cons_succ]; go_simp; exact hK.out _ _ rfl (Below.refl _ _)
    refine StepsT.cons [] (by simp only [List.getElem?_toArray, List.getElem?_cons_succ, List.getElem?_cons_zero]; rfl) (by kernel_rfl) (by rfl) (fun wx val iv hB hV K hK => ?_) ?_
    · clear hV; simp only [putT, List.foldl_cons, List.foldl_nil, Made.val, Act.put, List.setIfInBounds_toArray, List.set_cons_zero, List.set_cons_succ]; go_simp; exact hK.out _ _ rfl (Below.refl _ _)
    refine StepsT.cons [(14, some 17, .is (.pointer (some ⟨o, 0, none⟩)))] (by simp only [List.getElem?_toArray, List.getElem?_cons_succ, List.getElem?_cons_zero]; rfl) (by kernel_rfl) (by rfl) (fun wx val iv hB hV K hK => ?_) ?_
    · clear hV; simp only [putT, List.foldl_cons, List.foldl_nil, Made.val, Act.put, List.setIfInBounds_toArray, List.set_cons_zero, List.set_cons_succ]; go_simp; exact hK.out _ _ rfl (Below.refl _ _)
    refine StepsT.cons [(15, some 18, .is (.pointer (some ⟨o, 0, none⟩)))] (by simp only [List.getElem?_toArray, List.getElem?_cons_succ, List.getElem?_cons_zero]; rfl) (by kernel_rfl) (by rfl) (fun wx val iv hB hV K hK => ?_) ?_
    · clear hV; simp only [putT, List.foldl_cons, List.foldl_nil, Made.val, Act.put, List.setIfInBounds_toArray, List.set_cons_zero, List.set_cons_succ]; go_simp; exact hK.out _ _ rfl (Below.refl _ _)
    refine StepsT.cons [(16, some 19, .is (.pointer (some ⟨o, 0, none⟩)))] (by simp only [List.getElem?_toArray, List.getElem?_cons_succ, List.getElem?_cons_zero]; rfl) (by kernel_rfl) (by rfl) (fun wx val iv hB hV K hK => ?_) ?_
    · (obtain ⟨k0, k1, k2, k3⟩ := HC.out wx hB); clear hV; simp only [putT, List.foldl_cons, List.foldl_nil, Made.val, Act.put, List.setIfInBounds_toArray, List.set_cons_zero, List.set_cons_succ]; go_simp; exact hK.out _ _ rfl (Below.refl _ _)
    refine StepsT.cons [(17, some 20, .is (.slice q0 n d0))] (by simp only [List.getElem?_toArray, List.getElem?_cons_succ, List.getElem?_cons_zero]; rfl) (by kernel_rfl) (by rfl) (fun wx val iv hB hV K hK => ?_) ?_
    · clear hV; simp only [putT, List.foldl_cons, List.foldl_nil, Made.val, Act.put, List.setIfInBounds_toArray, List.set_cons_zero, List.set_cons_succ]; go_simp; exact hK.out _ _ rfl (Below.refl _ _)
    refine StepsT.cons [(12, some 15, .is (.int .i64 (k : Int))), (13, some 16, .is (.int .i64 (E.leader + (k : Int)))), (18, some 21, .is (.int .i64 n))] (by simp only [List.getElem?_toArray, List.getElem?_cons_succ, List.getElem?_cons_zero]; rfl) (by kernel_rfl) (by rfl) (fun wx val iv hB hV K hK => ?_) ?_
    · (clear hV; simp only [putT, List.foldl_cons, List.foldl_nil, Made.val, Act.put, List.setIfInBounds_toArray, List.set_cons_zero, List.set_cons_succ]; go_simp; go_at_call 74; refine (HMo.out wx hB).mono ?_; rintro e wa ⟨rfl, Ba⟩; exact hK.out _ _ rfl Ba)
    exact StepsT.nil
  case fin =>
    intro wx val iv BX hV hD
    clear hV hD
    simp only [putT, List.foldl_cons, List.foldl_nil, Made.val, Act.put, List.setIfInBounds_toArray, List.set_cons_zero, List.set_cons_succ]
    refine wpAny_one (i := 20) (by kernel_rfl) (by simp only [List.getElem?_toArray, List.getElem?_cons_succ, List.getElem?_cons_zero]; rfl) (fun K hK => ?_)
    go_simp
    refine hK.out _ _ ?_
    clear hK K
    refine wpAny_end (by kernel_rfl) ?_
    have od := HO.out.below BX
    obtain ⟨hlo, l, e4, e5, hwe, hwl', -⟩ := HL.out
    have Bl : Below lo w wx := BX.mono hlo
    have hiw : wn < E.won.length := by omega
    obtain ⟨b, off, eq4, hc, hf, hbl, hbs, od1⟩ := od.setWon hiw (x := wrap64 (E.won[wn] + 1)) (wrap64_wf _)
    subst eq4
    have G := od.cells
    have z4 := box_cell G 4
    simp at z4
    obtain ⟨x, hx⟩ : ∃ x, x = E.won[wn] := ⟨_, rfl⟩
    rw [← hx] at hc od1
    obtain ⟨Y1, hY1⟩ : ∃ Y, Y = wx.setCell ⟨b, off + wn, none⟩ (.int .i64 (wrap64 (x + 1))) := ⟨_, rfl⟩
    rw [← hY1] at od1
    have B1 : Below lo w Y1 := by rw [hY1]; exact Bl.setCell hbl _
    have Hod1 := Lib.hid (And.intro od1 B1)
    have Hx := Lib.hid hx
    have HY := Lib.hid hY1
    have hw4 : wn < n4 := by omega
    have hw5 : wn < n5 := by omega
    clear od od1 B1 G hx hY1 Bl hlo l e4 e5 hwe hbl hbs HC HWn HMo hwr HO BX hwl' hwl
    go_upto_region 2 with fail
    rw [← HY.out]
    clear hc hf z4 HY
    obtain ⟨od1, B1⟩ := Hod1.out
    obtain ⟨hlo, l, e4, e5, hwe, hwl, hn8⟩ := HL.out
    obtain ⟨-, ⟨bt, rt⟩, -, -⟩ := od1.rd
    have hip : wn < E.points.length := by omega
    obtain ⟨bp, offp, eq5, hcp, hfp, hbpl, hbps, od2'⟩ := od1.setPoints hip (x := IntKind.i64.wrap (E.points[wn] + pts E.trick)) (wf_wrap _ _)
    have eqp : q5 = some ⟨bp, offp, none⟩ := eq5
    subst eqp
    clear eq5
    have G := od1.cells
    obtain ⟨y, hy⟩ : ∃ y, y = E.points[wn] := ⟨_, rfl⟩
    have hcp' : Y1.cell? ⟨bp, offp + wn, none⟩ = some (.int .i64 y) := by rw [hcp, hy]
    have HC2 : Hid (∀ wx, Below Y1.heap.size Y1 wx → wx.cell? ⟨o, 5, none⟩ = some (.slice (some ⟨bp, offp, none⟩) n5 d5) ∧ wx.cell? ⟨o, 3, none⟩ = some (.slice q3 m d3) ∧ wx.cell? ⟨bp, offp + wn, none⟩ = some (.int .i64 y)) := Lib.hid (fun wx hb => by
      have G' := (hb.block _ od1.lens.2.1).trans G
      refine ⟨?_, ?_, (hb.cell (World.block_lt_of_cell? _ _ hcp')).trans hcp'⟩ <;> (rw [box_cell G']; rfl))
    have HPt := Lib.hid (fun wx (hb : Below Y1.heap.size Y1 wx) => HP.out wx (B1.trans (hb.mono (Nat.le_trans hlo B1.size))) _ _ bt (rt.below hb))
    obtain ⟨pt, hpt⟩ : ∃ z, z = pts E.trick := ⟨_, rfl⟩
    rw [← hpt] at HPt
    have Hy := Lib.hid (And.intro hy hpt)
    clear hn8 od1 B1 rt hcp hfp hbpl hbps od2' G hcp' hy hpt hlo l e4 e5 hwe hwl
    refine wp_region_table [(0, some 32, .is (.pointer (some ⟨o, 0, none⟩))), (1, some 33, .is (.pointer (some ⟨o, 0, none⟩))), (2, some 34, .is (.pointer (some ⟨o, 5, none⟩))), (3, some 35, .is (.slice (some ⟨bp, offp, none⟩) n5 d5)), (4, some 36, .is (.int .i64 (wn : Int))), (5, some 37, .is (.pointer (some ⟨bp, offp + wn, none⟩))), (6, some 38, .is (.int .i64 y)), (7, some 39, .is (.pointer (some ⟨o, 0, none⟩))), (8, some 40, .is (.pointer (some ⟨o, 0, none⟩))), (9, some 41, .is (.pointer (some ⟨o, 3, none⟩))), (10, some 42, .is (.slice q3 m d3)), (11, some 43, .is (.int .i64 pt)), (12, some 44, .is (.int .i64 (IntKind.i64.wrap (y + pt))))] 2 (by kernel_rfl) (by kernel_rfl) (by kernel_rfl) (by kernel_rfl) (by kernel_rfl) (L := #[true, true, true, true, true, true, true, true, true, true, true, true, true, false, false]) (by kernel_rfl) ?steps ?fin
    case steps =>
      refine StepsT.cons [] (by simp only [List.getElem?_toArray, List.getElem?_cons_succ, List.getElem?_cons_zero]; rfl) (by kernel_rfl) (by rfl) (fun wx val iv hB hV K hK => ?_) ?_
      · clear hV; simp only [putT, List.foldl_cons, List.foldl_nil, Made.val, Act.put, List.setIfInBounds_toArray, List.set_cons_zero, List.set_cons_succ]; go_simp; exact hK.out _ _ rfl (Below.refl _ _)
      refine StepsT.cons [(0, some 32, .is (.pointer (some ⟨o, 0, none⟩)))] (by simp only [List.getElem?_toArray, List.getElem?_cons_succ, List.getElem?_cons_zero]; rfl) (by kernel_rfl) (by rfl) (fun wx val iv hB hV K hK => ?_) ?_
      · clear hV; simp only [putT, List.foldl_cons, List.foldl_nil, Made.val, Act.put, List.setIfInBounds_toArray, List.set_cons_zero, List.set_cons_succ]; go_simp; exact hK.out _ _ rfl (Below.refl _ _)
      refine StepsT.cons [(1, some 33, .is (.pointer (some ⟨o, 0, none⟩)))] (by simp only [List.getElem?_toArray, List.getElem?_cons_succ, List.getElem?_cons_zero]; rfl) (by kernel_rfl) (by rfl) (fun wx val iv hB hV K hK => ?_) ?_
      · clear hV; simp only [putT, List.foldl_cons, List.foldl_nil, Made.val, Act.put, List.setIfInBounds_toArray, List.set_cons_zero, List.set_cons_succ]; go_simp; exact hK.out _ _ rfl (Below.refl _ _)
      refine StepsT.cons [(2, some 34, .is (.pointer (some ⟨o, 5, none⟩)))] (by simp only [List.getElem?_toArray, List.getElem?_cons_succ, List.getElem?_cons_zero]; rfl) (by kernel_rfl) (by rfl) (fun wx val iv hB hV K hK => ?_) ?_
      · (obtain ⟨k0, k1, k2⟩ := HC2.out wx hB); clear hV; simp only [putT, List.foldl_cons, List.foldl_nil, Made.val, Act.put, List.setIfInBounds_toArray, List.set_cons_zero, List.set_cons_succ]; go_simp; exact hK.out _ _ rfl (Below.refl _ _)
      refine StepsT.cons [] (by simp only [List.getElem?_toArray, List.getElem?_cons_succ, List.getElem?_cons_zero]; rfl) (by kernel_rfl) (by rfl) (fun wx val iv hB hV K hK => ?_) ?_
      · clear hV; simp only [putT, List.foldl_cons, List.foldl_nil, Made.val, Act.put, List.setIfInBounds_toArray, List.set_cons_zero, List.set_cons_succ]; go_simp; exact hK.out _ _ rfl (Below.refl _ _)
      refine StepsT.cons [(3, some 35, .is (.slice (some ⟨bp, offp, none⟩) n5 d5)), (4, some 36, .is (.int .i64 (wn : Int)))] (by simp only [List.getElem?_toArray, List.getElem?_cons_succ, List.getElem?_cons_zero]; rfl) (by kernel_rfl) (by rfl) (fun wx val iv hB hV K hK => ?_) ?_
      · (obtain ⟨k0, k1, k2⟩ := HC2.out wx hB); clear hV; simp only [putT, List.foldl_cons, List.foldl_nil, Made.val, Act.put, List.setIfInBounds_toArray, List.set_cons_zero, List.set_cons_succ]; go_simp; exact hK.out _ _ rfl (Below.refl _ _)
      refine StepsT.cons [(5, some 37, .is (.pointer (some ⟨bp, offp + wn, none⟩)))] (by simp only [List.getElem?_toArray, List.getElem?_cons_succ, List.getElem?_cons_zero]; rfl) (by kernel_rfl) (by rfl) (fun wx val iv hB hV K hK => ?_) ?_
      · (obtain ⟨k0, k1, k2⟩ := HC2.out wx hB); clear hV; simp only [putT, List.foldl_cons, List.foldl_nil, Made.val, Act.put, List.setIfInBounds_toArray, List.set_cons_zero, List.set_cons_succ]; go_simp; exact hK.out _ _ rfl (Below.refl _ _)
      refine StepsT.cons [] (by simp only [List.getElem?_toArray, List.getElem?_cons_succ, List.getElem?_cons_zero]; rfl) (by kernel_rfl) (by rfl) (fun wx val iv hB hV K hK => ?_) ?_
      · clear hV; simp only [putT, List.foldl_cons, List.foldl_nil, Made.val, Act.put, List.setIfInBounds_toArray, List.set_cons_zero, List.set_cons_succ]; go_simp; exact hK.out _ _ rfl (Below.refl _ _)
      refine StepsT.cons [(7, some 39, .is (.pointer (some ⟨o, 0, none⟩)))] (by simp only [List.getElem?_toArray, List.getElem?_cons_succ, List.getElem?_cons_zero]; rfl) (by kernel_rfl) (by rfl) (fun wx val iv hB hV K hK => ?_) ?_
      · clear hV; simp only [putT, List.foldl_cons, List.foldl_nil, Made.val, Act.put, List.setIfInBounds_toArray, List.set_cons_zero, List.set_cons_succ]; go_simp; exact hK.out _ _ rfl (Below.refl _ _)
      refine StepsT.cons [(8, some 40, .is (.pointer (some ⟨o, 0, none⟩)))] (by simp only [List.getElem?_toArray, List.getElem?_cons_succ, List.getElem?_cons_zero]; rfl) (by kernel_rfl) (by rfl) (fun wx val iv hB hV K hK => ?_) ?_
      · clear hV; simp only [putT, List.foldl_cons, List.foldl_nil, Made.val, Act.put, List.setIfInBounds_toArray, List.set_cons_zero, List.set_cons_succ]; go_simp; exact hK.out _ _ rfl (Below.refl _ _)
      refine StepsT.cons [(9, some 41, .is (.pointer (some ⟨o, 3, none⟩)))] (by simp only [List.getElem?_toArray, List.getElem?_cons_succ, List.getElem?_cons_zero]; rfl) (by kernel_rfl) (by rfl) (fun wx val iv hB hV K hK => ?_) ?_
      · (obtain ⟨k0, k1, k2⟩ := HC2.out wx hB); clear hV; simp only [putT, List.foldl_cons, List.foldl_nil, Made.val, Act.put, List.setIfInBounds_toArray, List.set_cons_zero, List.set_cons_succ]; go_simp; exact hK.out _ _ rfl (Below.refl _ _)
      refine StepsT.cons [(10, some 42, .is (.slice q3 m d3))] (by simp only [List.getElem?_toArray, List.getElem?_cons_succ, List.getElem?_cons_zero]; rfl) (by kernel_rfl) (by rfl) (fun wx val iv hB hV K hK => ?_) ?_
      · (clear hV; simp only [putT, List.foldl_cons, List.foldl_nil, Made.val, Act.put, List.setIfInBounds_toArray, List.set_cons_zero, List.set_cons_succ]; go_simp; go_at_call 80; refine (HPt.out wx hB).mono ?_; rintro e wa ⟨rfl, Ba⟩; exact hK.out _ _ rfl Ba)
      refine StepsT.cons [(6, some 38, .is (.int .i64 y)), (11, some 43, .is (.int .i64 pt))] (by simp only [List.getElem?_toArray, List.getElem?_cons_succ, List.getElem?_cons_zero]; rfl) (by kernel_rfl) (by rfl) (fun wx val iv hB hV K hK => ?_) ?_
      · clear hV; simp only [putT, List.foldl_cons, List.foldl_nil, Made.val, Act.put, List.setIfInBounds_toArray, List.set_cons_zero, List.set_cons_succ]; go_simp; exact hK.out _ _ rfl (Below.refl _ _)
      exact StepsT.nil
    case fin =>
      intro wx val iv BX hV hD
      clear hV hD
      obtain ⟨od1, B1⟩ := Hod1.out
      have od1 := od1.below BX
      obtain ⟨hlo, l, e4, e5, hwe, hwl, hn8⟩ := HL.out
      obtain ⟨hy, hpt⟩ := Hy.out
      have hip : wn < E.points.length := by omega
      obtain ⟨bp', offp', eq5, hcp, hfp, hbpl, hbps, od2⟩ := od1.setPoints hip (x := IntKind.i64.wrap (E.points[wn] + pts E.trick)) (wf_wrap _ _)
      obtain ⟨rfl, rfl⟩ : bp = bp' ∧ offp = offp' := by simpa using eq5
      clear eq5
      rw [← hy, ← hpt] at od2
      have hcp' : wx.cell? ⟨bp, offp + wn, none⟩ = some (.int .i64 y) := by rw [hcp, hy]
      obtain ⟨Y2, hY2⟩ : ∃ Y, Y = wx.setCell ⟨bp, offp + wn, none⟩ (.int .i64 (IntKind.i64.wrap (y + pt))) := ⟨_, rfl⟩
      rw [← hY2] at od2
      have B2 : Below lo w Y2 := by rw [hY2]; exact (B1.trans (BX.mono (Nat.le_trans hlo B1.size))).setCell hbpl _
      have Hod2 := Lib.hid (And.intro od2 B2)
      have HY2 := Lib.hid hY2
      clear hn8 od1 B1 od2 B2 hcp hbpl hbps hy hpt hlo l e4 e5 hwe hwl hY2 BX
      simp only [putT, List.foldl_cons, List.foldl_nil, Made.val, Act.put, List.setIfInBounds_toArray, List.set_cons_zero, List.set_cons_succ]
      refine wpAny_one (i := 13) (by kernel_rfl) (by simp only [List.getElem?_toArray, List.getElem?_cons_succ, List.getElem?_cons_zero]; rfl) (fun K hK => ?_)
      go_simp
      refine hK.out _ _ ?_
      clear hK K
      refine wpAny_one (i := 14) (by kernel_rfl) (by simp only [List.getElem?_toArray, List.getElem?_cons_succ, List.getElem?_cons_zero]; rfl) (fun K hK => ?_)
      go_simp
      refine hK.out _ _ ?_
      clear hK K
      clear hcp' hfp
      refine wpAny_end (by kernel_rfl) ?_
      rw [← HY2.out]
      clear HY2
      obtain ⟨od2, B2⟩ := Hod2.out
      obtain ⟨hlo, l, e4, e5, hwe, hwl, hn8⟩ := HL.out
      have od3 := od2.setLeader (x := (wn : Int)) (WalkArith.wf_i64 (by have := od2.lens; omega))
      have G2 := od2.cells
      have z1 := box_cell G2 1
      have y1 := box_free G2 1
      simp at z1
      obtain ⟨Y3, hY3⟩ : ∃ Y, Y = Y2.setCell ⟨o, 1, none⟩ (.int .i64 (wn : Int)) := ⟨_, rfl⟩
      rw [← hY3] at od3
      have B3 : Below lo w Y3 := by rw [hY3]; exact B2.setCell l.1 _
      have hA : Below Y3.heap.size Y3 (Y3.alloc (.cells #[] 3)) := (Below.refl _ _).alloc (Nat.le_refl _) _
      have od4 := (od3.below hA).noTrick Y3.heap.size
      have G3 := (od3.below hA).cells
      have z3 := box_cell G3 3
      have y3 := box_free G3 3
      simp at z3
      have B4 : Below lo w ((Y3.alloc (.cells #[] 3)).setCell ⟨o, 3, none⟩ (.slice (some ⟨Y3.heap.size, 0, none⟩) 0 0)) := (B3.trans (hA.mono (Nat.le_trans hlo B3.size))).setCell l.1 _
      obtain ⟨hy, hpt⟩ := Hy.out
      have hE : endP E = { { { { E with won := E.won.set wn (wrap64 (x + 1)) } with points := E.points.set wn (IntKind.i64.wrap (y + pt)) } with leader := (wn : Int) } with trick := [] } := by
        have w1 : wn < E.won.length := by omega
        have w2 : wn < E.points.length := by omega
        unfold endP
        rw [hwe, Hx.out, hy, hpt]
        simp [List.getD, w1, w2, wrap_64]
      have HF := Lib.hid (And.intro (Exists.intro (p := fun g => OD lo o _ (endP E) q0 (some ⟨g, 0, none⟩) _ _ d0 0 d4 d5 n 0 n4 n5) Y3.heap.size (by rw [hE]; exact od4)) B4)
      have HY3 := Lib.hid hY3
      clear hn8 od2 B2 od3 G2 B3 hA od4 G3 B4 hy hpt hE hY3 hlo l e4 e5 hwe hwl
      go_upto_region 4 with fail
      rw [← HY3.out]
      clear z1 y1 HY3
      go_wp2_with fail
      exact bodyPost_end (v := .tuple #[]) (by first | rfl | simp [results, go_sem]) rfl ⟨rfl, HF.out⟩
end Go.Proofs.YtbojhbhniollaaaDoor
