/-
  PeekText, both sides.
-/
import Derived.Test.YtmfammgdcdlceaaDoorSizesW
import Derived.Test.YtmfammgdcdlceaaDoorSPeek
import Derived.Test.YtmfammgdcdlceaaDoorHandTS
import Derived.Test.YtmfammgdcdlceaaDoorHandTI
import Derived.Test.YtmfammgdcdlceaaDoorMade
import Derived.Deep.Cut
namespace Go.Proofs.YtmfammgdcdlceaaDoor
open Go.RowKit
set_option linter.unusedVariables false
set_option linter.unusedSimpArgs false

def handL (zs : List Int) : List UInt8 := (handTxt zs).data.toList
theorem handL_v2 {zs : List Int} : Value.string (handTxt zs) = .string ⟨(handL zs).toArray⟩ := by
  unfold handL
  cases handTxt zs; rfl
theorem handL_len (zs : List Int) : (handL zs).length ≤ 2 * zs.length + 1 := by
  unfold handL handTxt dashed
  split
  · simp
  · have := allL_len cardL (fun c => (cardL_len c).2) zs
    simp; omega
theorem handL_one (c : Int) : handL [c] = cardL c := by
  unfold handL handTxt
  rw [dashed_some _ _ (by simp)]
  simp [allL]
def headL (D : MPeek) : List UInt8 := Lib.itoa D.me ++ [58] ++ handL D.hand ++ [32] ++ cardL D.top
def peekL (D : MPeek) : List UInt8 := headL D ++ allL sizeL D.sizes
set_option maxRecDepth 100000 in
set_option maxHeartbeats 4000000 in
theorem sPeekText_any (v : Value) (D : MPeek) (w : World) (h : RdPeek w v D) (hf : D.Few) :
    Calls Tryd.prog 16 #[v] w fun e w' => e = .returned (.string ⟨(peekL D).toArray⟩) ∧ Below w.heap.size w w' := by
  obtain ⟨v1, v5, b1, b5, rfl, h1, h5, wf0, wf2, -⟩ := h
  obtain ⟨p1, c1, e1, -⟩ := id h1
  subst e1
  obtain ⟨p5, c5, e5, hcap5, -⟩ := id h5
  subst e5
  obtain ⟨f1, f5⟩ := hf
  obtain ⟨W0, hW0⟩ : ∃ W, W = w.alloc (.cells #[.int .i64 D.me, .slice p1 D.hand.length c1, .int .i64 D.top, .int .i64 D.heapSize, .int .i64 D.stockSize, .slice p5 D.sizes.length c5, .int .i64 D.turn, .int .i64 D.moves] 35) := ⟨_, rfl⟩
  have G0 : W0.heap[w.heap.size]? = some (.cells #[.int .i64 D.me, .slice p1 D.hand.length c1, .int .i64 D.top, .int .i64 D.heapSize, .int .i64 D.stockSize, .slice p5 D.sizes.length c5, .int .i64 D.turn, .int .i64 D.moves] 35 (0, 0)) := by rw [hW0]; exact heap_alloc_new _ _
  have hsz : W0.heap.size = w.heap.size + 1 := by rw [hW0]; simp
  have B0 : Below w.heap.size w W0 := by rw [hW0]; exact (Below.refl _ _).alloc (Nat.le_refl _) _
  have HCT := Lib.hid (fun wx => sCardText_any D.top wx)
  have HFM := Lib.hid (fun wx => sFormatInt_any D.me wx wf0)
  have HHT := Lib.hid (fun wx (hb : Below w.heap.size w wx) => sHandText_any _ D.hand b1 wx (h1.below hb) f1)
  have HSz := Lib.hid (fun wx (hb : Below w.heap.size w wx) => h5.below hb)
  have HG : Hid (∀ wx, Below W0.heap.size W0 wx → wx.heap[w.heap.size]? = some (.cells #[.int .i64 D.me, .slice p1 D.hand.length c1, .int .i64 D.top, .int .i64 D.heapSize, .int .i64 D.stockSize, .slice p5 D.sizes.length c5, .int .i64 D.turn, .int .i64 D.moves] 35 (0, 0)) ∧ Below w.heap.size w wx) := Lib.hid (fun wx hb => ⟨(hb.block _ (by omega)).trans G0, B0.trans (hb.mono B0.size)⟩)
  have HF := Lib.hid (fun k hk => allL_takeC (f := sizeL) (zs := D.sizes) (fun x hx => sizeL_len (h5.wf x hx)) k hk)
  have HL := Lib.hid (And.intro (itoaL_len wf0) (And.intro (handL_len D.hand) (And.intro (cardL_len D.top).2 (And.intro f1 f5))))
  have HW := Lib.hid hW0
  have Hwf := Lib.hid h5.wf
  have HPL : Hid (peekL D = headL D ++ allL sizeL D.sizes) := Lib.hid rfl
  have HHd : Hid (headL D = Lib.itoa D.me ++ [58] ++ handL D.hand ++ [32] ++ cardL D.top) := Lib.hid rfl
  have HCo := Lib.hid (fun (h : ¬ (0 ≤ D.top ∧ D.top ≤ 51)) => cardTxt_out D.top h)
  obtain ⟨k0, k1, k2, -⟩ := SPeek_cells G0
  have kk2 : W0.cell? ⟨w.heap.size, 2, none⟩ = some (.int .i64 D.top) := k2
  clear hW0 h1 h5 G0 hsz B0 hcap5 k0 k1 k2 wf0 wf2 f1 f5
  go_enter Tryd.func16, Tryd.ntmps16
  go_upto_region 1 with fail
  rw [← HW.out]
  go_wp2_with fail
  refine (HCT.out W0).mono ?_
  rintro e w1 ⟨rfl, bb1⟩
  obtain ⟨T, hT, hTe⟩ : ∃ T, T = cardTxt D.top ∧ True := ⟨_, rfl, trivial⟩
  rw [← hT]
  by_cases hr : 0 ≤ D.top ∧ D.top ≤ 51
  · have hTL : T = ⟨(cardL D.top).toArray⟩ := by rw [cardL_in hr]; exact hT
    subst hTL
    have hq0 : (cardL D.top).length = 2 := cardL_two hr
    have hqE : (cardL D.top).isEmpty = false := by
      cases hh : cardL D.top with
      | nil => rw [hh] at hq0; simp at hq0
      | cons a b => rfl
    clear hr hT hq0
    go_upto_region 4 with fail
    obtain ⟨A1, hA1⟩ : ∃ A, A = Lib.itoa D.me ++ [58] := ⟨_, rfl⟩
    obtain ⟨A2, hA2⟩ : ∃ A, A = A1 ++ handL D.hand := ⟨_, rfl⟩
    obtain ⟨A3, hA3⟩ : ∃ A, A = A2 ++ [32] := ⟨_, rfl⟩
    obtain ⟨A4, hA4⟩ : ∃ A, A = A3 ++ (cardL D.top) := ⟨_, rfl⟩
    have lA1 : A1.length ≤ 21 := by have := HL.out.1; rw [hA1]; simp; omega
    have lA2 : A2.length ≤ 2100000 := by have := HL.out; rw [hA2]; simp; omega
    have lA3 : A3.length ≤ 2100001 := by rw [hA3]; simp; omega
    have lA4 : A4.length ≤ 2200000 := by have := HL.out; rw [hA4]; simp; omega
    have ad1 : ∀ wq, (Op.stringOp .add ⟨(Lib.itoa D.me).toArray⟩ ⟨#[58]⟩).run Tryd.prog wq = .ok (.string ⟨A1.toArray⟩) wq := fun wq => by rw [hA1]; exact addL_run wq _ [58] (by have := HL.out.1; simp; omega)
    have ad2 : ∀ wq, (Op.stringOp .add ⟨A1.toArray⟩ ⟨(handL D.hand).toArray⟩).run Tryd.prog wq = .ok (.string ⟨A2.toArray⟩) wq := fun wq => by rw [hA2]; exact addL_run wq _ _ (by have := HL.out; omega)
    have ad3 : ∀ wq, (Op.stringOp .add ⟨A2.toArray⟩ ⟨#[32]⟩).run Tryd.prog wq = .ok (.string ⟨A3.toArray⟩) wq := fun wq => by rw [hA3]; exact addL_run wq _ [32] (by simp; omega)
    have ad4 : ∀ wq, (Op.stringOp .add ⟨A3.toArray⟩ ⟨(cardL D.top).toArray⟩).run Tryd.prog wq = .ok (.string ⟨A4.toArray⟩) wq := fun wq => by rw [hA4]; exact addL_run wq _ (cardL D.top) (by have := HL.out; omega)
    have HA := Lib.hid (And.intro hA1 (And.intro hA2 (And.intro hA3 hA4)))
    clear hA1 hA2 hA3 hA4
    refine wp_region_table [(0, some 11, .is (.pointer (some ⟨w.heap.size, 0, none⟩))), (1, some 12, .is (.int .i64 D.me)), (2, some 13, .is (.string ⟨(Lib.itoa D.me).toArray⟩)), (3, some 14, .is (.string ⟨A1.toArray⟩)), (4, some 15, .is (.pointer (some ⟨w.heap.size, 1, none⟩))), (5, some 16, .is (.slice p1 D.hand.length c1)), (6, some 17, .is (.string ⟨(handL D.hand).toArray⟩)), (7, some 18, .is (.string ⟨A2.toArray⟩)), (8, some 19, .is (.string ⟨A3.toArray⟩)), (9, some 20, .is (.string ⟨(cardL D.top).toArray⟩)), (10, some 21, .is (.string ⟨A4.toArray⟩))] 1 (by kernel_rfl) (by kernel_rfl) (by kernel_rfl) (by kernel_rfl) (by kernel_rfl) (L := #[true, true, true, true, true, true, true, true, true, true, true, false]) (by kernel_rfl) ?steps ?fin
    case steps =>
      refine StepsT.cons [] (by simp only [List.getElem?_toArray, List.getElem?_cons_succ, List.getElem?_cons_zero]; rfl) (by kernel_rfl) (by rfl) (fun wx val iv hB hV K hK => ?_) ?_
      · clear hV; simp only [putT, List.foldl_cons, List.foldl_nil, Made.val, Act.put, List.setIfInBounds_toArray, List.set_cons_zero, List.set_cons_succ]; go_simp; exact hK.out _ _ rfl (Below.refl _ _)
      refine StepsT.cons [(0, some 11, .is (.pointer (some ⟨w.heap.size, 0, none⟩)))] (by simp only [List.getElem?_toArray, List.getElem?_cons_succ, List.getElem?_cons_zero]; rfl) (by kernel_rfl) (by rfl) (fun wx val iv hB hV K hK => ?_) ?_
      · (obtain ⟨kk0, kk1, -⟩ := SPeek_cells (HG.out wx (bb1.trans (hB.mono bb1.size))).1); clear hV; simp only [putT, List.foldl_cons, List.foldl_nil, Made.val, Act.put, List.setIfInBounds_toArray, List.set_cons_zero, List.set_cons_succ]; go_simp; exact hK.out _ _ rfl (Below.refl _ _)
      refine StepsT.cons [(1, some 12, .is (.int .i64 D.me))] (by simp only [List.getElem?_toArray, List.getElem?_cons_succ, List.getElem?_cons_zero]; rfl) (by kernel_rfl) (by rfl) (fun wx val iv hB hV K hK => ?_) ?_
      · (clear hV; simp only [putT, List.foldl_cons, List.foldl_nil, Made.val, Act.put, List.setIfInBounds_toArray, List.set_cons_zero, List.set_cons_succ]; go_simp; go_at_call 32; refine (HFM.out wx).mono ?_; rintro e wa ⟨rfl, Ba⟩; exact hK.out _ _ rfl Ba)
      refine StepsT.cons [(2, some 13, .is (.string ⟨(Lib.itoa D.me).toArray⟩))] (by simp only [List.getElem?_toArray, List.getElem?_cons_succ, List.getElem?_cons_zero]; rfl) (by kernel_rfl) (by rfl) (fun wx val iv hB hV K hK => ?_) ?_
      · clear hV; simp only [putT, List.foldl_cons, List.foldl_nil, Made.val, Act.put, List.setIfInBounds_toArray, List.set_cons_zero, List.set_cons_succ]; go_simp; exact hK.out _ _ rfl (Below.refl _ _)
      refine StepsT.cons [] (by simp only [List.getElem?_toArray, List.getElem?_cons_succ, List.getElem?_cons_zero]; rfl) (by kernel_rfl) (by rfl) (fun wx val iv hB hV K hK => ?_) ?_
      · clear hV; simp only [putT, List.foldl_cons, List.foldl_nil, Made.val, Act.put, List.setIfInBounds_toArray, List.set_cons_zero, List.set_cons_succ]; go_simp; exact hK.out _ _ rfl (Below.refl _ _)
      refine StepsT.cons [(4, some 15, .is (.pointer (some ⟨w.heap.size, 1, none⟩)))] (by simp only [List.getElem?_toArray, List.getElem?_cons_succ, List.getElem?_cons_zero]; rfl) (by kernel_rfl) (by rfl) (fun wx val iv hB hV K hK => ?_) ?_
      · (obtain ⟨kk0, kk1, -⟩ := SPeek_cells (HG.out wx (bb1.trans (hB.mono bb1.size))).1); clear hV; simp only [putT, List.foldl_cons, List.foldl_nil, Made.val, Act.put, List.setIfInBounds_toArray, List.set_cons_zero, List.set_cons_succ]; go_simp; exact hK.out _ _ rfl (Below.refl _ _)
      refine StepsT.cons [(2, some 13, .is (.string ⟨(Lib.itoa D.me).toArray⟩)), (5, some 16, .is (.slice p1 D.hand.length c1))] (by simp only [List.getElem?_toArray, List.getElem?_cons_succ, List.getElem?_cons_zero]; rfl) (by kernel_rfl) (by rfl) (fun wx val iv hB hV K hK => ?_) ?_
      · (have hbw := (HG.out wx (bb1.trans (hB.mono bb1.size))).2; clear hV; simp only [putT, List.foldl_cons, List.foldl_nil, Made.val, Act.put, List.setIfInBounds_toArray, List.set_cons_zero, List.set_cons_succ]; go_simp; go_at_call 47; refine (HHT.out wx hbw).mono ?_; rintro e wa ⟨rfl, Ba⟩; exact hK.out _ _ handL_v2 Ba)
      refine StepsT.cons [(3, some 14, .is (.string ⟨A1.toArray⟩)), (6, some 17, .is (.string ⟨(handL D.hand).toArray⟩))] (by simp only [List.getElem?_toArray, List.getElem?_cons_succ, List.getElem?_cons_zero]; rfl) (by kernel_rfl) (by rfl) (fun wx val iv hB hV K hK => ?_) ?_
      · clear hV; simp only [putT, List.foldl_cons, List.foldl_nil, Made.val, Act.put, List.setIfInBounds_toArray, List.set_cons_zero, List.set_cons_succ]; go_simp; exact hK.out _ _ rfl (Below.refl _ _)
      refine StepsT.cons [(7, some 18, .is (.string ⟨A2.toArray⟩))] (by simp only [List.getElem?_toArray, List.getElem?_cons_succ, List.getElem?_cons_zero]; rfl) (by kernel_rfl) (by rfl) (fun wx val iv hB hV K hK => ?_) ?_
      · clear hV; simp only [putT, List.foldl_cons, List.foldl_nil, Made.val, Act.put, List.setIfInBounds_toArray, List.set_cons_zero, List.set_cons_succ]; go_simp; exact hK.out _ _ rfl (Below.refl _ _)
      refine StepsT.cons [] (by simp only [List.getElem?_toArray, List.getElem?_cons_succ, List.getElem?_cons_zero]; rfl) (by kernel_rfl) (by rfl) (fun wx val iv hB hV K hK => ?_) ?_
      · clear hV; simp only [putT, List.foldl_cons, List.foldl_nil, Made.val, Act.put, List.setIfInBounds_toArray, List.set_cons_zero, List.set_cons_succ]; go_simp; exact hK.out _ _ rfl (Below.refl _ _)
      refine StepsT.cons [(8, some 19, .is (.string ⟨A3.toArray⟩)), (9, some 20, .is (.string ⟨(cardL D.top).toArray⟩))] (by simp only [List.getElem?_toArray, List.getElem?_cons_succ, List.getElem?_cons_zero]; rfl) (by kernel_rfl) (by rfl) (fun wx val iv hB hV K hK => ?_) ?_
      · clear hV; simp only [putT, List.foldl_cons, List.foldl_nil, Made.val, Act.put, List.setIfInBounds_toArray, List.set_cons_zero, List.set_cons_succ]; go_simp; exact hK.out _ _ rfl (Below.refl _ _)
      exact StepsT.nil
    case fin =>
      intro wx val iv BX hV hD
      clear hV hD ad1 ad2 ad3 ad4
      (try simp only [putT, List.foldl_cons, List.foldl_nil, Made.val, Act.put, List.setIfInBounds_toArray, List.set_cons_zero, List.set_cons_succ])
      refine wpAny_one (i := 11) (by kernel_rfl) (by simp only [List.getElem?_toArray, List.getElem?_cons_succ, List.getElem?_cons_zero]; rfl) (fun K hK => ?_)
      go_simp
      refine hK.out _ _ ?_
      clear hK K
      refine wpAny_end (by kernel_rfl) ?_
      (try simp only [putT, List.foldl_cons, List.foldl_nil, Made.val, Act.put, List.setIfInBounds_toArray, List.set_cons_zero, List.set_cons_succ])
      have hbX := (HG.out wx (bb1.trans (BX.mono bb1.size)))
      clear BX
      go_upto_region 6 with fail
      have HHD : Hid (headL D = A4) := Lib.hid (by obtain ⟨h1, h2, h3, h4⟩ := HA.out; rw [HHd.out, h4, h3, h2, h1])
      have hfl0 : A4.length ≤ 3000000 := by omega
      clear HA lA1 lA2 lA3 lA4
      generalize A4 = H0 at *
      have Hx := Lib.hid hbX
      obtain ⟨n, hn⟩ : ∃ n, n = D.sizes.length := ⟨_, rfl⟩
      have Hn := Lib.hid hn
      have hn5 : n ≤ 1048576 := by rw [hn]; exact HL.out.2.2.2.2
      clear hbX hn
      go_loopw [4, 5] (fun s i wr => ∃ k : Nat, k ≤ n ∧ i = .int .i64 k ∧ Below wx.heap.size wx wr ∧ s = .string ⟨(H0 ++ allL sizeL (D.sizes.take k)).toArray⟩) (fun _ i _ => n - (intOf i).toNat)
      case atStart => exact ⟨0, Nat.zero_le _, rfl, Below.refl _ _, by simp [allL]⟩
      case round =>
        obtain ⟨k, hk, rfl, hb2, rfl⟩ := hrel
        have Bw := Hx.out.2.trans (hb2.mono Hx.out.2.size)
        have kk5 : wr.cell? ⟨w.heap.size, 5, none⟩ = some (.slice p5 n c5) := by
          have g := (hb2.block _ (Array.getElem?_eq_some_iff.1 Hx.out.1).1).trans Hx.out.1
          rw [Hn.out]
          obtain ⟨-, -, -, -, -, k5, -⟩ := SPeek_cells g
          exact k5
        by_cases hlt : k < n
        · have hzl : k < D.sizes.length := by rw [← Hn.out]; exact hlt
          obtain ⟨off, hp5, hc1⟩ : ∃ off, p5 = some ⟨b5, off, none⟩ ∧ wr.cell? ⟨b5, off + k, none⟩ = some (.int .i64 D.sizes[k]) := by
            rcases (HSz.out wr Bw).open with ⟨h00, -⟩ | ⟨-, off2, c2, hv, -, hc2⟩
            · rw [h00] at hzl; simp at hzl
            · exact ⟨off2, (Value.slice.inj hv).1, hc2 k hzl⟩
          subst hp5
          have hyw : (Lit.int .i64 D.sizes[k]).wf = true := Hwf.out _ (List.getElem_mem hzl)
          have HT : Hid (H0 ++ allL sizeL (D.sizes.take (k + 1)) = H0 ++ allL sizeL (D.sizes.take k) ++ [32] ++ Lib.itoa D.sizes[k]) := Lib.hid (by rw [allL_take sizeL D.sizes k hzl]; simp [sizeL])
          have hFl : (H0 ++ allL sizeL (D.sizes.take k)).length ≤ 130000000 := by
            have := HF.out k (by omega)
            rw [List.length_append]; omega
          have hYl := itoaL_len hyw
          have HC := Lib.hid (sFormatInt_any D.sizes[k] wr hyw)
          generalize D.sizes[k] = y at *
          generalize Lib.itoa y = Y at *
          generalize (H0 ++ allL sizeL (D.sizes.take k)) = F at *
          have hadd0 : ∀ wq, (Op.stringOp .add ⟨F.toArray⟩ ⟨#[32]⟩).run Tryd.prog wq = .ok (.string ⟨(F ++ [32]).toArray⟩) wq := fun wq => addL_run wq F [32] (by simp; omega)
          have hadd : ∀ wq, (Op.stringOp .add ⟨(F ++ [32]).toArray⟩ ⟨Y.toArray⟩).run Tryd.prog wq = .ok (.string ⟨(F ++ [32] ++ Y).toArray⟩) wq := fun wq => addL_run wq (F ++ [32]) Y (by simp; omega)
          clear hyw Bw
          go_wp2_with fail
          refine HC.out.mono ?_
          rintro e w3 ⟨rfl, b3⟩
          have B3 := hb2.trans (b3.mono hb2.size)
          clear b3
          go_wp2_with fail
          go_roundw
          case rel => exact ⟨k + 1, by omega, by go_num, B3, by rw [HT.out]; simp⟩
          case measure => simp [intOf]; omega
        · obtain rfl : k = n := by omega
          have e : D.sizes.take k = D.sizes := List.take_of_length_le (by rw [Hn.out]; exact Nat.le_refl _)
          rw [e]
          clear e
          go_wp2_with fail
          go_ret
          exact ⟨by rw [HPL.out, HHD.out]; rfl, Bw⟩
  · have hTL : T = ⟨#[]⟩ := by rw [hT]; exact HCo.out hr
    have hc63 : cardL D.top = [63] := cardL_out hr
    subst hTL
    have Hc63 := Lib.hid hc63
    clear hr hT hc63
    go_upto_region 4 with fail
    obtain ⟨A1, hA1⟩ : ∃ A, A = Lib.itoa D.me ++ [58] := ⟨_, rfl⟩
    obtain ⟨A2, hA2⟩ : ∃ A, A = A1 ++ handL D.hand := ⟨_, rfl⟩
    obtain ⟨A3, hA3⟩ : ∃ A, A = A2 ++ [32] := ⟨_, rfl⟩
    obtain ⟨A4, hA4⟩ : ∃ A, A = A3 ++ [63] := ⟨_, rfl⟩
    have lA1 : A1.length ≤ 21 := by have := HL.out.1; rw [hA1]; simp; omega
    have lA2 : A2.length ≤ 2100000 := by have := HL.out; rw [hA2]; simp; omega
    have lA3 : A3.length ≤ 2100001 := by rw [hA3]; simp; omega
    have lA4 : A4.length ≤ 2200000 := by have := HL.out; rw [hA4]; simp; omega
    have ad1 : ∀ wq, (Op.stringOp .add ⟨(Lib.itoa D.me).toArray⟩ ⟨#[58]⟩).run Tryd.prog wq = .ok (.string ⟨A1.toArray⟩) wq := fun wq => by rw [hA1]; exact addL_run wq _ [58] (by have := HL.out.1; simp; omega)
    have ad2 : ∀ wq, (Op.stringOp .add ⟨A1.toArray⟩ ⟨(handL D.hand).toArray⟩).run Tryd.prog wq = .ok (.string ⟨A2.toArray⟩) wq := fun wq => by rw [hA2]; exact addL_run wq _ _ (by have := HL.out; omega)
    have ad3 : ∀ wq, (Op.stringOp .add ⟨A2.toArray⟩ ⟨#[32]⟩).run Tryd.prog wq = .ok (.string ⟨A3.toArray⟩) wq := fun wq => by rw [hA3]; exact addL_run wq _ [32] (by simp; omega)
    have ad4 : ∀ wq, (Op.stringOp .add ⟨A3.toArray⟩ ⟨#[63]⟩).run Tryd.prog wq = .ok (.string ⟨A4.toArray⟩) wq := fun wq => by rw [hA4]; exact addL_run wq _ [63] (by have := HL.out; simp; omega)
    have HA := Lib.hid (And.intro hA1 (And.intro hA2 (And.intro hA3 hA4)))
    clear hA1 hA2 hA3 hA4
    refine wp_region_table [(0, some 11, .is (.pointer (some ⟨w.heap.size, 0, none⟩))), (1, some 12, .is (.int .i64 D.me)), (2, some 13, .is (.string ⟨(Lib.itoa D.me).toArray⟩)), (3, some 14, .is (.string ⟨A1.toArray⟩)), (4, some 15, .is (.pointer (some ⟨w.heap.size, 1, none⟩))), (5, some 16, .is (.slice p1 D.hand.length c1)), (6, some 17, .is (.string ⟨(handL D.hand).toArray⟩)), (7, some 18, .is (.string ⟨A2.toArray⟩)), (8, some 19, .is (.string ⟨A3.toArray⟩)), (9, some 20, .is (.string ⟨#[63]⟩)), (10, some 21, .is (.string ⟨A4.toArray⟩))] 1 (by kernel_rfl) (by kernel_rfl) (by kernel_rfl) (by kernel_rfl) (by kernel_rfl) (L := #[true, true, true, true, true, true, true, true, true, true, true, false]) (by kernel_rfl) ?steps ?fin
    case steps =>
      refine StepsT.cons [] (by simp only [List.getElem?_toArray, List.getElem?_cons_succ, List.getElem?_cons_zero]; rfl) (by kernel_rfl) (by rfl) (fun wx val iv hB hV K hK => ?_) ?_
      · clear hV; simp only [putT, List.foldl_cons, List.foldl_nil, Made.val, Act.put, List.setIfInBounds_toArray, List.set_cons_zero, List.set_cons_succ]; go_simp; exact hK.out _ _ rfl (Below.refl _ _)
      refine StepsT.cons [(0, some 11, .is (.pointer (some ⟨w.heap.size, 0, none⟩)))] (by simp only [List.getElem?_toArray, List.getElem?_cons_succ, List.getElem?_cons_zero]; rfl) (by kernel_rfl) (by rfl) (fun wx val iv hB hV K hK => ?_) ?_
      · (obtain ⟨kk0, kk1, -⟩ := SPeek_cells (HG.out wx (bb1.trans (hB.mono bb1.size))).1); clear hV; simp only [putT, List.foldl_cons, List.foldl_nil, Made.val, Act.put, List.setIfInBounds_toArray, List.set_cons_zero, List.set_cons_succ]; go_simp; exact hK.out _ _ rfl (Below.refl _ _)
      refine StepsT.cons [(1, some 12, .is (.int .i64 D.me))] (by simp only [List.getElem?_toArray, List.getElem?_cons_succ, List.getElem?_cons_zero]; rfl) (by kernel_rfl) (by rfl) (fun wx val iv hB hV K hK => ?_) ?_
      · (clear hV; simp only [putT, List.foldl_cons, List.foldl_nil, Made.val, Act.put, List.setIfInBounds_toArray, List.set_cons_zero, List.set_cons_succ]; go_simp; go_at_call 32; refine (HFM.out wx).mono ?_; rintro e wa ⟨rfl, Ba⟩; exact hK.out _ _ rfl Ba)
      refine StepsT.cons [(2, some 13, .is (.string ⟨(Lib.itoa D.me).toArray⟩))] (by simp only [List.getElem?_toArray, List.getElem?_cons_succ, List.getElem?_cons_zero]; rfl) (by kernel_rfl) (by rfl) (fun wx val iv hB hV K hK => ?_) ?_
      · clear hV; simp only [putT, List.foldl_cons, List.foldl_nil, Made.val, Act.put, List.setIfInBounds_toArray, List.set_cons_zero, List.set_cons_succ]; go_simp; exact hK.out _ _ rfl (Below.refl _ _)
      refine StepsT.cons [] (by simp only [List.getElem?_toArray, List.getElem?_cons_succ, List.getElem?_cons_zero]; rfl) (by kernel_rfl) (by rfl) (fun wx val iv hB hV K hK => ?_) ?_
      · clear hV; simp only [putT, List.foldl_cons, List.foldl_nil, Made.val, Act.put, List.setIfInBounds_toArray, List.set_cons_zero, List.set_cons_succ]; go_simp; exact hK.out _ _ rfl (Below.refl _ _)
      refine StepsT.cons [(4, some 15, .is (.pointer (some ⟨w.heap.size, 1, none⟩)))] (by simp only [List.getElem?_toArray, List.getElem?_cons_succ, List.getElem?_cons_zero]; rfl) (by kernel_rfl) (by rfl) (fun wx val iv hB hV K hK => ?_) ?_
      · (obtain ⟨kk0, kk1, -⟩ := SPeek_cells (HG.out wx (bb1.trans (hB.mono bb1.size))).1); clear hV; simp only [putT, List.foldl_cons, List.foldl_nil, Made.val, Act.put, List.setIfInBounds_toArray, List.set_cons_zero, List.set_cons_succ]; go_simp; exact hK.out _ _ rfl (Below.refl _ _)
      refine StepsT.cons [(2, some 13, .is (.string ⟨(Lib.itoa D.me).toArray⟩)), (5, some 16, .is (.slice p1 D.hand.length c1))] (by simp only [List.getElem?_toArray, List.getElem?_cons_succ, List.getElem?_cons_zero]; rfl) (by kernel_rfl) (by rfl) (fun wx val iv hB hV K hK => ?_) ?_
      · (have hbw := (HG.out wx (bb1.trans (hB.mono bb1.size))).2; clear hV; simp only [putT, List.foldl_cons, List.foldl_nil, Made.val, Act.put, List.setIfInBounds_toArray, List.set_cons_zero, List.set_cons_succ]; go_simp; go_at_call 47; refine (HHT.out wx hbw).mono ?_; rintro e wa ⟨rfl, Ba⟩; exact hK.out _ _ handL_v2 Ba)
      refine StepsT.cons [(3, some 14, .is (.string ⟨A1.toArray⟩)), (6, some 17, .is (.string ⟨(handL D.hand).toArray⟩))] (by simp only [List.getElem?_toArray, List.getElem?_cons_succ, List.getElem?_cons_zero]; rfl) (by kernel_rfl) (by rfl) (fun wx val iv hB hV K hK => ?_) ?_
      · clear hV; simp only [putT, List.foldl_cons, List.foldl_nil, Made.val, Act.put, List.setIfInBounds_toArray, List.set_cons_zero, List.set_cons_succ]; go_simp; exact hK.out _ _ rfl (Below.refl _ _)
      refine StepsT.cons [(7, some 18, .is (.string ⟨A2.toArray⟩))] (by simp only [List.getElem?_toArray, List.getElem?_cons_succ, List.getElem?_cons_zero]; rfl) (by kernel_rfl) (by rfl) (fun wx val iv hB hV K hK => ?_) ?_
      · clear hV; simp only [putT, List.foldl_cons, List.foldl_nil, Made.val, Act.put, List.setIfInBounds_toArray, List.set_cons_zero, List.set_cons_succ]; go_simp; exact hK.out _ _ rfl (Below.refl _ _)
      refine StepsT.cons [] (by simp only [List.getElem?_toArray, List.getElem?_cons_succ, List.getElem?_cons_zero]; rfl) (by kernel_rfl) (by rfl) (fun wx val iv hB hV K hK => ?_) ?_
      · clear hV; simp only [putT, List.foldl_cons, List.foldl_nil, Made.val, Act.put, List.setIfInBounds_toArray, List.set_cons_zero, List.set_cons_succ]; go_simp; exact hK.out _ _ rfl (Below.refl _ _)
      refine StepsT.cons [(8, some 19, .is (.string ⟨A3.toArray⟩)), (9, some 20, .is (.string ⟨#[63]⟩))] (by simp only [List.getElem?_toArray, List.getElem?_cons_succ, List.getElem?_cons_zero]; rfl) (by kernel_rfl) (by rfl) (fun wx val iv hB hV K hK => ?_) ?_
      · clear hV; simp only [putT, List.foldl_cons, List.foldl_nil, Made.val, Act.put, List.setIfInBounds_toArray, List.set_cons_zero, List.set_cons_succ]; go_simp; exact hK.out _ _ rfl (Below.refl _ _)
      exact StepsT.nil
    case fin =>
      intro wx val iv BX hV hD
      clear hV hD ad1 ad2 ad3 ad4
      (try simp only [putT, List.foldl_cons, List.foldl_nil, Made.val, Act.put, List.setIfInBounds_toArray, List.set_cons_zero, List.set_cons_succ])
      refine wpAny_one (i := 11) (by kernel_rfl) (by simp only [List.getElem?_toArray, List.getElem?_cons_succ, List.getElem?_cons_zero]; rfl) (fun K hK => ?_)
      go_simp
      refine hK.out _ _ ?_
      clear hK K
      refine wpAny_end (by kernel_rfl) ?_
      (try simp only [putT, List.foldl_cons, List.foldl_nil, Made.val, Act.put, List.setIfInBounds_toArray, List.set_cons_zero, List.set_cons_succ])
      have hbX := (HG.out wx (bb1.trans (BX.mono bb1.size)))
      clear BX
      go_upto_region 6 with fail
      have HHD : Hid (headL D = A4) := Lib.hid (by obtain ⟨h1, h2, h3, h4⟩ := HA.out; rw [HHd.out, Hc63.out, h4, h3, h2, h1])
      have hfl0 : A4.length ≤ 3000000 := by omega
      clear HA lA1 lA2 lA3 lA4
      generalize A4 = H0 at *
      have Hx := Lib.hid hbX
      obtain ⟨n, hn⟩ : ∃ n, n = D.sizes.length := ⟨_, rfl⟩
      have Hn := Lib.hid hn
      have hn5 : n ≤ 1048576 := by rw [hn]; exact HL.out.2.2.2.2
      clear hbX hn
      go_loopw [4, 5] (fun s i wr => ∃ k : Nat, k ≤ n ∧ i = .int .i64 k ∧ Below wx.heap.size wx wr ∧ s = .string ⟨(H0 ++ allL sizeL (D.sizes.take k)).toArray⟩) (fun _ i _ => n - (intOf i).toNat)
      case atStart => exact ⟨0, Nat.zero_le _, rfl, Below.refl _ _, by simp [allL]⟩
      case round =>
        obtain ⟨k, hk, rfl, hb2, rfl⟩ := hrel
        have Bw := Hx.out.2.trans (hb2.mono Hx.out.2.size)
        have kk5 : wr.cell? ⟨w.heap.size, 5, none⟩ = some (.slice p5 n c5) := by
          have g := (hb2.block _ (Array.getElem?_eq_some_iff.1 Hx.out.1).1).trans Hx.out.1
          rw [Hn.out]
          obtain ⟨-, -, -, -, -, k5, -⟩ := SPeek_cells g
          exact k5
        by_cases hlt : k < n
        · have hzl : k < D.sizes.length := by rw [← Hn.out]; exact hlt
          obtain ⟨off, hp5, hc1⟩ : ∃ off, p5 = some ⟨b5, off, none⟩ ∧ wr.cell? ⟨b5, off + k, none⟩ = some (.int .i64 D.sizes[k]) := by
            rcases (HSz.out wr Bw).open with ⟨h00, -⟩ | ⟨-, off2, c2, hv, -, hc2⟩
            · rw [h00] at hzl; simp at hzl
            · exact ⟨off2, (Value.slice.inj hv).1, hc2 k hzl⟩
          subst hp5
          have hyw : (Lit.int .i64 D.sizes[k]).wf = true := Hwf.out _ (List.getElem_mem hzl)
          have HT : Hid (H0 ++ allL sizeL (D.sizes.take (k + 1)) = H0 ++ allL sizeL (D.sizes.take k) ++ [32] ++ Lib.itoa D.sizes[k]) := Lib.hid (by rw [allL_take sizeL D.sizes k hzl]; simp [sizeL])
          have hFl : (H0 ++ allL sizeL (D.sizes.take k)).length ≤ 130000000 := by
            have := HF.out k (by omega)
            rw [List.length_append]; omega
          have hYl := itoaL_len hyw
          have HC := Lib.hid (sFormatInt_any D.sizes[k] wr hyw)
          generalize D.sizes[k] = y at *
          generalize Lib.itoa y = Y at *
          generalize (H0 ++ allL sizeL (D.sizes.take k)) = F at *
          have hadd0 : ∀ wq, (Op.stringOp .add ⟨F.toArray⟩ ⟨#[32]⟩).run Tryd.prog wq = .ok (.string ⟨(F ++ [32]).toArray⟩) wq := fun wq => addL_run wq F [32] (by simp; omega)
          have hadd : ∀ wq, (Op.stringOp .add ⟨(F ++ [32]).toArray⟩ ⟨Y.toArray⟩).run Tryd.prog wq = .ok (.string ⟨(F ++ [32] ++ Y).toArray⟩) wq := fun wq => addL_run wq (F ++ [32]) Y (by simp; omega)
          clear hyw Bw
          go_wp2_with fail
          refine HC.out.mono ?_
          rintro e w3 ⟨rfl, b3⟩
          have B3 := hb2.trans (b3.mono hb2.size)
          clear b3
          go_wp2_with fail
          go_roundw
          case rel => exact ⟨k + 1, by omega, by go_num, B3, by rw [HT.out]; simp⟩
          case measure => simp [intOf]; omega
        · obtain rfl : k = n := by omega
          have e : D.sizes.take k = D.sizes := List.take_of_length_le (by rw [Hn.out]; exact Nat.le_refl _)
          rw [e]
          clear e
          go_wp2_with fail
          go_ret
          exact ⟨by rw [HPL.out, HHD.out]; rfl, Bw⟩
set_option maxRecDepth 100000 in
set_option maxHeartbeats 4000000 in
theorem peekText_any (v : Value) (D : MPeek) (w : World) (h : RdPeek w v D) (hf : D.Few) (hP : Pow w) :
    Calls Tryd.prog 18 #[v] w fun e w' => e = .returned (.string ⟨(peekL D).toArray⟩) ∧ Below w.heap.size w w' := by
  obtain ⟨v1, v5, b1, b5, rfl, h1, h5, wf0, wf2, -⟩ := h
  obtain ⟨p1, c1, e1, -⟩ := id h1
  subst e1
  obtain ⟨p5, c5, e5, -⟩ := id h5
  subst e5
  obtain ⟨f1, f5⟩ := hf
  obtain ⟨W1, hW1⟩ : ∃ W, W = w.alloc (.cells #[.int .i64 D.me, .slice p1 D.hand.length c1, .int .i64 D.top, .int .i64 D.heapSize, .int .i64 D.stockSize, .slice p5 D.sizes.length c5, .int .i64 D.turn, .int .i64 D.moves] 35) := ⟨_, rfl⟩
  obtain ⟨W0, hW0⟩ : ∃ W, W = W1.alloc (.cells #[.slice none 0 0] 67) := ⟨_, rfl⟩
  have s1 : W1.heap.size = w.heap.size + 1 := by rw [hW1]; simp
  have s0 : W0.heap.size = w.heap.size + 2 := by rw [hW0]; simp [s1]
  have bb1 : Below w.heap.size w W1 := by rw [hW1]; exact (Below.refl _ _).alloc (Nat.le_refl _) _
  have bb0 : Below W1.heap.size W1 W0 := by rw [hW0]; exact (Below.refl _ _).alloc (Nat.le_refl _) _
  have B0 : Below w.heap.size w W0 := bb1.trans (bb0.mono bb1.size)
  have G1 : W1.heap[w.heap.size]? = some (.cells #[.int .i64 D.me, .slice p1 D.hand.length c1, .int .i64 D.top, .int .i64 D.heapSize, .int .i64 D.stockSize, .slice p5 D.sizes.length c5, .int .i64 D.turn, .int .i64 D.moves] 35 (0, 0)) := by rw [hW1]; exact heap_alloc_new _ _
  have G0 : W0.heap[w.heap.size]? = some (.cells #[.int .i64 D.me, .slice p1 D.hand.length c1, .int .i64 D.top, .int .i64 D.heapSize, .int .i64 D.stockSize, .slice p5 D.sizes.length c5, .int .i64 D.turn, .int .i64 D.moves] 35 (0, 0)) := (bb0.block _ (by omega)).trans G1
  have BW0 : BWr W0 (w.heap.size + 1) (w.heap.size + 1) [] := by rw [hW0, ← s1]; exact BWr.fresh (Nat.le_refl _)
  have HFM := Lib.hid (fun wx (hb : Below w.heap.size w wx) => formatInt_any D.me wx wf0 (hP.below hb (Nat.le_refl _)))
  have HHT := Lib.hid (fun wx (hb : Below w.heap.size w wx) => handText_any _ D.hand b1 wx (h1.below hb) f1)
  have HT1 : Hid (∀ (wx : World) (g : Nat), wx.heap[g]? = some (.cells #[.int .i64 D.top] 3 (0, 0)) → Calls Tryd.prog 49 #[.slice (some ⟨g, 0, none⟩) 1 1] wx fun e w' => e = .returned (.string (handTxt [D.top])) ∧ Below wx.heap.size wx w') := Lib.hid (fun wx g hg => handText_any _ [D.top] g wx ⟨_, 1, rfl, ⟨Nat.le_refl _, by unfold maxLen; omega, fun h => by cases h⟩, by intro n hn; simp at hn; subst hn; exact wf2, .inr ⟨0, rfl, fun j hj => by
    have : j = 0 := by simpa using hj
    subst this
    simp [World.cell?, hg]⟩⟩ (by simp))
  have HSz := Lib.hid (fun wx (hb : Below w.heap.size w wx) => h5.below hb)
  have HPw := Lib.hid (fun wx (hb : Below w.heap.size w wx) => hP.below hb (Nat.le_refl _))
  have HL := Lib.hid (And.intro (itoaL_len wf0) (And.intro (handL_len D.hand) (And.intro (handL_len [D.top]) (And.intro f1 f5))))
  have HW : Hid (W0 = (w.alloc (.cells #[.int .i64 D.me, .slice p1 D.hand.length c1, .int .i64 D.top, .int .i64 D.heapSize, .int .i64 D.stockSize, .slice p5 D.sizes.length c5, .int .i64 D.turn, .int .i64 D.moves] 35)).alloc (.cells #[.slice none 0 0] 67)) := Lib.hid (by rw [hW0, hW1])
  have HPL : Hid (peekL D = ((Lib.itoa D.me ++ [58]) ++ jl [32] [handL D.hand, handL [D.top]]) ++ allL sizeL D.sizes) := Lib.hid (by
    have e : jl [32] [handL D.hand, handL [D.top]] = handL D.hand ++ [32] ++ cardL D.top := by
      have := jl_snoc [32] [handL D.hand] (handL [D.top])
      rw [if_neg (by simp)] at this
      rw [← handL_one D.top]
      simpa [jl, Lib.join_one] using this
    rw [e]
    unfold peekL headL
    simp)
  have HG0 := Lib.hid (And.intro G0 (And.intro s0 (And.intro B0 BW0)))
  have hs0 : w.heap.size ≤ W0.heap.size := B0.size
  obtain ⟨k0, k1, k2, -⟩ := SPeek_cells G0
  have kk0 : W0.cell? ⟨w.heap.size, 0, none⟩ = some (.int .i64 D.me) := k0
  have HFM0 := Lib.hid (HFM.out W0 B0)
  obtain ⟨n5, hn5⟩ : ∃ n, n = D.sizes.length := ⟨_, rfl⟩
  clear hW0 hW1 s1 s0 bb1 bb0 G1 G0 BW0 B0 h1 h5 wf0 wf2 f1 f5 hP k0 k1 k2 HFM
  go_enter Tryd.func18, Tryd.ntmps18
  go_upto_region 2 with fail
  rw [← HW.out]
  go_wp2_with fail
  refine HFM0.out.mono ?_
  rintro e w1 ⟨rfl, bb1⟩
  obtain ⟨G0, s0, B0, BW0⟩ := HG0.out
  obtain ⟨A0, hA0⟩ : ∃ A, A = Lib.itoa D.me := ⟨_, rfl⟩
  have bA : Below w1.heap.size w1 (w1.alloc (.cells #[.string ⟨A0.toArray⟩, .string ⟨#[58]⟩] 9)) := (Below.refl _ _).alloc (Nat.le_refl _) _
  have hB1 : w.heap.size ≤ w1.heap.size := Nat.le_trans hs0 bb1.size
  have HPB := Lib.hid (putB_any (w.heap.size + 1) (w.heap.size + 1) w1.heap.size 2 [] [A0, [58]] _ ((BW0.below bb1).below bA) (WordsAt.fresh w1 #[.string ⟨A0.toArray⟩, .string ⟨#[58]⟩] [A0, [58]] rfl) (by simp) (by have := HL.out.1; rw [← hA0] at this; simp [Lib.lens]; omega) (by have := bb1.size; have := bA.size; omega))
  have HGb := Lib.hid ((bA.block _ (by have := bb1.size; omega)).trans ((bb1.block _ (by omega)).trans G0))
  have Hsz1 : Hid (w.heap.size + 1 ≤ (w1.alloc (.cells #[.string ⟨A0.toArray⟩, .string ⟨#[58]⟩] 9)).heap.size) := Lib.hid (by have := bb1.size; have := bA.size; omega)
  have HB := Lib.hid ((B0.trans (bb1.mono hs0)).trans (bA.mono hB1))
  have HA0 := Lib.hid hA0
  rw [← hA0]
  clear hA0 bA hB1 G0 s0 B0 BW0 bb1 kk0 hs0
  go_wp2_with fail
  refine HPB.out.mono ?_
  rintro e w2 ⟨rfl, bw2, b2, -⟩
  have B2 := HB.out.trans (b2.mono (Nat.le_succ _))
  have g2 : w2.heap[w.heap.size]? = some (.cells #[.int .i64 D.me, .slice p1 D.hand.length c1, .int .i64 D.top, .int .i64 D.heapSize, .int .i64 D.stockSize, .slice p5 D.sizes.length c5, .int .i64 D.turn, .int .i64 D.moves] 35 (0, 0)) := (b2.block _ (Nat.lt_succ_self _)).trans HGb.out
  have hs2 : w.heap.size + 1 ≤ w2.heap.size := Nat.le_trans Hsz1.out b2.size
  go_upto_region 3 with fail
  have HG : Hid (∀ wx, Below w2.heap.size w2 wx → wx.heap[w.heap.size]? = some (.cells #[.int .i64 D.me, .slice p1 D.hand.length c1, .int .i64 D.top, .int .i64 D.heapSize, .int .i64 D.stockSize, .slice p5 D.sizes.length c5, .int .i64 D.turn, .int .i64 D.moves] 35 (0, 0)) ∧ True ∧ Below w.heap.size w wx) := Lib.hid (fun wx hb => ⟨(hb.block _ (Array.getElem?_eq_some_iff.1 g2).1).trans g2, trivial, B2.trans (hb.mono B2.size)⟩)
  have HBW := Lib.hid bw2
  clear g2 b2 HPB HB bw2 HGb Hsz1
  refine wp_region_table [(0, some 9, .is (.pointer (some ⟨w.heap.size, 1, none⟩))), (1, some 10, .is (.slice p1 D.hand.length c1)), (2, some 11, .is (.string ⟨(handL D.hand).toArray⟩)), (3, some 12, .is (.pointer (some ⟨w.heap.size, 2, none⟩))), (4, some 13, .is (.int .i64 D.top)), (5, some 14, .own (fun S w v => ∃ g, v = .slice (some ⟨g, 0, none⟩) 1 1 ∧ w.heap[g]? = some (.cells #[.int .i64 D.top] 3 (0, 0))) (fun S w w' v h b => by obtain ⟨g, h1, h2⟩ := h; exact ⟨g, h1, (b.block _ (Array.getElem?_eq_some_iff.1 h2).1).trans h2⟩)), (6, some 15, .is (.string ⟨(handL [D.top]).toArray⟩)), (7, some 16, .own (fun S w v => ∃ g, v = .slice (some ⟨g, 0, none⟩) 2 2 ∧ WordsAt w g [handL D.hand, handL [D.top]]) (fun S w w' v h b => by obtain ⟨g, h1, h2⟩ := h; exact ⟨g, h1, h2.kept (StrKept.of_below b)⟩))] 1 (by kernel_rfl) (by kernel_rfl) (by kernel_rfl) (by kernel_rfl) (by kernel_rfl) (L := #[true, true, true, true, true, true, true, true, false]) (by kernel_rfl) ?steps ?fin
  case steps =>
    refine StepsT.cons [] (by simp only [List.getElem?_toArray, List.getElem?_cons_succ, List.getElem?_cons_zero]; rfl) (by kernel_rfl) (by rfl) (fun wx val iv hB hV K hK => ?_) ?_
    · clear hV; simp only [putT, List.foldl_cons, List.foldl_nil, Made.val, Act.put, List.setIfInBounds_toArray, List.set_cons_zero, List.set_cons_succ]; go_simp; exact hK.out _ _ rfl (Below.refl _ _)
    refine StepsT.cons [(0, some 9, .is (.pointer (some ⟨w.heap.size, 1, none⟩)))] (by simp only [List.getElem?_toArray, List.getElem?_cons_succ, List.getElem?_cons_zero]; rfl) (by kernel_rfl) (by rfl) (fun wx val iv hB hV K hK => ?_) ?_
    · (obtain ⟨kk0, kk1, kk2, -⟩ := SPeek_cells (HG.out wx hB).1); clear hV; simp only [putT, List.foldl_cons, List.foldl_nil, Made.val, Act.put, List.setIfInBounds_toArray, List.set_cons_zero, List.set_cons_succ]; go_simp; exact hK.out _ _ rfl (Below.refl _ _)
    refine StepsT.cons [(1, some 10, .is (.slice p1 D.hand.length c1))] (by simp only [List.getElem?_toArray, List.getElem?_cons_succ, List.getElem?_cons_zero]; rfl) (by kernel_rfl) (by rfl) (fun wx val iv hB hV K hK => ?_) ?_
    · (have hbw := (HG.out wx hB).2.2; clear hV; simp only [putT, List.foldl_cons, List.foldl_nil, Made.val, Act.put, List.setIfInBounds_toArray, List.set_cons_zero, List.set_cons_succ]; go_simp; go_at_call 49; refine (HHT.out wx hbw).mono ?_; rintro e wa ⟨rfl, Ba⟩; exact hK.out _ _ handL_v2 Ba)
    refine StepsT.cons [] (by simp only [List.getElem?_toArray, List.getElem?_cons_succ, List.getElem?_cons_zero]; rfl) (by kernel_rfl) (by rfl) (fun wx val iv hB hV K hK => ?_) ?_
    · clear hV; simp only [putT, List.foldl_cons, List.foldl_nil, Made.val, Act.put, List.setIfInBounds_toArray, List.set_cons_zero, List.set_cons_succ]; go_simp; exact hK.out _ _ rfl (Below.refl _ _)
    refine StepsT.cons [(3, some 12, .is (.pointer (some ⟨w.heap.size, 2, none⟩)))] (by simp only [List.getElem?_toArray, List.getElem?_cons_succ, List.getElem?_cons_zero]; rfl) (by kernel_rfl) (by rfl) (fun wx val iv hB hV K hK => ?_) ?_
    · (obtain ⟨kk0, kk1, kk2, -⟩ := SPeek_cells (HG.out wx hB).1); clear hV; simp only [putT, List.foldl_cons, List.foldl_nil, Made.val, Act.put, List.setIfInBounds_toArray, List.set_cons_zero, List.set_cons_succ]; go_simp; exact hK.out _ _ rfl (Below.refl _ _)
    refine StepsT.cons [(4, some 13, .is (.int .i64 D.top))] (by simp only [List.getElem?_toArray, List.getElem?_cons_succ, List.getElem?_cons_zero]; rfl) (by kernel_rfl) (by rfl) (fun wx val iv hB hV K hK => ?_) ?_
    · (simp only [putT, List.foldl_cons, List.foldl_nil, Made.val, Act.put, List.setIfInBounds_toArray, List.set_cons_zero, List.set_cons_succ]; go_simp; exact hK.out _ _ ⟨_, rfl, heap_alloc_new _ _⟩ ((Below.refl _ _).alloc (Nat.le_refl _) _))
    refine StepsT.cons [(2, some 11, .is (.string ⟨(handL D.hand).toArray⟩)), (5, some 14, .own (fun S w v => ∃ g, v = .slice (some ⟨g, 0, none⟩) 1 1 ∧ w.heap[g]? = some (.cells #[.int .i64 D.top] 3 (0, 0))) (fun S w w' v h b => by obtain ⟨g, h1, h2⟩ := h; exact ⟨g, h1, (b.block _ (Array.getElem?_eq_some_iff.1 h2).1).trans h2⟩))] (by simp only [List.getElem?_toArray, List.getElem?_cons_succ, List.getElem?_cons_zero]; rfl) (by kernel_rfl) (by rfl) (fun wx val iv hB hV K hK => ?_) ?_
    · (obtain ⟨g, hg1, hg2⟩ := hV (5, some 14, .own (fun S w v => ∃ g, v = .slice (some ⟨g, 0, none⟩) 1 1 ∧ w.heap[g]? = some (.cells #[.int .i64 D.top] 3 (0, 0))) (fun S w w' v h b => by obtain ⟨g, h1, h2⟩ := h; exact ⟨g, h1, (b.block _ (Array.getElem?_eq_some_iff.1 h2).1).trans h2⟩)) (by simp); simp only at hg1 hg2; clear hV; simp only [putT, List.foldl_cons, List.foldl_nil, Made.val, Act.put, List.setIfInBounds_toArray, List.set_cons_zero, List.set_cons_succ] at hK ⊢; generalize val 5 = x at *; subst hg1; go_simp; go_at_call 49; refine (HT1.out wx g hg2).mono ?_; rintro e wa ⟨rfl, Ba⟩; exact hK.out _ _ handL_v2 Ba)
    refine StepsT.cons [(2, some 11, .is (.string ⟨(handL D.hand).toArray⟩)), (6, some 15, .is (.string ⟨(handL [D.top]).toArray⟩))] (by simp only [List.getElem?_toArray, List.getElem?_cons_succ, List.getElem?_cons_zero]; rfl) (by kernel_rfl) (by rfl) (fun wx val iv hB hV K hK => ?_) ?_
    · (clear hV; simp only [putT, List.foldl_cons, List.foldl_nil, Made.val, Act.put, List.setIfInBounds_toArray, List.set_cons_zero, List.set_cons_succ]; go_simp; exact hK.out _ _ ⟨_, rfl, WordsAt.fresh _ _ [handL D.hand, handL [D.top]] rfl⟩ ((Below.refl _ _).alloc (Nat.le_refl _) _))
    exact StepsT.nil
  case fin =>
    intro wx val iv BX hV hD
    obtain ⟨⟨g, hg1, hg2⟩, -, -⟩ := hV (7, some 16, .own (fun S w v => ∃ g, v = .slice (some ⟨g, 0, none⟩) 2 2 ∧ WordsAt w g [handL D.hand, handL [D.top]]) (fun S w w' v h b => by obtain ⟨g, h1, h2⟩ := h; exact ⟨g, h1, h2.kept (StrKept.of_below b)⟩)) (by simp)
    simp only at hg1 hg2
    clear hV hD
    (try simp only [putT, List.foldl_cons, List.foldl_nil, Made.val, Act.put, List.setIfInBounds_toArray, List.set_cons_zero, List.set_cons_succ])
    generalize val 7 = x at *
    subst hg1
    have HPW := Lib.hid (putWords_any (w.heap.size + 1) (w.heap.size + 1) g 2 ([] ++ [A0, [58]].flatten) [handL D.hand, handL [D.top]] wx (HBW.out.below BX) hg2 (by simp) (by have h1 := HL.out; rw [← HA0.out] at h1; simp [jlen, Lib.lens] at h1 ⊢; omega) (Nat.le_trans hs2 BX.size))
    have HX := Lib.hid (HG.out wx BX)
    clear hg2 BX
    refine wpAny_one (i := 8) (by kernel_rfl) (by simp only [List.getElem?_toArray, List.getElem?_cons_succ, List.getElem?_cons_zero]; rfl) (fun K hK => ?_)
    go_simp
    go_at_call 38
    refine HPW.out.mono ?_
    rintro e w3 ⟨rfl, bw3, b3, -⟩
    refine hK.out _ _ ?_
    clear hK K
    refine wpAny_end (by kernel_rfl) ?_
    (try simp only [putT, List.foldl_cons, List.foldl_nil, Made.val, Act.put, List.setIfInBounds_toArray, List.set_cons_zero, List.set_cons_succ])
    obtain ⟨gX, -, BXw⟩ := HX.out
    have hsX : w.heap.size + 1 ≤ wx.heap.size := by have := (Array.getElem?_eq_some_iff.1 gX).1; omega
    have g3 : w3.heap[w.heap.size]? = some (.cells #[.int .i64 D.me, .slice p1 D.hand.length c1, .int .i64 D.top, .int .i64 D.heapSize, .int .i64 D.stockSize, .slice p5 D.sizes.length c5, .int .i64 D.turn, .int .i64 D.moves] 35 (0, 0)) := (b3.block _ (Nat.lt_succ_self _)).trans gX
    have B3 := BXw.trans (b3.mono (Nat.le_succ _))
    have hs3 := Nat.le_trans hsX b3.size
    obtain ⟨q, hq⟩ : ∃ q, q = ([] ++ [A0, [58]].flatten) ++ jl [32] [handL D.hand, handL [D.top]] := ⟨_, rfl⟩
    have hql : q.length ≤ 5000000 := by
      have h1 := HL.out
      have h2 := jl_len [32] [handL D.hand, handL [D.top]]
      rw [← HA0.out] at h1
      rw [hq]
      simp [jlen, Lib.lens] at h1 h2 ⊢
      omega
    have Hq := Lib.hid hq
    rw [← hq] at bw3
    have HPS := Lib.hid (putSizes_any (w.heap.size + 1) (w.heap.size + 1) b5 q (.slice p5 D.sizes.length c5) D.sizes w3 bw3 (fun wy hb _ => HSz.out wy (B3.trans (hb.mono (Nat.le_succ _)))) (by omega) HL.out.2.2.2.2 hs3 (fun wy hb => HPw.out wy (B3.trans (hb.mono (Nat.le_succ _)))))
    obtain ⟨kk0, kk1, kk2, kk3, kk4, kk5, -⟩ := SPeek_cells g3
    clear kk0 kk1 kk2 kk3 kk4 HX HPW gX BXw hsX b3 hq bw3 hs3 g3
    rw [← hn5] at HPS kk5
    clear hn5
    go_wp2_with fail
    refine HPS.out.mono ?_
    rintro e w4 ⟨rfl, bw4, b4⟩
    have B4 := B3.trans (b4.mono (Nat.le_succ _))
    obtain ⟨-, v4, hg4, hown4⟩ := bw4
    have hcv := own_conv hown4
    have k4 := cellsB hg4
    clear hown4 b4 hg4
    go_wp2_with fail
    go_ret
    exact ⟨by rw [HPL.out, Hq.out, HA0.out]; simp, B4⟩
end Go.Proofs.YtmfammgdcdlceaaDoor
