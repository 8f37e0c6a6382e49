/-
  The program's HandText and RecordText, by the contracts of strings.Builder.
-/
import Derived.Test.YtmfammgdcdlceaaDoorHandT0
import Derived.Test.YtmfammgdcdlceaaDoorCard
import Derived.Test.YtmfammgdcdlceaaDoorBuild
namespace Go.Proofs.YtmfammgdcdlceaaDoor
open Go.RowKit
set_option linter.unusedVariables false
set_option linter.unusedSimpArgs false

theorem ib_below {w w' : World} {T e B b : Nat} {bs : List Value} (h : Lib.IsBuilder T e B b bs w) (hb : Below w.heap.size w w') : Lib.IsBuilder T e B b bs w' := by
  refine h.imp ?_ ?_ <;>
  · rintro ⟨hB, v, h1, h2, h3⟩
    exact ⟨hB, v, (hb.block _ (Array.getElem?_eq_some_iff.1 h1).1).trans h1, own_below h2 hb, h3⟩
set_option maxRecDepth 100000 in
set_option maxHeartbeats 2000000 in
theorem handText_any (v : Value) (zs : List Int) (b : Nat) (w : World) (h : RdAt .i64 w v zs b) (hl : zs.length ≤ 1048576) :
    Calls Tryd.prog 49 #[v] w fun e w' => e = .returned (.string (handTxt zs)) ∧ Below w.heap.size w w' := by
  obtain ⟨a, cap, rfl, -, hwf, hcell⟩ := h
  obtain ⟨n, hn⟩ : ∃ n, n = zs.length := ⟨_, rfl⟩
  have Hn := Lib.hid hn
  rw [← hn] at hl ⊢
  clear hn
  by_cases h0 : n = 0
  · subst h0
    have HT := Lib.hid (dashed_nil cardL zs Hn.out.symm)
    go_enter Tryd.func49, Tryd.ntmps49
    go_wp2_with fail
    go_ret
    exact ⟨by show _ = Ending.returned (.string (dashed cardL zs)); rw [HT.out]; rfl, Below.refl _ _⟩
  · have HT := Lib.hid (dashed_some cardL zs (by rw [← Hn.out]; omega))
    have HNe : Hid (allL cardL zs ≠ []) := Lib.hid (allL_pos cardL (fun c => (cardL_len c).1) zs (by intro e; have := Hn.out; rw [e] at this; simp at this; omega))
    have hq0 : ((n : Int) == 0) = false := by simp; omega
    obtain ⟨W0, hW0⟩ : ∃ W, W = w.alloc (.cells #[.pointer none, .slice none 0 0] 97) := ⟨_, rfl⟩
    have HB0 : Hid (Lib.IsBuilder 97 5 w.heap.size w.heap.size (Lib.byteCells (allL cardL (zs.take 0))) W0) := Lib.hid (by rw [hW0]; exact Lib.fresh_isBuilder _ _ w)
    have B0 : Below w.heap.size w W0 := by rw [hW0]; exact (Below.refl _ _).alloc (Nat.le_refl _) _
    have HW := Lib.hid hW0
    clear hW0
    go_enter Tryd.func49, Tryd.ntmps49
    go_wp2_with fail
    rw [← HW.out]
    go_loopw [5, 11] (fun _ i wr => ∃ k : Nat, k ≤ n ∧ i = .int .i64 k ∧ Below w.heap.size w wr ∧ Hid (Lib.IsBuilder 97 5 w.heap.size w.heap.size (Lib.byteCells (allL cardL (zs.take k))) wr)) (fun _ i _ => n - (intOf i).toNat)
    case atStart => exact ⟨0, Nat.zero_le _, rfl, B0, HB0⟩
    case round =>
      clear B0 HB0
      obtain ⟨k, hk, rfl, hb2, hib⟩ := hrel
      by_cases hlt : k < n
      · have hzl : k < zs.length := by rw [← Hn.out]; exact hlt
        rcases hcell with h0 | ⟨off, rfl, hc⟩
        · subst h0; simp at hzl
        obtain ⟨y, hy⟩ : ∃ y, Hid (y = zs[k]) := ⟨_, Lib.hid rfl⟩
        have hc1 : wr.cell? ⟨b, off + k, none⟩ = some (.int .i64 y) := by
          have h1 := hc k hzl
          rw [hb2.cell (World.block_lt_of_cell? _ _ h1), h1, hy.out]
        have hstep := allL_take cardL zs k hzl
        rw [← hy.out] at hstep
        have hfl := allL_take_len cardL (fun c => (cardL_len c).2) zs k (by omega)
        have Hstep := Lib.hid hstep
        clear hc hstep
        generalize allL cardL (zs.take k) = F at *
        have hbl : (Lib.byteCells F).length = F.length := Lib.byteCells_length F
        have HBL := Lib.hid hbl
        clear hbl
        cases hyc : isCard y with
        | true =>
          have hr : 0 ≤ y ∧ y ≤ 51 := of_decide_eq_true hyc
          have HI := Lib.hid (isCard_r y wr _ hyc)
          have HF : Hid (Lib.byteCells (allL cardL (zs.take (k + 1))) = Lib.byteCells F ++ Lib.strCells (cardTxt y)) := Lib.hid (by rw [Hstep.out, Lib.byteCells_append, Lib.strCells_eq]; congr 1; unfold cardL; rw [if_pos hr])
          have HS := Lib.hid (cardTxt_size y)
          clear hyc hr
          go_wp2_with fail
          refine HI.out.mono ?_
          rintro e _w ⟨rfl, rfl⟩
          go_wp2_with fail
          refine (cardText_any y wr).mono ?_
          rintro e w2 ⟨rfl, b2⟩
          have B2 := hb2.trans (b2.mono hb2.size)
          have hib2 := Lib.hid (ib_below hib.out (Below.trans (Below.refl _ _) b2))
          clear b2 hib
          go_wp2_with (refine (writeString_any w.heap.size w.heap.size (Lib.byteCells F) (cardTxt y) w2 hib2.out (by rw [HBL.out]; have := HS.out; omega) B2.size).mono ?_)
          rintro e w3 ⟨rfl, h3, b3⟩
          have B3 := B2.trans b3
          replace h3 := Lib.hid h3
          clear b3 hib2
          go_wp2_with fail
          go_roundw
          case rel => exact ⟨k + 1, by omega, by go_num, B3, Lib.hid (by rw [HF.out]; exact Or.inr h3.out)⟩
          case measure => simp [intOf]; omega
        | false =>
          have hr : ¬ (0 ≤ y ∧ y ≤ 51) := of_decide_eq_false hyc
          have HI := Lib.hid (isCard_r y wr _ hyc)
          have HF : Hid (Lib.byteCells (allL cardL (zs.take (k + 1))) = Lib.byteCells F ++ [Value.int .u8 63]) := Lib.hid (by rw [Hstep.out, cardL_out hr, Lib.byteCells_append]; rfl)
          clear hyc hr
          go_wp2_with fail
          refine HI.out.mono ?_
          rintro e _w ⟨rfl, rfl⟩
          go_wp2_with (refine (writeByte_any w.heap.size w.heap.size (Lib.byteCells F) 63 wr hib.out (by rw [HBL.out]; omega) hb2.size).mono ?_)
          rintro e w3 ⟨rfl, h3, b3⟩
          have B3 := hb2.trans b3
          replace h3 := Lib.hid h3
          clear b3 hib
          go_wp2_with fail
          go_roundw
          case rel => exact ⟨k + 1, by omega, by go_num, B3, Lib.hid (by rw [HF.out]; exact Or.inr h3.out)⟩
          case measure => simp [intOf]; omega
      · obtain rfl : k = n := by omega
        have e : zs.take k = zs := List.take_of_length_le (by rw [Hn.out]; exact Nat.le_refl _)
        rw [e] at hib
        clear e
        go_wp2_with (refine (builderString_any w.heap.size w.heap.size (allL cardL zs) wr hib.out HNe.out).mono ?_)
        rintro e w3 ⟨rfl, b3⟩
        have B3 := hb2.trans b3
        clear b3
        go_wp2_with fail
        go_ret
        exact ⟨by show _ = Ending.returned (.string (dashed cardL zs)); rw [HT.out]; rfl, B3⟩
end Go.Proofs.YtmfammgdcdlceaaDoor
