/-
  The model's HandText and RecordText.
-/
import Derived.Test.YtcafbnddbddijaaHandT0
import Derived.Test.YtcafbnddbddijaaCard
import Derived.Laws.Concat
namespace Go.Proofs.Ytcafbnddbddijaa
open Go.RowKit
set_option linter.unusedVariables false
set_option linter.unusedSimpArgs false

set_option maxRecDepth 100000 in
set_option maxHeartbeats 1000000 in
theorem sHandText_any (v : Value) (zs : List Int) (b : Nat) (w : World) (h : RdAt .i64 w v zs b) (hl : zs.length ≤ 1048576) :
    Calls Try.prog 30 #[v] w fun e w' => e = .returned (.string (handTxt zs)) ∧ Below w.heap.size w w' := by
  obtain ⟨a, cap, rfl, -, hwf, hcell⟩ := h
  obtain ⟨n, hn⟩ : ∃ n, n = zs.length := ⟨_, rfl⟩
  have Hn := Lib.hid hn
  rw [← hn] at hl ⊢
  clear hn
  go_enter Try.func30, Try.ntmps30
  go_wp2_with fail
  go_loopw [3, 4] (fun s i wr => ∃ k : Nat, k ≤ n ∧ i = .int .i64 k ∧ Below w.heap.size w wr ∧ s = .string ⟨(allL cardL (zs.take k)).toArray⟩) (fun _ i _ => n - (intOf i).toNat)
  case atStart => exact ⟨0, Nat.zero_le _, rfl, Below.refl _ _, rfl⟩
  case round =>
    obtain ⟨k, hk, rfl, hb2, rfl⟩ := hrel
    by_cases hlt : k < n
    · have hzl : k < zs.length := by rw [← Hn.out]; exact hlt
      rcases hcell with h0 | ⟨off, rfl, hc⟩
      · subst h0; simp at hzl
      obtain ⟨y, hy⟩ : ∃ y, Hid (y = zs[k]) := ⟨_, Lib.hid rfl⟩
      have HC1 : Hid (∀ wx, Below w.heap.size w wx → wx.cell? ⟨b, off + k, none⟩ = some (.int .i64 y)) := Lib.hid (fun wx hb => by
        have h1 := hc k hzl
        rw [hb.cell (World.block_lt_of_cell? _ _ h1), h1, hy.out])
      have hstep := allL_take cardL zs k hzl
      rw [← hy.out] at hstep
      have hfl := allL_take_len cardL (fun c => (cardL_len c).2) zs k (by omega)
      have Hstep := Lib.hid hstep
      clear hc hstep
      generalize allL cardL (zs.take k) = F at *
      have hc1 := HC1.out wr hb2
      cases hyc : isCard y with
      | true =>
        have hr : 0 ≤ y ∧ y ≤ 51 := of_decide_eq_true hyc
        have HI := Lib.hid (sIsCard_r y wr _ hyc)
        have hadd : ∀ wq, (Op.stringOp .add ⟨F.toArray⟩ (cardTxt y)).run Try.prog wq = .ok (.string ⟨(F ++ (cardTxt y).data.toList).toArray⟩) wq := fun wq => add_run wq F _ (cardTxt y) rfl (by omega) (by have := cardTxt_size y; omega)
        have HF : Hid (allL cardL (zs.take (k + 1)) = F ++ (cardTxt y).data.toList) := Lib.hid (by rw [Hstep.out]; congr 1; unfold cardL; rw [if_pos hr])
        clear hyc hr
        go_wp2_with fail
        refine HI.out.mono ?_
        rintro e _w ⟨rfl, rfl⟩
        go_wp2_with fail
        refine (sCardText_any y wr).mono ?_
        rintro e w3 ⟨rfl, b3⟩
        have B3 := hb2.trans (b3.mono hb2.size)
        clear b3
        go_wp2_with fail
        go_roundw
        case rel => exact ⟨k + 1, by omega, by go_num, B3, by rw [HF.out]⟩
        case measure => simp [intOf]; omega
      | false =>
        have hr : ¬ (0 ≤ y ∧ y ≤ 51) := of_decide_eq_false hyc
        have HI := Lib.hid (sIsCard_r y wr _ hyc)
        have hadd : ∀ wq, (Op.stringOp .add ⟨F.toArray⟩ ⟨#[63]⟩).run Try.prog wq = .ok (.string ⟨(F ++ [63]).toArray⟩) wq := fun wq => add_run wq F _ ⟨#[63]⟩ rfl (by omega) (by decide)
        have HF : Hid (allL cardL (zs.take (k + 1)) = F ++ [63]) := Lib.hid (by rw [Hstep.out]; congr 1; exact cardL_out hr)
        clear hyc hr
        go_wp2_with fail
        refine HI.out.mono ?_
        rintro e _w ⟨rfl, rfl⟩
        go_wp2_with fail
        go_roundw
        case rel => exact ⟨k + 1, by omega, by go_num, hb2, by rw [HF.out]⟩
        case measure => simp [intOf]; omega
    · obtain rfl : k = n := by omega
      have e : zs.take k = zs := List.take_of_length_le (by rw [Hn.out]; exact Nat.le_refl _)
      rw [e]
      clear e
      by_cases h0 : k = 0
      · subst h0
        have HT := Lib.hid (dashed_nil cardL zs Hn.out.symm)
        go_wp2_with fail
        go_ret
        exact ⟨by show _ = Ending.returned (.string (dashed cardL zs)); rw [HT.out]; rfl, hb2⟩
      · have HT := Lib.hid (dashed_some cardL zs (by rw [← Hn.out]; omega))
        go_wp2_with fail
        go_ret
        exact ⟨by show _ = Ending.returned (.string (dashed cardL zs)); rw [HT.out]; rfl, hb2⟩
end Go.Proofs.Ytcafbnddbddijaa
