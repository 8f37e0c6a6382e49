/-
  KeyOf: the program's.
-/
import Derived.Test.YtcafbnddbddijaaFiveL
import Derived.Test.YtcafbnddbddijaaFiveV
namespace Go.Proofs.Ytcafbnddbddijaa
open Go.RowKit
set_option linter.unusedVariables false
set_option linter.unusedSimpArgs false
set_option maxRecDepth 100000 in
theorem keyOf_any (v : Value) (zs : List Int) (b : Nat) (w : World) (h : RdAt .i64 w v zs b) (hl : zs.length ≤ 1048576) :
    Calls Try.prog 23 #[v] w fun e w' => ∃ v' b', e = .returned v' ∧ w.heap.size ≤ b' ∧ WrAt .i64 w' v' (keyI zs) b' ∧ Below w.heap.size w w' := by
  by_cases hy : isHand zs = true ∧ zs.length = 5
  · obtain ⟨hh, h5⟩ := hy
    have HC := Lib.hid (keyOfFive_yes v zs b w h hh h5)
    have hb := fiveK_bd hh h5
    have HK := Lib.hid (fun W => list5_any (fiveK zs) W hb)
    have Hr : Hid (keyI zs = ofN (fiveUnpack (fiveK zs))) := Lib.hid (by rw [keyI_yes hh h5, fiveK_key hh h5])
    obtain ⟨a, cap, rfl, -⟩ := id h
    generalize fiveK zs = K at *
    clear h hl hb hh h5
    go_enter Try.func23, Try.ntmps23
    go_wp2_with fail
    refine HC.out.mono ?_
    rintro e w1 ⟨rfl, B1⟩
    go_wp2_with fail
    refine (HK.out w1).mono ?_
    rintro e w2 ⟨v2, b2, rfl, hb2, hw2, B2⟩
    have B3 := B1.trans (B2.mono B1.size)
    have hb3 := Nat.le_trans B1.size hb2
    go_wp2_with fail
    go_ret
    exact ⟨_, b2, rfl, hb3, by rw [Hr.out]; exact hw2, B3⟩
  · have hno : isHand zs = false ∨ zs.length ≠ 5 := by
      cases hh : isHand zs with
      | false => exact .inl rfl
      | true => exact .inr fun h5 => hy ⟨hh, h5⟩
    have HC := Lib.hid (keyOfFive_no v zs b w h hl hno)
    have Hr := Lib.hid (keyI_no hno)
    obtain ⟨a, cap, rfl, -⟩ := id h
    clear h hl hno hy
    go_enter Try.func23, Try.ntmps23
    go_wp2_with fail
    refine HC.out.mono ?_
    rintro e w1 ⟨rfl, B1⟩
    go_wp2_with fail
    go_ret
    exact ⟨_, w1.heap.size, rfl, B1.size, by rw [Hr.out]; exact WrAt.nil _ _ _ _ _ ⟨by unfold maxLen; omega, by simp⟩, B1.alloc B1.size _⟩
theorem keyI_len (zs : List Int) : (keyI zs).length ≤ 53 := by
  unfold keyI
  split
  · rw [ofN_len]
    by_cases h : fiveKindM (cntV zs) (oneSuit zs) = 4 ∨ fiveKindM (cntV zs) (oneSuit zs) = 8
    · have := congrArg List.length (keyM_str h)
      rw [ofN_len] at this
      rw [this]; simp
    · rw [keyM_oth (fun e => h (.inl e)) (fun e => h (.inr e)), List.length_cons]
      have := keyTo_len (cntV zs) 52
      omega
  · simp
end Go.Proofs.Ytcafbnddbddijaa
