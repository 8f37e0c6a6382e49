/-
  Contracts of chapter 4, the program's side and the model's: card.rank, card.suit, CardText.
-/
import Derived.Test.YtcafbnddbddijaaRows
import Derived.WalkKit
import Derived.WalkLawsBesides
import Derived.WalkSpells
import Derived.LoopTactic
import Derived.Deep.QuietTactic
import Derived.BigQuiet
import Derived.StillTailTactics
import Derived.Lib.Hide
namespace Go.Proofs.Ytcafbnddbddijaa
open Go.RowKit
set_option linter.unusedVariables false
set_option linter.unusedSimpArgs false
theorem rank_any (c : Int) (w : World) (h0 : 0 ≤ c) (h1 : c ≤ 51) :
    Calls Try.prog 82 #[.int .u8 c] w fun e w' => e = .returned (.int .i64 (c % 13)) ∧ w' = w := by
  go_enter Try.func82, Try.ntmps82
  go_wp2
  go_ret
  exact ⟨rfl, rfl⟩
theorem suit_any (c : Int) (w : World) (h0 : 0 ≤ c) (h1 : c ≤ 51) :
    Calls Try.prog 85 #[.int .u8 c] w fun e w' => e = .returned (.int .i64 (c / 13)) ∧ w' = w := by
  go_enter Try.func85, Try.ntmps85
  go_wp2
  go_ret
  exact ⟨rfl, rfl⟩

def cardTxt (c : Int) : ByteArray := if 0 ≤ c ∧ c ≤ 51 then (⟨#[50, 51, 52, 53, 54, 55, 56, 57, 84, 74, 81, 75, 65]⟩ : ByteArray).extract (c % 13).toNat (c % 13 + 1).toNat ++ (⟨#[99, 100, 104, 115]⟩ : ByteArray).extract (c / 13).toNat (c / 13 + 1).toNat else ⟨#[]⟩
theorem rank_one : ∀ k : Fin 13, (⟨#[50, 51, 52, 53, 54, 55, 56, 57, 84, 74, 81, 75, 65]⟩ : ByteArray).extract k.1 (k.1 + 1) = ⟨#[(⟨#[50, 51, 52, 53, 54, 55, 56, 57, 84, 74, 81, 75, 65]⟩ : ByteArray)[k.1]'(k.2)]⟩ := by decide +kernel
theorem suit_one : ∀ k : Fin 4, (⟨#[99, 100, 104, 115]⟩ : ByteArray).extract k.1 (k.1 + 1) = ⟨#[(⟨#[99, 100, 104, 115]⟩ : ByteArray)[k.1]'(k.2)]⟩ := by decide +kernel
theorem cardTxt_in (c : Int) (h0 : 0 ≤ c) (h1 : c ≤ 51) : cardTxt c = (⟨#[50, 51, 52, 53, 54, 55, 56, 57, 84, 74, 81, 75, 65]⟩ : ByteArray).extract (c % 13).toNat (c % 13 + 1).toNat ++ (⟨#[99, 100, 104, 115]⟩ : ByteArray).extract (c / 13).toNat (c / 13 + 1).toNat := if_pos ⟨h0, h1⟩
theorem cardTxt_out (c : Int) (h : ¬ (0 ≤ c ∧ c ≤ 51)) : cardTxt c = ⟨#[]⟩ := if_neg h
theorem cardTxt_eq (c : Int) (h0 : 0 ≤ c) (h1 : c ≤ 51) (hr : (c % 13).toNat < 13) (hs : (c / 13).toNat < 4) : cardTxt c = ⟨[(⟨#[50, 51, 52, 53, 54, 55, 56, 57, 84, 74, 81, 75, 65]⟩ : ByteArray)[(c % 13).toNat]'(hr), (⟨#[99, 100, 104, 115]⟩ : ByteArray)[(c / 13).toNat]'(hs)].toArray⟩ := by
  rw [cardTxt_in c h0 h1]
  have e1 := rank_one ⟨(c % 13).toNat, hr⟩
  have e2 := suit_one ⟨(c / 13).toNat, hs⟩
  simp only at e1 e2
  rw [show (c % 13 + 1).toNat = (c % 13).toNat + 1 by omega, show (c / 13 + 1).toNat = (c / 13).toNat + 1 by omega, e1, e2, ByteArray.mk_append_mk]
  simp
set_option maxRecDepth 100000 in
set_option maxHeartbeats 400000 in
theorem sCardText_any (c : Int) (w : World) :
    Calls Try.prog 51 #[.int .i64 c] w fun e w' => e = .returned (.string (cardTxt c)) ∧ Below w.heap.size w w' := by
  by_cases h0 : 0 ≤ c
  · by_cases h1 : c ≤ 51
    · have hr : (0 : Int) ≤ c % 13 ∧ c % 13 < 13 := by omega
      have hs : (0 : Int) ≤ c / 13 ∧ c / 13 < 4 := by omega
      have He := Lib.hid (cardTxt_in c h0 h1)
      go_enter Try.func51, Try.ntmps51
      go_wp2
      go_quiet (fail)
      go_wp2
      go_ret
      exact ⟨by rw [He.out]; rfl, below_drewN (Below.refl _ _) _⟩
    · have He := Lib.hid (cardTxt_out c (by omega))
      have hd : decide (c ≤ 51) = false := by simp; omega
      go_enter Try.func51, Try.ntmps51
      go_wp2
      go_ret
      exact ⟨by rw [He.out]; rfl, Below.refl _ _⟩
  · have He := Lib.hid (cardTxt_out c (by omega))
    go_enter Try.func51, Try.ntmps51
    go_wp2
    go_ret
    exact ⟨by rw [He.out]; rfl, Below.refl _ _⟩
end Go.Proofs.Ytcafbnddbddijaa
