/-
  Texts of lists: what each number adds, one behind the other. No program in this text.
-/
import Derived.Test.YtcafbnddbddijaaCards4
import Derived.Test.YtcafbnddbddijaaMarksI
namespace Go.Proofs.Ytcafbnddbddijaa
open Go.RowKit
set_option linter.unusedVariables false
set_option linter.unusedSimpArgs false

/-- What a number adds to the text of a hand. -/
def cardL (c : Int) : List UInt8 := if 0 ≤ c ∧ c ≤ 51 then (cardTxt c).data.toList else [63]
/-- What a move adds to the text of a record. -/
def moveL (c : Int) : List UInt8 := if c = -1 then [42] else cardL c
theorem cardL_in {c : Int} (h : 0 ≤ c ∧ c ≤ 51) : (⟨(cardL c).toArray⟩ : ByteArray) = cardTxt c := by unfold cardL; rw [if_pos h]
theorem cardL_out {c : Int} (h : ¬ (0 ≤ c ∧ c ≤ 51)) : cardL c = [63] := if_neg h
theorem moveL_take : moveL (-1) = [42] := rfl
theorem moveL_card {c : Int} (h : c ≠ -1) : moveL c = cardL c := if_neg h
theorem cardL_len (c : Int) : 1 ≤ (cardL c).length ∧ (cardL c).length ≤ 2 := by
  by_cases h : 0 ≤ c ∧ c ≤ 51
  · unfold cardL
    rw [if_pos h, cardTxt_eq c h.1 h.2 (by omega) (by omega)]
    simp
  · rw [cardL_out h]; simp
theorem cardL_two {c : Int} (h : 0 ≤ c ∧ c ≤ 51) : (cardL c).length = 2 := by
  unfold cardL
  rw [if_pos h, cardTxt_eq c h.1 h.2 (by omega) (by omega)]
  simp
theorem moveL_len (c : Int) : 1 ≤ (moveL c).length ∧ (moveL c).length ≤ 2 := by
  unfold moveL; split
  · simp
  · exact cardL_len c
def allL (f : Int → List UInt8) (zs : List Int) : List UInt8 := zs.flatMap f
theorem allL_take (f : Int → List UInt8) (zs : List Int) (k : Nat) (h : k < zs.length) : allL f (zs.take (k + 1)) = allL f (zs.take k) ++ f zs[k] := by
  unfold allL
  rw [List.take_succ_eq_append_getElem h, List.flatMap_append]
  simp
theorem allL_len (f : Int → List UInt8) (hf : ∀ c, (f c).length ≤ 2) : ∀ zs, (allL f zs).length ≤ 2 * zs.length
  | [] => by simp [allL]
  | c :: zs => by
    have := allL_len f hf zs
    have h2 := hf c
    unfold allL at this ⊢
    rw [List.flatMap_cons, List.length_append, List.length_cons]; omega
theorem allL_take_len (f : Int → List UInt8) (hf : ∀ c, (f c).length ≤ 2) (zs : List Int) (k : Nat) (h : k ≤ zs.length) : (allL f (zs.take k)).length ≤ 2 * k := by
  have := allL_len f hf (zs.take k)
  rw [List.length_take] at this; omega
theorem allL_pos (f : Int → List UInt8) (hf : ∀ c, 1 ≤ (f c).length) (zs : List Int) (h : zs ≠ []) : allL f zs ≠ [] := by
  match zs, h with
  | c :: zs, _ =>
    intro e
    have := congrArg List.length e
    have h2 := hf c
    unfold allL at this
    rw [List.flatMap_cons, List.length_append] at this
    simp only [List.length_nil] at this; omega
/-- The text; a dash where there is nothing. -/
def dashed (f : Int → List UInt8) (zs : List Int) : ByteArray := if zs.length = 0 then ⟨#[45]⟩ else ⟨(allL f zs).toArray⟩
theorem dashed_nil (f : Int → List UInt8) (zs : List Int) (h : zs.length = 0) : dashed f zs = ⟨#[45]⟩ := if_pos h
theorem dashed_some (f : Int → List UInt8) (zs : List Int) (h : 0 < zs.length) : dashed f zs = ⟨(allL f zs).toArray⟩ := if_neg (by omega)
def handTxt (zs : List Int) : ByteArray := dashed cardL zs
def recordTxt (zs : List Int) : ByteArray := dashed moveL zs
theorem add_l (x : List UInt8) (y : ByteArray) : (⟨x.toArray⟩ ++ y : ByteArray) = ⟨(x ++ y.data.toList).toArray⟩ := by
  cases y with | mk d => rw [ByteArray.mk_append_mk]; try simp
theorem add_run (w : World) (x z : List UInt8) (y : ByteArray) (e : z = x ++ y.data.toList) (h : x.length ≤ 8388608) (h2 : y.size ≤ 8388608) : (Op.stringOp .add ⟨x.toArray⟩ y).run Try.prog w = .ok (.string ⟨z.toArray⟩) w := by
  rw [run_string_add_sum w ⟨x.toArray⟩ y (by show x.toArray.size + y.size ≤ _; simp; omega), add_l, e]
theorem cardTxt_size (c : Int) : (cardTxt c).size ≤ 2 := by
  by_cases h : 0 ≤ c ∧ c ≤ 51
  · rw [cardTxt_eq c h.1 h.2 (by omega) (by omega)]; show Array.size _ ≤ 2; simp
  · rw [cardTxt_out c h]; decide
end Go.Proofs.Ytcafbnddbddijaa
