/-
  Several texts in one: Cards that match a pattern: the program's side. IsRed by contract, both sides; a card that may lie on another.
-/
import Derived.Test.YtmhbonbjnpcpeaaGreatDoorM6
import Derived.Test.YtmhbonbjnpcpeaaGreatDoorM7
import Derived.ArgAppend
import Derived.Test.YtmhbonbjnpcpeaaGreatDoorM5
namespace Go.Proofs.YtmhbonbjnpcpeaaGreatDoor
open Go.RowKit
set_option linter.unusedVariables false
set_option linter.unusedSimpArgs false

/-- Whether a card matches. -/
def matchB (p : List Int) (c : Int) : Bool := isPat p && (isCard c && patF p c)
def matchL (p l : List Int) : List Int := l.filter (matchB p)
def cntM (p l : List Int) : Int := (matchL p l).length
def matchSet (p : List Int) : List Int := matchL p deck
theorem matchL_len (p l : List Int) : (matchL p l).length ≤ l.length := List.length_filter_le _ _
theorem matchSet_len (p : List Int) : (matchSet p).length ≤ 52 := by have := matchL_len p deck; rw [show deck.length = 52 from by show (marksI 0 52).length = 52; rw [marksI_length]] at this; exact this
theorem matchL_take (p l : List Int) (k : Nat) (h : k < l.length) : matchL p (l.take (k + 1)) = matchL p (l.take k) ++ if matchB p (l.getD k 0) = true then [l.getD k 0] else [] := by
  unfold matchL
  rw [List.take_succ_eq_append_getElem h, List.filter_append]
  congr 1
  have : l.getD k 0 = l[k] := by simp [List.getD, h]
  rw [this]
  by_cases e : matchB p l[k] = true <;> simp [e]
theorem matchL_none {p : List Int} (h : isPat p = false) (l : List Int) : matchL p l = [] := by
  unfold matchL
  rw [List.filter_eq_nil_iff]
  intro x hx
  unfold matchB; rw [h]; simp
theorem own_baseM {w : World} {B B' : Nat} {E : TypeId} {size n : Nat} {v : Value} {xs : List Value} (h : w.ownsRow B E size v n xs) (hb : B' ≤ B) : w.ownsRow B' E size v n xs := by
  obtain ⟨h1, h2⟩ := h
  refine ⟨h1, h2.imp id ?_⟩
  rintro ⟨g, cap, cur, e, hg, r⟩
  exact ⟨g, cap, cur, e, Nat.le_trans hb hg, r⟩
/-- The row of the cards that match: empty as it was laid, or laid since. -/
def RowM (w0 w1 : Nat) (wr : World) (o : Value) (xs : List Int) : Prop :=
  (o = .slice (some ⟨w0, 0, none⟩) 0 0 ∧ xs = [] ∧ wr.ownsRow w0 3 1 o 0 []) ∨ wr.ownsRow w1 3 1 o xs.length (xs.map (Value.int .i64))
theorem RowM.below {w0 w1 : Nat} {wr wx : World} {o : Value} {xs : List Int} (h : RowM w0 w1 wr o xs) (b : Below wr.heap.size wr wx) : RowM w0 w1 wx o xs := by
  rcases h with ⟨h1, h2, h3⟩ | h
  · exact .inl ⟨h1, h2, own_below h3 b⟩
  · exact .inr (own_below h b)
theorem RowM.wr {w0 w1 : Nat} {wr : World} {o : Value} {xs : List Int} (h : RowM w0 w1 wr o xs) (h01 : w0 ≤ w1) (hw : ∀ n ∈ xs, (Lit.int .i64 n).wf = true) : ∃ b', w0 ≤ b' ∧ WrAt .i64 wr o xs b' := by
  rcases h with ⟨h1, rfl, h3⟩ | h
  · exact own_wr (zs := []) h3 (fun n hn => by simp at hn)
  · obtain ⟨b', hb, hr⟩ := own_wr h hw
    exact ⟨b', by omega, hr⟩
end Go.Proofs.YtmhbonbjnpcpeaaGreatDoor
namespace Go.Proofs.YtmhbonbjnpcpeaaGreatDoor
open Go.RowKit

def redB (c : Int) : Bool := decide (suitOf c = 1 ∨ suitOf c = 2)
theorem red_0 {c : Int} (h : suitOf c = 0) : redB c = false := by unfold redB; rw [h]; decide
theorem red_1 {c : Int} (h : suitOf c = 1) : redB c = true := by unfold redB; rw [h]; decide
theorem red_2 {c : Int} (h : suitOf c = 2) : redB c = true := by unfold redB; rw [h]; decide
theorem red_3 {c : Int} (h : suitOf c = 3) : redB c = false := by unfold redB; rw [h]; decide
theorem red_n {c : Int} (h : suitOf c = -1) : redB c = false := by unfold redB; rw [h]; decide

set_option maxRecDepth 100000 in
theorem sIsRed_r (c : Int) (w : World) (r : Bool) (hr : redB c = r) :
    Calls Tryz.prog 70 #[.int .i64 c] w fun e w' => e = .returned (.bool r) ∧ w = w' := by
  subst hr
  by_cases h0 : 0 ≤ c
  · by_cases h1 : c ≤ 51
    · have e : suitOf c = c / 13 := by exact suit_in (isCard_yes ⟨h0, h1⟩)
      have hc : c / 13 = 0 ∨ c / 13 = 1 ∨ c / 13 = 2 ∨ c / 13 = 3 := by omega
      rcases hc with hc | hc | hc | hc
      · rw [red_0 (e.trans hc)]; clear e
        go_enter Tryz.func70, Tryz.ntmps70
        go_wp2
        go_ret
        exact ⟨rfl, rfl⟩
      · rw [red_1 (e.trans hc)]; clear e
        go_enter Tryz.func70, Tryz.ntmps70
        go_wp2
        go_ret
        exact ⟨rfl, rfl⟩
      · rw [red_2 (e.trans hc)]; clear e
        go_enter Tryz.func70, Tryz.ntmps70
        go_wp2
        go_ret
        exact ⟨rfl, rfl⟩
      · rw [red_3 (e.trans hc)]; clear e
        go_enter Tryz.func70, Tryz.ntmps70
        go_wp2
        go_ret
        exact ⟨rfl, rfl⟩
    · rw [red_n (suit_out (isCard_no (by omega)))]
      have hd : decide (c ≤ 51) = false := by simp; omega
      go_enter Tryz.func70, Tryz.ntmps70
      go_wp2
      go_ret
      exact ⟨rfl, rfl⟩
  · rw [red_n (suit_out (isCard_no (by omega)))]
    go_enter Tryz.func70, Tryz.ntmps70
    go_wp2
    go_ret
    exact ⟨rfl, rfl⟩
/-- b may lie on a. -/
def stepB (a b : Int) : Bool := decide (rankOf a = rankOf b + 1) && (redB a != redB b)
theorem step_r0 {a b : Int} (h : ¬ rankOf a = rankOf b + 1) : stepB a b = false := by unfold stepB; rw [decide_eq_false h]; rfl
theorem step_r1 {a b : Int} (h : rankOf a = rankOf b + 1) : stepB a b = (redB a != redB b) := by unfold stepB; rw [decide_eq_true h]; rfl
theorem rank_bd (c : Int) : -1 ≤ rankOf c ∧ rankOf c ≤ 12 := by
  unfold rankOf
  split <;> omega

end Go.Proofs.YtmhbonbjnpcpeaaGreatDoor
