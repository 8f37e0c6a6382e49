/-
  ParseCard, both sides.
-/
import Derived.Test.YtcafbnddbddijaaCards4
import Derived.Test.YtcafbnddbddijaaShelf
namespace Go.Proofs.Ytcafbnddbddijaa
open Go.RowKit
set_option linter.unusedVariables false
set_option linter.unusedSimpArgs false

def rkL : List UInt8 := [50, 51, 52, 53, 54, 55, 56, 57, 84, 74, 81, 75, 65]
def stL : List UInt8 := [99, 100, 104, 115]
def rkN (a : Nat) : UInt8 := rkL.getD a 0
def stN (a : Nat) : UInt8 := stL.getD a 0
theorem rk_lit : ∀ k : Fin 13, (⟨#[50, 51, 52, 53, 54, 55, 56, 57, 84, 74, 81, 75, 65]⟩ : ByteArray)[k.1]'(k.2) = rkN k.1 := by decide +kernel
theorem st_lit : ∀ k : Fin 4, (⟨#[99, 100, 104, 115]⟩ : ByteArray)[k.1]'(k.2) = stN k.1 := by decide +kernel
theorem cardTxt_rs (c : Nat) (h : c < 52) : cardTxt (c : Int) = ⟨#[rkN (c % 13), stN (c / 13)]⟩ := by
  have hr : ((c : Int) % 13).toNat < 13 := by omega
  have hs : ((c : Int) / 13).toNat < 4 := by omega
  rw [cardTxt_eq c (by omega) (by omega) hr hs, rk_lit ⟨_, hr⟩, st_lit ⟨_, hs⟩]
  simp only [show ((c : Int) % 13).toNat = c % 13 by omega, show ((c : Int) / 13).toNat = c / 13 by omega]
def idxR (x : UInt8) : Int := Lib.indexByte rkL x
def idxS (x : UInt8) : Int := Lib.indexByte stL x
theorem rk_dec : ∀ x : Fin 256, (idxR (UInt8.ofNat x.1) = -1 ∧ ∀ a : Fin 13, rkN a.1 ≠ UInt8.ofNat x.1) ∨ ∃ a : Fin 13, idxR (UInt8.ofNat x.1) = (a.1 : Int) ∧ rkN a.1 = UInt8.ofNat x.1 ∧ ∀ b : Fin 13, rkN b.1 = UInt8.ofNat x.1 → b = a := by decide +kernel
theorem st_dec : ∀ x : Fin 256, (idxS (UInt8.ofNat x.1) = -1 ∧ ∀ a : Fin 4, stN a.1 ≠ UInt8.ofNat x.1) ∨ ∃ a : Fin 4, idxS (UInt8.ofNat x.1) = (a.1 : Int) ∧ stN a.1 = UInt8.ofNat x.1 ∧ ∀ b : Fin 4, stN b.1 = UInt8.ofNat x.1 → b = a := by decide +kernel
theorem rk_all (x : UInt8) : (idxR x = -1 ∧ ∀ a : Nat, a < 13 → rkN a ≠ x) ∨ ∃ a : Nat, a < 13 ∧ idxR x = (a : Int) ∧ rkN a = x ∧ ∀ b : Nat, b < 13 → rkN b = x → b = a := by
  have h := rk_dec ⟨x.toNat, x.toNat_lt⟩
  have e : UInt8.ofNat x.toNat = x := by simp
  simp only [e] at h
  rcases h with ⟨h1, h2⟩ | ⟨a, h1, h2, h3⟩
  · exact .inl ⟨h1, fun a ha => h2 ⟨a, ha⟩⟩
  · exact .inr ⟨a.1, a.2, h1, h2, fun b hb hx => by have := h3 ⟨b, hb⟩ hx; exact congrArg Fin.val this⟩
theorem st_all (x : UInt8) : (idxS x = -1 ∧ ∀ a : Nat, a < 4 → stN a ≠ x) ∨ ∃ a : Nat, a < 4 ∧ idxS x = (a : Int) ∧ stN a = x ∧ ∀ b : Nat, b < 4 → stN b = x → b = a := by
  have h := st_dec ⟨x.toNat, x.toNat_lt⟩
  have e : UInt8.ofNat x.toNat = x := by simp
  simp only [e] at h
  rcases h with ⟨h1, h2⟩ | ⟨a, h1, h2, h3⟩
  · exact .inl ⟨h1, fun a ha => h2 ⟨a, ha⟩⟩
  · exact .inr ⟨a.1, a.2, h1, h2, fun b hb hx => by have := h3 ⟨b, hb⟩ hx; exact congrArg Fin.val this⟩

def parseC (s : ByteArray) : Int := match (List.range 52).find? (fun c : Nat => decide (cardTxt (c : Int) = s)) with
  | some c => (c : Int)
  | none => -1
theorem parse_hit {s : ByteArray} {k : Nat} (hk : k < 52) (h : cardTxt (k : Int) = s) (hno : ∀ j : Nat, j < k → cardTxt (j : Int) ≠ s) : parseC s = (k : Int) := by
  have e : (List.range 52).find? (fun c : Nat => decide (cardTxt (c : Int) = s)) = some k := by
    rw [List.find?_range_eq_some]
    exact ⟨by simpa using h, by simpa using hk, fun j hj => by simpa using hno j hj⟩
  unfold parseC; rw [e]
theorem parse_miss {s : ByteArray} (hno : ∀ j : Nat, j < 52 → cardTxt (j : Int) ≠ s) : parseC s = -1 := by
  have e : (List.range 52).find? (fun c : Nat => decide (cardTxt (c : Int) = s)) = none := by
    rw [List.find?_range_eq_none]
    exact fun j hj => by simpa using hno j hj
  unfold parseC; rw [e]
theorem two_inj {a b c d : UInt8} (h : (⟨#[a, b]⟩ : ByteArray) = ⟨#[c, d]⟩) : a = c ∧ b = d := by
  injection h with h; simpa using h
theorem parse_two (x y : UInt8) : parseC ⟨#[x, y]⟩ = if idxR x < 0 ∨ idxS y < 0 then -1 else idxS y * 13 + idxR x := by
  rcases rk_all x with ⟨h1, h2⟩ | ⟨a, ha, h1, h2, h3⟩
  · rw [if_pos (by omega)]
    exact parse_miss fun j hj e => by
      rw [cardTxt_rs j hj] at e
      exact h2 _ (by omega) (two_inj e).1
  · rcases st_all y with ⟨g1, g2⟩ | ⟨b, hb, g1, g2, g3⟩
    · rw [if_pos (by omega)]
      exact parse_miss fun j hj e => by
        rw [cardTxt_rs j hj] at e
        exact g2 _ (by omega) (two_inj e).2
    · rw [if_neg (by omega), h1, g1]
      have hc : b * 13 + a < 52 := by omega
      have e1 : (b * 13 + a) % 13 = a := by omega
      have e2 : (b * 13 + a) / 13 = b := by omega
      have := parse_hit (s := ⟨#[x, y]⟩) (k := b * 13 + a) hc (by rw [cardTxt_rs _ hc, e1, e2, h2, g2]) (fun j hj e => by
        rw [cardTxt_rs j (by omega)] at e
        have i1 := h3 _ (by omega) (two_inj e).1
        have i2 := g3 _ (by omega) (two_inj e).2
        omega)
      rw [this]; omega
theorem parse_len (s : ByteArray) (h : s.size ≠ 2) : parseC s = -1 :=
  parse_miss fun j hj e => h (by rw [← e, cardTxt_rs j hj]; rfl)

set_option maxRecDepth 100000 in
set_option maxHeartbeats 1000000 in
theorem sParseCard_any (s : ByteArray) (w : World) :
    Calls Try.prog 28 #[.string s] w fun e w' => e = .returned (.int .i64 (parseC s)) ∧ Below w.heap.size w w' := by
  go_enter Try.func28, Try.ntmps28
  go_wp2_with fail
  go_loopw [3] (fun i wr => ∃ k : Nat, k ≤ 52 ∧ i = .int .i64 k ∧ Below w.heap.size w wr ∧ Hid (∀ j : Nat, j < k → cardTxt (j : Int) ≠ s)) (fun i _ => 52 - (intOf i).toNat)
  case atStart => exact ⟨0, Nat.zero_le _, rfl, Below.refl _ _, Lib.hid (fun j h => by omega)⟩
  case round =>
    obtain ⟨k, hk, rfl, hB, hno⟩ := hrel
    by_cases hlt : k < 52
    · by_cases hc : cardTxt (k : Int) = s
      · have Hr := Lib.hid (parse_hit hlt hc hno.out)
        have Hc := Lib.hid hc
        clear hc
        go_wp2_with fail
        refine (sCardText_any _ _).mono ?_
        rintro e w1 ⟨rfl, b1⟩
        have hB2 := hB.trans (b1.mono hB.size)
        clear hB b1
        rw [Hc.out]
        go_wp2_with fail
        go_ret
        exact ⟨by rw [Hr.out]; rfl, hB2⟩
      · have hno2 : Hid (∀ j : Nat, j < k + 1 → cardTxt (j : Int) ≠ s) := Lib.hid (fun j h => by
          by_cases e : j = k
          · subst e; exact hc
          · exact hno.out j (by omega))
        obtain ⟨t, ht⟩ : ∃ t, t = cardTxt (k : Int) := ⟨_, rfl⟩
        have Ht := Lib.hid ht
        have hq : (t.toList == s.toList) = false := by
          rw [beq_eq_false_iff_ne, Lib.toList_data, Lib.toList_data]
          intro e
          refine hc ?_
          rw [← ht]
          obtain ⟨⟨l⟩⟩ := t
          obtain ⟨⟨m⟩⟩ := s
          simp only at e
          rw [e]
        clear hc ht
        go_wp2_with fail
        refine (sCardText_any _ _).mono ?_
        rintro e w1 ⟨rfl, b1⟩
        have hB2 := hB.trans (b1.mono hB.size)
        clear hB b1
        rw [← Ht.out]
        go_wp2_with fail
        go_roundw
        case rel => exact ⟨k + 1, by omega, by go_num, hB2, hno2⟩
        case measure => simp [intOf]; omega
    · obtain rfl : k = 52 := by omega
      have Hr := Lib.hid (parse_miss hno.out)
      go_wp2_with fail
      go_ret
      exact ⟨by rw [Hr.out]; rfl, hB⟩

set_option maxRecDepth 100000 in
set_option maxHeartbeats 1000000 in
theorem parseCard_any (s : ByteArray) (w : World) :
    Calls Try.prog 32 #[.string s] w fun e w' => e = .returned (.int .i64 (parseC s)) ∧ w = w' := by
  by_cases h2 : s.size = 2
  · have hs : ∃ x y, s = ⟨#[x, y]⟩ := by
      obtain ⟨d⟩ := s
      obtain ⟨l⟩ := d
      have hl : l.length = 2 := h2
      match l, hl with
      | [x, y], _ => exact ⟨x, y, rfl⟩
    obtain ⟨x, y, rfl⟩ := hs
    have Hr := Lib.hid (parse_two x y)
    have h1 : Hid (∀ W : World, Calls Try.prog 54 #[.string ⟨#[50, 51, 52, 53, 54, 55, 56, 57, 84, 74, 81, 75, 65]⟩, .int .u8 (x.toNat : Int)] W fun e w' => e = .returned (.int .i64 (idxR x)) ∧ w' = W) := Lib.hid (fun W => by
      have := Try.strings_IndexByte ⟨#[50, 51, 52, 53, 54, 55, 56, 57, 84, 74, 81, 75, 65]⟩ (x.toNat : Int) W
      have e : ((x.toNat : Int)).toNat.toUInt8 = x := by simp
      rw [e] at this; exact this)
    have h3 : Hid (∀ W : World, Calls Try.prog 54 #[.string ⟨#[99, 100, 104, 115]⟩, .int .u8 (y.toNat : Int)] W fun e w' => e = .returned (.int .i64 (idxS y)) ∧ w' = W) := Lib.hid (fun W => by
      have := Try.strings_IndexByte ⟨#[99, 100, 104, 115]⟩ (y.toNat : Int) W
      have e : ((y.toNat : Int)).toNat.toUInt8 = y := by simp
      rw [e] at this; exact this)
    go_enter Try.func32, Try.ntmps32
    go_wp2_with fail
    refine (h1.out _).mono ?_
    rintro e _w ⟨rfl, rfl⟩
    go_wp2_with fail
    refine (h3.out _).mono ?_
    rintro e _w ⟨rfl, rfl⟩
    have hbR : -1 ≤ idxR x ∧ idxR x < 13 := by
      rcases rk_all x with ⟨h, _⟩ | ⟨a, ha, h, _⟩ <;> omega
    have hbS : -1 ≤ idxS y ∧ idxS y < 4 := by
      rcases st_all y with ⟨h, _⟩ | ⟨a, ha, h, _⟩ <;> omega
    obtain ⟨b1, b2⟩ := hbR
    obtain ⟨b3, b4⟩ := hbS
    generalize idxR x = p at *
    generalize idxS y = q at *
    by_cases hp : p < 0
    · have Hr1 : Hid (parseC ⟨#[x, y]⟩ = -1) := Lib.hid (by rw [Hr.out, if_pos (.inl hp)])
      go_wp2_with fail
      go_ret
      exact ⟨by rw [Hr1.out]; rfl, rfl⟩
    · by_cases hq : q < 0
      · have Hr1 : Hid (parseC ⟨#[x, y]⟩ = -1) := Lib.hid (by rw [Hr.out, if_pos (.inr hq)])
        have hd : decide (p < 0) = false := by simp; omega
        go_wp2_with fail
        go_ret
        exact ⟨by rw [Hr1.out]; rfl, rfl⟩
      · have Hr1 : Hid (parseC ⟨#[x, y]⟩ = q * 13 + p) := Lib.hid (by rw [Hr.out, if_neg (by omega)])
        have hd : decide (p < 0) = false := by simp; omega
        have hd2 : decide (q < 0) = false := by simp; omega
        go_wp2_with fail
        go_ret
        exact ⟨by rw [Hr1.out]; rfl, rfl⟩
  · have Hr := Lib.hid (parse_len s h2)
    have hq : ((s.size : Int) != 2) = true := by simp; omega
    go_enter Try.func32, Try.ntmps32
    go_wp2_with fail
    go_ret
    exact ⟨by rw [Hr.out]; rfl, rfl⟩
end Go.Proofs.Ytcafbnddbddijaa
