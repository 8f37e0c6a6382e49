/-
  AlikePatterns, both sides.
-/
import Derived.Test.YtonpdjgokmedjaaDoorPatN
import Derived.Test.YtonpdjgokmedjaaDoorHas
namespace Go.Proofs.YtonpdjgokmedjaaDoor
open Go.RowKit
set_option linter.unusedVariables false
set_option linter.unusedSimpArgs false

def alikeP (a b : List Int) : Bool := isPat a && (isPat b && decide (matchSet a = matchSet b))
set_option maxRecDepth 100000 in
set_option maxHeartbeats 1000000 in
theorem sAlikePatterns_any (va vb : Value) (za zb : List Int) (ba bb : Nat) (w : World) (hza : RdAt .i64 w va za ba) (hzb : RdAt .i64 w vb zb bb) (hlza : za.length ≤ 1048576) (hlzb : zb.length ≤ 1048576) (r : Bool) (hr : alikeP za zb = r) :
    Calls Tryd.prog 10 #[va, vb] w fun e w' => e = .returned (.bool r) ∧ Below w.heap.size w w' := by
  have HA : Hid (∀ wx, Below w.heap.size w wx → Calls Tryd.prog 29 #[va] wx fun e w' => e = .returned (.bool (isPat za)) ∧ wx = w') := Lib.hid (fun wx bx => sIsPattern_any va za ba wx (hza.below bx) (by omega) _ rfl)
  have HB : Hid (∀ wx, Below w.heap.size w wx → Calls Tryd.prog 29 #[vb] wx fun e w' => e = .returned (.bool (isPat zb)) ∧ wx = w') := Lib.hid (fun wx bx => sIsPattern_any vb zb bb wx (hzb.below bx) (by omega) _ rfl)
  have MA := Lib.hid (fun wx (bx : Below w.heap.size w wx) => sMatchSet_any va za ba wx (hza.below bx) hlza)
  have MB := Lib.hid (fun wx (bx : Below w.heap.size w wx) => sMatchSet_any vb zb bb wx (hzb.below bx) hlzb)
  have h0 : Below w.heap.size w w := Below.refl _ _
  unfold alikeP at hr
  clear hza hzb hlza hlzb
  cases x0 : isPat za with
  | false =>
    rw [x0] at HA hr
    obtain rfl : r = false := by rw [← hr]; rfl
    clear x0 hr
    go_enter Tryd.func10, Tryd.ntmps10
    go_wp2_with fail
    refine (HA.out _ h0).mono ?_
    rintro e _w ⟨rfl, rfl⟩
    go_wp2_with fail
    go_ret
    exact ⟨rfl, h0⟩
  | true =>
    rw [x0] at HA hr
    cases x1 : isPat zb with
    | false =>
      rw [x1] at HB hr
      obtain rfl : r = false := by rw [← hr]; rfl
      clear x0 x1 hr
      go_enter Tryd.func10, Tryd.ntmps10
      go_wp2_with fail
      refine (HA.out _ h0).mono ?_
      rintro e _w ⟨rfl, rfl⟩
      go_wp2_with fail
      refine (HB.out _ h0).mono ?_
      rintro e _w ⟨rfl, rfl⟩
      go_wp2_with fail
      go_ret
      exact ⟨rfl, h0⟩
    | true =>
      rw [x1] at HB hr
      have hq : decide (matchSet za = matchSet zb) = r := by rw [← hr]; rfl
      have hla : (matchSet za).length ≤ 1099511627776 := by have := matchSet_len za; omega
      have hlb : (matchSet zb).length ≤ 1099511627776 := by have := matchSet_len zb; omega
      clear x0 x1 hr
      go_enter Tryd.func10, Tryd.ntmps10
      go_wp2_with fail
      refine (HA.out _ h0).mono ?_
      rintro e _w ⟨rfl, rfl⟩
      go_wp2_with fail
      refine (HB.out _ h0).mono ?_
      rintro e _w ⟨rfl, rfl⟩
      go_wp2_with fail
      refine (MA.out _ h0).mono ?_
      rintro e w3 ⟨v3, b3, rfl, -, hw3, B3'⟩
      have B3 := h0.trans (B3'.mono h0.size)
      have R3 := Lib.hid hw3.rd
      clear hw3
      go_wp2_with fail
      refine (MB.out _ B3).mono ?_
      rintro e w4 ⟨v4, b4, rfl, -, hw4, B4'⟩
      have B4 := B3.trans (B4'.mono B3.size)
      have HE := Lib.hid (sEqualInts_any v3 v4 _ _ b3 b4 w4 (R3.out.below B4') hw4.rd hla hlb)
      rw [hq] at HE
      clear hw4
      go_wp2_with fail
      refine HE.out.mono ?_
      rintro e w5 ⟨rfl, B5'⟩
      have B5 := B4.trans (B5'.mono B4.size)
      go_wp2_with fail
      go_ret
      exact ⟨rfl, B5⟩
set_option maxRecDepth 100000 in
set_option maxHeartbeats 1000000 in
theorem alikePatterns_any (va vb : Value) (za zb : List Int) (ba bb : Nat) (w : World) (hza : RdAt .i64 w va za ba) (hzb : RdAt .i64 w vb zb bb) (hlza : za.length ≤ 1048576) (hlzb : zb.length ≤ 1048576) (hG : Grps w) (r : Bool) (hr : alikeP za zb = r) :
    Calls Tryd.prog 12 #[va, vb] w fun e w' => e = .returned (.bool r) ∧ Below w.heap.size w w' := by
  have HA : Hid (∀ wx, Below w.heap.size w wx → Calls Tryd.prog 32 #[va] wx fun e w' => e = .returned (.bool (isPat za)) ∧ Below wx.heap.size wx w') := Lib.hid (fun wx bx => isPattern_any va za ba wx (hza.below bx) (by omega) (hG.below bx) _ rfl)
  have HB : Hid (∀ wx, Below w.heap.size w wx → Calls Tryd.prog 32 #[vb] wx fun e w' => e = .returned (.bool (isPat zb)) ∧ Below wx.heap.size wx w') := Lib.hid (fun wx bx => isPattern_any vb zb bb wx (hzb.below bx) (by omega) (hG.below bx) _ rfl)
  have MA := Lib.hid (fun wx (bx : Below w.heap.size w wx) => matchSet_any va za ba wx (hza.below bx) hlza (hG.below bx))
  have MB := Lib.hid (fun wx (bx : Below w.heap.size w wx) => matchSet_any vb zb bb wx (hzb.below bx) hlzb (hG.below bx))
  have h0 : Below w.heap.size w w := Below.refl _ _
  unfold alikeP at hr
  clear hza hzb hlza hlzb hG
  cases x0 : isPat za with
  | false =>
    rw [x0] at HA hr
    obtain rfl : r = false := by rw [← hr]; rfl
    clear x0 hr
    go_enter Tryd.func12, Tryd.ntmps12
    go_wp2_with fail
    refine (HA.out _ h0).mono ?_
    rintro e w1 ⟨rfl, Bxw1⟩
    have Bw1 := h0.trans (Bxw1.mono h0.size)
    go_wp2_with fail
    go_ret
    exact ⟨rfl, Bw1⟩
  | true =>
    rw [x0] at HA hr
    cases x1 : isPat zb with
    | false =>
      rw [x1] at HB hr
      obtain rfl : r = false := by rw [← hr]; rfl
      clear x0 x1 hr
      go_enter Tryd.func12, Tryd.ntmps12
      go_wp2_with fail
      refine (HA.out _ h0).mono ?_
      rintro e w1 ⟨rfl, Bxw1⟩
      have Bw1 := h0.trans (Bxw1.mono h0.size)
      go_wp2_with fail
      refine (HB.out _ Bw1).mono ?_
      rintro e w2 ⟨rfl, Bxw2⟩
      have Bw2 := Bw1.trans (Bxw2.mono Bw1.size)
      go_wp2_with fail
      go_ret
      exact ⟨rfl, Bw2⟩
    | true =>
      rw [x1] at HB hr
      have hq : decide (matchSet za = matchSet zb) = r := by rw [← hr]; rfl
      have hla : (matchSet za).length ≤ 1099511627776 := by have := matchSet_len za; omega
      have hlb : (matchSet zb).length ≤ 1099511627776 := by have := matchSet_len zb; omega
      clear x0 x1 hr
      go_enter Tryd.func12, Tryd.ntmps12
      go_wp2_with fail
      refine (HA.out _ h0).mono ?_
      rintro e w1 ⟨rfl, Bxw1⟩
      have Bw1 := h0.trans (Bxw1.mono h0.size)
      go_wp2_with fail
      refine (HB.out _ Bw1).mono ?_
      rintro e w2 ⟨rfl, Bxw2⟩
      have Bw2 := Bw1.trans (Bxw2.mono Bw1.size)
      go_wp2_with fail
      refine (MA.out _ Bw2).mono ?_
      rintro e w3 ⟨v3, b3, rfl, -, hw3, B3'⟩
      have B3 := Bw2.trans (B3'.mono Bw2.size)
      have R3 := Lib.hid hw3.rd
      clear hw3
      go_wp2_with fail
      refine (MB.out _ B3).mono ?_
      rintro e w4 ⟨v4, b4, rfl, -, hw4, B4'⟩
      have B4 := B3.trans (B4'.mono B3.size)
      have HE := Lib.hid (equalInts_any v3 v4 _ _ b3 b4 w4 (R3.out.below B4') hw4.rd hla hlb)
      rw [hq] at HE
      clear hw4
      go_wp2_with fail
      refine HE.out.mono ?_
      rintro e w5 ⟨rfl, B5'⟩
      have B5 := B4.trans (B5'.mono B4.size)
      go_wp2_with fail
      go_ret
      exact ⟨rfl, B5⟩
end Go.Proofs.YtonpdjgokmedjaaDoor
