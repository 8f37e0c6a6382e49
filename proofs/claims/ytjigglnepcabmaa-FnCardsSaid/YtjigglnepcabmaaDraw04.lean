/-
  The draws of chapter 4: DrawCardText, DrawIsRed, DrawParseCard.
-/
import Derived.Test.YtjigglnepcabmaaBig
import Derived.Test.YtjigglnepcabmaaCards4
namespace Go.Proofs.Ytjigglnepcabmaa
open Go.RowKit

theorem below_made4 {w w1 w2 : World} (h1 : Below w.heap.size w w1) (g : w1.grownBy w2 (some w.heap.size)) : Below w.heap.size w w2 :=
  h1.trans (grown_below g (Nat.le_refl _) h1.size)
set_option maxRecDepth 100000 in
theorem l4Card_any (B b : Nat) (w : World) (hC : Cur B b w) :
    Calls Try.prog 79 #[.pointer (some ⟨b, 0, none⟩)] w fun e w' => (∃ x : Int, (Lit.int .i64 x).wf = true ∧ e = .returned (.int .i64 x)) ∧ Cur B b w' ∧ w.grownBy w' (some b) := by
  go_enter Try.func79, Try.ntmps79
  go_wp2_with fail
  refine (l1Below_any B b _ _ hC (by omega)).mono ?_
  rintro e w1 ⟨⟨x, x0, x1, x2, rfl⟩, hC1, g1⟩
  go_wp2_with fail
  refine (l1Below_any B b _ _ hC1 (by omega)).mono ?_
  rintro e w2 ⟨⟨y, y0, y1, y2, rfl⟩, hC2, g2⟩
  go_wp2_with fail
  refine (l1Below_any B b _ _ hC2 (by omega)).mono ?_
  rintro e w3 ⟨⟨z, z0, z1, z2, rfl⟩, hC3, g3⟩
  have hlt := hC3.lt
  go_wp2_with fail
  refine (l1Int_any B b w3.heap.size 0 _ _ [x, y, z, 0, 51, 52, -1, 9223372036854775807] _ (hC3.alloc _) (by omega) (by simp) (by simp) (by simp) rfl (cells_lit _ _ _ _ _ rfl)).mono ?_
  rintro e w4 ⟨⟨u, hu, rfl⟩, hC4, g4⟩
  have hw : Hid ((Lit.int .i64 u).wf = true) := Lib.hid (by
    simp only [List.mem_cons, List.not_mem_nil, or_false] at hu
    exact WalkArith.wf_i64 (by omega))
  clear hu
  go_wp2_with fail
  go_ret
  exact ⟨⟨u, hw.out, rfl⟩, hC4, grown_trans (grown_trans g1 (grown_trans g2 g3)) (grown_trans (grown_alloc (grown_refl _ _) _) g4)⟩
set_option maxRecDepth 100000 in
theorem drawIsCard_any (a : Option Addr) (len cap : Nat) (w : World) (hl : len ≤ 1048576) (hy : BytesB w.heap.size w a len) :
    Calls Try.prog 72 #[.slice a len cap] w fun e w' => (∃ x : Int, (Lit.int .i64 x).wf = true ∧ e = .returned (.int .i64 x)) ∧ Below w.heap.size w w' := by
  go_enter Try.func72, Try.ntmps72
  go_wp2_with fail
  refine (l1New_any w.heap.size a len cap w hl (Nat.le_refl _) hy).mono ?_
  rintro e w1 ⟨rfl, hC1, b1, hz⟩
  go_wp2_with fail
  refine (l4Card_any _ _ _ hC1).mono ?_
  rintro e w2 ⟨⟨x, hx, rfl⟩, hC2, g2⟩
  have Hx := Lib.hid hx
  have hB := below_made4 b1 g2
  clear hx b1 g2 hC1 hC2
  go_wp2_with fail
  go_ret
  exact ⟨⟨x, Hx.out, rfl⟩, hB⟩
set_option maxRecDepth 100000 in
theorem drawCardText_any (a : Option Addr) (len cap : Nat) (w : World) (hl : len ≤ 1048576) (hy : BytesB w.heap.size w a len) :
    Calls Try.prog 28 #[.slice a len cap] w fun e w' => (∃ x : Int, (Lit.int .i64 x).wf = true ∧ e = .returned (.int .i64 x)) ∧ Below w.heap.size w w' := by
  go_enter Try.func28, Try.ntmps28
  go_wp2_with fail
  refine (drawIsCard_any a len cap w hl hy).mono ?_
  rintro e w2 ⟨⟨x, hx, rfl⟩, hB⟩
  have Hx := Lib.hid hx
  clear hx
  go_wp2_with fail
  go_ret
  exact ⟨⟨x, Hx.out, rfl⟩, hB⟩
set_option maxRecDepth 100000 in
theorem drawIsRed_any (a : Option Addr) (len cap : Nat) (w : World) (hl : len ≤ 1048576) (hy : BytesB w.heap.size w a len) :
    Calls Try.prog 35 #[.slice a len cap] w fun e w' => (∃ x : Int, (Lit.int .i64 x).wf = true ∧ e = .returned (.int .i64 x)) ∧ Below w.heap.size w w' := by
  go_enter Try.func35, Try.ntmps35
  go_wp2_with fail
  refine (drawIsCard_any a len cap w hl hy).mono ?_
  rintro e w2 ⟨⟨x, hx, rfl⟩, hB⟩
  have Hx := Lib.hid hx
  clear hx
  go_wp2_with fail
  go_ret
  exact ⟨⟨x, Hx.out, rfl⟩, hB⟩
set_option maxRecDepth 100000 in
theorem drawParseCard_any (a : Option Addr) (len cap : Nat) (w : World) (hl : len ≤ 1048576) (hy : BytesB w.heap.size w a len) :
    Calls Try.prog 34 #[.slice a len cap] w fun e w' => (∃ x : ByteArray, e = .returned (.string x)) ∧ Below w.heap.size w w' := by
  go_enter Try.func34, Try.ntmps34
  go_wp2_with fail
  refine (l1New_any w.heap.size a len cap w hl (Nat.le_refl _) hy).mono ?_
  rintro e w1 ⟨rfl, hC1, b1, hz⟩
  go_wp2_with fail
  refine (l4Card_any _ _ _ hC1).mono ?_
  rintro e w2 ⟨⟨x, hx, rfl⟩, hC2, g2⟩
  have Hx := Lib.hid hx
  clear hx hC1 hz
  go_wp2_with fail
  refine (sCardText_any x w2).mono ?_
  rintro e w3 ⟨rfl, B3⟩
  have hC3 := hC2.below B3
  have hB3 := (below_made4 b1 g2).trans (B3.mono (below_made4 b1 g2).size)
  obtain ⟨t, ht⟩ : ∃ t, t = cardTxt x := ⟨_, rfl⟩
  rw [← ht]
  have hlt := hC3.lt
  clear ht hC2 b1 g2 B3
  go_wp2_with fail
  refine (l1Str_any w.heap.size w.heap.size w3.heap.size 0 _ _ [t, t, t, ⟨#[]⟩, ⟨#[49, 48, 99]⟩, ⟨#[65, 99, 32]⟩, ⟨#[97, 67]⟩, ⟨#[84, 120]⟩, ⟨#[50, 99]⟩] _ (hC3.alloc _) (by omega) (by simp) (by simp) (by simp) rfl (cells_lit _ _ _ _ _ rfl)).mono ?_
  rintro e w4 ⟨⟨u, -, rfl⟩, hC4, g4⟩
  have hB4 := below_made4 (hB3.alloc hB3.size _) g4
  clear hB3 g4 hC3 hC4
  go_wp2_with fail
  go_ret
  exact ⟨⟨u, rfl⟩, hB4⟩
end Go.Proofs.Ytjigglnepcabmaa
