/-
  The draws of chapter 1: what they give.
-/
import Derived.Test.YtlflcmignndieaaDoorCur
import Derived.Test.YtlflcmignndieaaDoorFormat

namespace Go.Proofs.YtlflcmignndieaaDoor
open Go.RowKit Go.Extern.Stop Go.Stop Go.Extern

theorem l1Odd_any (B b : Nat) (w : World) (hC : Cur B b w) :
    Calls Tryd.prog 39 #[.pointer (some ⟨b, 0, none⟩)] w fun e w' => (∃ x : Int, (Lit.int .i64 x).wf = true ∧ e = .returned (.int .i64 x)) ∧ Cur B b w' ∧ w.grownBy w' (some b) := by
  have hlt := hC.lt
  go_enter Tryd.func39, Tryd.ntmps39
  go_wp2_with fail
  refine (l1Int_any B b w.heap.size 0 _ _ [-1, 0, 1, 2, 255, 256, 65535, 2147483647, 2147483648, 4294967295, 4294967296, -2147483648, 9223372036854775807, -9223372036854775808] _ (hC.alloc _) (by omega) (by simp) (by simp) (by simp) rfl (cells_lit _ _ _ _ _ rfl)).mono ?_
  rintro e w1 ⟨⟨x, hx, rfl⟩, hC1, g1⟩
  have hw : Hid ((Lit.int .i64 x).wf = true) := Lib.hid (by
    simp only [List.mem_cons, List.not_mem_nil, or_false] at hx
    rcases hx with h | h | h | h | h | h | h | h | h | h | h | h | h | h <;> subst h <;> decide)
  clear hx
  go_wp2_with fail
  go_ret
  exact ⟨⟨x, hw.out, rfl⟩, hC1, grown_trans (grown_alloc (grown_refl _ _) _) g1⟩

theorem l1Raw_any (B b : Nat) (w : World) (hC : Cur B b w) :
    Calls Tryd.prog 34 #[.pointer (some ⟨b, 0, none⟩)] w fun e w' => (∃ x : Int, (Lit.int .i64 x).wf = true ∧ e = .returned (.int .i64 x)) ∧ Cur B b w' ∧ w.grownBy w' (some b) := by
  go_enter Tryd.func34, Tryd.ntmps34
  go_wp2_with fail
  refine (l1Once_any B b _ _ hC (by omega)).mono ?_
  rintro e w1 ⟨⟨x, rfl⟩, hC1, g1⟩
  cases x
  · have hlt := hC1.lt
    go_wp2_with fail
    refine (l1Int_any B b w1.heap.size 0 _ _ [-1, 1000000000000, 1000000000001] _ (hC1.alloc _) (by omega) (by simp) (by simp) (by simp) rfl (cells_lit _ _ _ _ _ rfl)).mono ?_
    rintro e w2 ⟨⟨x, hx, rfl⟩, hC2, g2⟩
    have hw : Hid ((Lit.int .i64 x).wf = true) := Lib.hid (by
      simp only [List.mem_cons, List.not_mem_nil, or_false] at hx
      rcases hx with h | h | h <;> subst h <;> decide)
    clear hx
    go_wp2_with fail
    go_ret
    exact ⟨⟨x, hw.out, rfl⟩, hC2, grown_trans g1 (grown_trans (grown_alloc (grown_refl _ _) _) g2)⟩
  · go_wp2_with fail
    refine (l1Odd_any B b _ hC1).mono ?_
    rintro e w2 ⟨⟨x, hx, rfl⟩, hC2, g2⟩
    go_wp2_with fail
    go_ret
    exact ⟨⟨x, hx, rfl⟩, hC2, grown_trans g1 g2⟩

theorem l1Num_any (B b : Nat) (w : World) (hC : Cur B b w) :
    Calls Tryd.prog 23 #[.pointer (some ⟨b, 0, none⟩)] w fun e w' => (∃ x : Int, 0 ≤ x ∧ x ≤ 1000000000000 ∧ e = .returned (.int .i64 x)) ∧ Cur B b w' ∧ w.grownBy w' (some b) := by
  go_enter Tryd.func23, Tryd.ntmps23
  go_wp2_with fail
  refine (l1Below_any B b _ _ hC (by omega)).mono ?_
  rintro e w1 ⟨⟨x, x0, x1, x2, rfl⟩, hC1, g1⟩
  go_wp2_with fail
  · refine (l1Below_any B b _ _ hC1 (by omega)).mono ?_
    rintro e w2 ⟨⟨y, y0, y1, y2, rfl⟩, hC2, g2⟩
    go_wp2_with fail
    go_ret
    exact ⟨⟨y, y0, by omega, rfl⟩, hC2, grown_trans g1 g2⟩
  · have hlt := hC1.lt
    refine (l1Int_any B b w1.heap.size 0 _ _ [0, 1, 127, 128, 2147483646, 2147483647, 1000000000000] _ (hC1.alloc _) (by omega) (by simp) (by simp) (by simp) rfl (cells_lit _ _ _ _ _ rfl)).mono ?_
    rintro e w2 ⟨⟨y, hx, rfl⟩, hC2, g2⟩
    have hw : Hid (0 ≤ y ∧ y ≤ 1000000000000) := Lib.hid (by
      simp only [List.mem_cons, List.not_mem_nil, or_false] at hx
      omega)
    clear hx
    go_wp2_with fail
    go_ret
    exact ⟨⟨y, hw.out.1, hw.out.2, rfl⟩, hC2, grown_trans g1 (grown_trans (grown_alloc (grown_refl _ _) _) g2)⟩
  · refine (l1Below_any B b _ _ hC1 (by omega)).mono ?_
    rintro e w2 ⟨⟨y, y0, y1, y2, rfl⟩, hC2, g2⟩
    go_wp2_with fail
    refine (l1Below_any B b _ _ hC2 (by omega)).mono ?_
    rintro e w3 ⟨⟨z, z0, z1, z2, rfl⟩, hC3, g3⟩
    have hm1 : 0 ≤ y * z := Int.mul_nonneg y0 z0
    have hm2 : y * z ≤ 1000000000000 := by
      have : y * z ≤ 1000000 * 1000000 := Int.mul_le_mul (by omega) (by omega) z0 (by omega)
      omega
    go_wp2_with fail
    go_ret
    exact ⟨⟨y * z, hm1, hm2, rfl⟩, hC3, grown_trans (grown_trans g1 g2) g3⟩
  · refine (l1Below_any B b _ _ hC1 (by omega)).mono ?_
    rintro e w2 ⟨⟨y, y0, y1, y2, rfl⟩, hC2, g2⟩
    go_wp2_with fail
    go_ret
    exact ⟨⟨y, y0, by omega, rfl⟩, hC2, grown_trans g1 g2⟩

theorem l1One_any (B b : Nat) (w : World) (hC : Cur B b w) :
    Calls Tryd.prog 26 #[.pointer (some ⟨b, 0, none⟩)] w fun e w' => (∃ x : Int, (Lit.int .i64 x).wf = true ∧ e = .returned (.int .i64 x)) ∧ Cur B b w' ∧ w.grownBy w' (some b) := by
  go_enter Tryd.func26, Tryd.ntmps26
  go_wp2_with fail
  refine (l1Once_any B b _ _ hC (by omega)).mono ?_
  rintro e w1 ⟨⟨x, rfl⟩, hC1, g1⟩
  cases x
  · go_wp2_with fail
    refine (l1Num_any B b _ hC1).mono ?_
    rintro e w2 ⟨⟨x, x0, x1, rfl⟩, hC2, g2⟩
    go_wp2_with fail
    go_ret
    exact ⟨⟨x, WalkArith.wf_i64 (by omega), rfl⟩, hC2, grown_trans g1 g2⟩
  · go_wp2_with fail
    refine (l1Raw_any B b _ hC1).mono ?_
    rintro e w2 ⟨⟨x, hx, rfl⟩, hC2, g2⟩
    go_wp2_with fail
    go_ret
    exact ⟨⟨x, hx, rfl⟩, hC2, grown_trans g1 g2⟩

/-- A cursor made and moved: all that was there is as it was. -/
theorem below_made {w w1 w2 : World} (h1 : Below w.heap.size w w1) (g : w1.grownBy w2 (some w.heap.size)) : Below w.heap.size w w2 :=
  h1.trans (grown_below g (Nat.le_refl _) h1.size)

theorem drawFormatInt_any (a : Option Addr) (len cap : Nat) (w : World) (hl : len ≤ 1048576) (hy : BytesB w.heap.size w a len) :
    Calls Tryd.prog 11 #[.slice a len cap] w fun e w' => (∃ x : Int, (Lit.int .i64 x).wf = true ∧ e = .returned (.int .i64 x)) ∧ Below w.heap.size w w' := by
  go_enter Tryd.func11, Tryd.ntmps11
  go_wp2_with fail
  refine (l1New_any w.heap.size a len cap w hl (Nat.le_refl _) hy).mono ?_
  rintro e w1 ⟨rfl, hC1, b1, hz⟩
  go_wp2_with fail
  refine (l1One_any _ _ _ hC1).mono ?_
  rintro e w2 ⟨⟨x, hx, rfl⟩, hC2, g2⟩
  go_wp2_with fail
  go_ret
  exact ⟨⟨x, hx, rfl⟩, below_made b1 g2⟩

theorem drawCeilDiv_any (a : Option Addr) (len cap : Nat) (w : World) (hl : len ≤ 1048576) (hy : BytesB w.heap.size w a len) :
    Calls Tryd.prog 13 #[.slice a len cap] w fun e w' => (∃ x y : Int, (Lit.int .i64 x).wf = true ∧ (Lit.int .i64 y).wf = true ∧ e = .returned (.tuple #[.int .i64 x, .int .i64 y])) ∧ Below w.heap.size w w' := by
  go_enter Tryd.func13, Tryd.ntmps13
  go_wp2_with fail
  refine (l1New_any w.heap.size a len cap w hl (Nat.le_refl _) hy).mono ?_
  rintro e w1 ⟨rfl, hC1, b1, hz⟩
  go_wp2_with fail
  refine (l1One_any _ _ _ hC1).mono ?_
  rintro e w2 ⟨⟨x, hx, rfl⟩, hC2, g2⟩
  go_wp2_with fail
  refine (l1One_any _ _ _ hC2).mono ?_
  rintro e w3 ⟨⟨y, hy, rfl⟩, hC3, g3⟩
  go_wp2_with fail
  go_ret2
  exact ⟨⟨x, y, hx, hy, rfl⟩, below_made b1 (grown_trans g2 g3)⟩

theorem drawParseInt_any (a : Option Addr) (len cap : Nat) (w : World) (hl : len ≤ 1048576) (hy : BytesB w.heap.size w a len) :
    Calls Tryd.prog 9 #[.slice a len cap] w fun e w' => (∃ x : ByteArray, x.size ≤ 100 ∧ e = .returned (.string x)) ∧ Below w.heap.size w w' := by
  go_enter Tryd.func9, Tryd.ntmps9
  go_wp2_with fail
  refine (l1New_any w.heap.size a len cap w hl (Nat.le_refl _) hy).mono ?_
  rintro e w1 ⟨rfl, hC1, b1, hz⟩
  go_wp2_with fail
  refine (l1Once_any _ _ _ _ hC1 (by omega)).mono ?_
  rintro e w2 ⟨⟨x, rfl⟩, hC2, g2⟩
  cases x
  · go_wp2_with fail
    refine (l1Num_any _ _ _ hC2).mono ?_
    rintro e w3 ⟨⟨x, x0, x1, rfl⟩, hC3, g3⟩
    have hl := itoa_len x (by omega) (by omega)
    go_wp2_with fail
    refine (sFormatInt_any _ _ (WalkArith.wf_i64 (by omega))).mono ?_
    rintro e w4 ⟨rfl, b4⟩
    go_wp2_with fail
    go_ret
    exact ⟨⟨_, by show (Lib.itoa x).toArray.size ≤ 100; rw [List.size_toArray]; omega, rfl⟩, (below_made b1 (grown_trans g2 g3)).trans (b4.mono (below_made b1 (grown_trans g2 g3)).size)⟩
  · go_wp2_with fail
    have hlt := hC2.lt
    refine (l1Str_any _ _ w2.heap.size 0 _ _ [⟨#[]⟩, ⟨#[48]⟩, ⟨#[48, 48]⟩, ⟨#[45, 49]⟩, ⟨#[48, 49]⟩, ⟨#[55]⟩, ⟨#[49, 48, 48, 48, 48, 48, 48, 48, 48, 48, 48, 48, 48]⟩, ⟨#[49, 48, 48, 48, 48, 48, 48, 48, 48, 48, 48, 48, 49]⟩, ⟨#[57, 57, 57, 57, 57, 57, 57, 57, 57, 57, 57, 57, 57, 57]⟩, ⟨#[49, 120]⟩, ⟨#[32, 49]⟩] _ (hC2.alloc _) (by omega) (by simp) (by simp) (by simp) rfl (cells_lit _ _ _ _ _ rfl)).mono ?_
    rintro e w3 ⟨⟨y, hx, rfl⟩, hC3, g3⟩
    have hw : Hid (y.size ≤ 100) := Lib.hid (by
      simp only [List.mem_cons, List.not_mem_nil, or_false] at hx
      rcases hx with h | h | h | h | h | h | h | h | h | h | h <;> subst h <;> decide)
    clear hx
    go_wp2_with fail
    go_ret
    exact ⟨⟨y, hw.out, rfl⟩, below_made b1 (grown_trans g2 (grown_trans (grown_alloc (grown_refl _ _) _) g3))⟩
end Go.Proofs.YtlflcmignndieaaDoor
