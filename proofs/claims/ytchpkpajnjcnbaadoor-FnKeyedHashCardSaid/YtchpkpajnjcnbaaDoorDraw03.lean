/-
  The draws of chapter 3: l3Word, DrawEncrypt.
-/
import Derived.Test.YtchpkpajnjcnbaaDoorBig
namespace Go.Proofs.YtchpkpajnjcnbaaDoor
open Go.RowKit

/-- A cursor made and moved: all that was there is as it was. -/
theorem below_made {w w1 w2 : World} (h1 : Below w.heap.size w w1) (g : w1.grownBy w2 (some w.heap.size)) : Below w.heap.size w w2 :=
  h1.trans (grown_below g (Nat.le_refl _) h1.size)
set_option maxRecDepth 100000 in
theorem l3Word_any (B b : Nat) (w : World) (hC : Cur B b w) :
    Calls Tryd.prog 46 #[.pointer (some ⟨b, 0, none⟩)] w fun e w' => (∃ x : Int, (Lit.int .i64 x).wf = true ∧ e = .returned (.int .i64 x)) ∧ Cur B b w' ∧ w.grownBy w' (some b) := by
  go_enter Tryd.func46, Tryd.ntmps46
  go_wp2_with fail
  refine (l1Once_any B b _ _ hC (by omega)).mono ?_
  rintro e w1 ⟨⟨x, rfl⟩, hC1, g1⟩
  cases x
  · go_wp2_with fail
    refine (l1Once_any B b _ _ hC1 (by omega)).mono ?_
    rintro e w2 ⟨⟨x, rfl⟩, hC2, g2⟩
    have g12 := grown_trans g1 g2
    clear g1 g2 hC1
    cases x
    · go_wp2_with fail
      refine (l1Below_any B b _ _ hC2 (by omega)).mono ?_
      rintro e w3 ⟨⟨y, y0, y1, y2, rfl⟩, hC3, g3⟩
      go_wp2_with fail
      refine (l1Below_any B b _ _ hC3 (by omega)).mono ?_
      rintro e w4 ⟨⟨z, z0, z1, z2, rfl⟩, hC4, g4⟩
      have hm1 : 0 ≤ y * z := Int.mul_nonneg y0 z0
      have hm2 : y * z ≤ 2000000000 := by
        have : y * z ≤ 1000000 * 2000 := Int.mul_le_mul (by omega) (by omega) z0 (by omega)
        omega
      have hw : Hid ((Lit.int .i64 (y * z)).wf = true) := Lib.hid (WalkArith.wf_i64 (by omega))
      go_wp2_with fail
      go_ret
      exact ⟨⟨_, hw.out, rfl⟩, hC4, grown_trans (grown_trans g12 g3) g4⟩
    · have hlt := hC2.lt
      go_wp2_with fail
      refine (l1Int_any B b w2.heap.size 0 _ _ [0, 1, 2147483646] _ (hC2.alloc _) (by omega) (by simp) (by simp) (by simp) rfl (cells_lit _ _ _ _ _ rfl)).mono ?_
      rintro e w3 ⟨⟨y, hx, rfl⟩, hC3, g3⟩
      have hw : Hid ((Lit.int .i64 y).wf = true) := Lib.hid (by
        simp only [List.mem_cons, List.not_mem_nil, or_false] at hx
        rcases hx with h | h | h <;> subst h <;> decide)
      clear hx
      go_wp2_with fail
      go_ret
      exact ⟨⟨_, hw.out, rfl⟩, hC3, grown_trans g12 (grown_trans (grown_alloc (grown_refl _ _) _) g3)⟩
  · have hlt := hC1.lt
    go_wp2_with fail
    refine (l1Int_any B b w1.heap.size 0 _ _ [-1, 2147483647, 2147483648] _ (hC1.alloc _) (by omega) (by simp) (by simp) (by simp) rfl (cells_lit _ _ _ _ _ rfl)).mono ?_
    rintro e w3 ⟨⟨y, hx, rfl⟩, hC3, g3⟩
    have hw : Hid ((Lit.int .i64 y).wf = true) := Lib.hid (by
      simp only [List.mem_cons, List.not_mem_nil, or_false] at hx
      rcases hx with h | h | h <;> subst h <;> decide)
    clear hx
    go_wp2_with fail
    go_ret
    exact ⟨⟨_, hw.out, rfl⟩, hC3, grown_trans g1 (grown_trans (grown_alloc (grown_refl _ _) _) g3)⟩
theorem drawEncrypt_any (a : Option Addr) (len cap : Nat) (w : World) (hl : len ≤ 1048576) (hy : BytesB w.heap.size w a len) :
    Calls Tryd.prog 28 #[.slice a len cap] w fun e w' => (∃ (k : Int) (v : Value), e = .returned (.tuple #[.int .i64 k, v]) ∧ (Lit.int .i64 k).wf = true ∧ ∃ zs : List Int, zs.length ≤ 1000 ∧ ∃ r, WrAt .u8 w' v zs r) ∧ Below w.heap.size w w' := by
  go_enter Tryd.func28, Tryd.ntmps28
  go_wp2_with fail
  refine (l1New_any w.heap.size a len cap w hl (Nat.le_refl _) hy).mono ?_
  rintro e w1 ⟨rfl, hC1, b1, hz⟩
  go_wp2_with fail
  refine (l3Word_any _ _ _ hC1).mono ?_
  rintro e w2 ⟨⟨k, hk, rfl⟩, hC2, g2⟩
  have Hk := Lib.hid hk
  clear hk
  go_wp2_with fail
  refine (l1Below_any _ _ _ _ hC2 (by omega)).mono ?_
  rintro e w3 ⟨⟨n, n0, n1, n2, rfl⟩, hC3, g3⟩
  go_wp2_with fail
  refine (l1Bytes_any _ _ n _ hC3 (by omega)).mono ?_
  rintro e w4 ⟨⟨v, rfl, zs, hzl, -, r, hr, hw4⟩, hC4, g4⟩
  have hB := below_made b1 (grown_trans (grown_trans g2 g3) g4)
  clear b1 g2 g3 g4 hC1 hC2 hC3 hC4
  go_wp2_with fail
  go_ret2
  exact ⟨⟨k, v, rfl, Hk.out, zs, hzl, r, hw4⟩, hB⟩
end Go.Proofs.YtchpkpajnjcnbaaDoor
