/-
  The draws of chapter 2: DrawAppendUvarint, DrawReadUvarint.
-/
import Derived.Test.YtjigglnepcabmaaBig
import Derived.Test.YtjigglnepcabmaaModel02
namespace Go.Proofs.Ytjigglnepcabmaa
open Go.RowKit

theorem below_made {w w1 w2 : World} (h1 : Below w.heap.size w w1) (g : w1.grownBy w2 (some w.heap.size)) : Below w.heap.size w w2 :=
  h1.trans (grown_below g (Nat.le_refl _) h1.size)
theorem l1Odd_any (B b : Nat) (w : World) (hC : Cur B b w) :
    Calls Try.prog 113 #[.pointer (some ⟨b, 0, none⟩)] w fun e w' => (∃ x : Int, (Lit.int .i64 x).wf = true ∧ e = .returned (.int .i64 x)) ∧ Cur B b w' ∧ w.grownBy w' (some b) := by
  have hlt := hC.lt
  go_enter Try.func113, Try.ntmps113
  go_wp2_with fail
  refine (l1Int_any B b w.heap.size 0 _ _ [-1, 0, 1, 2, 255, 256, 65535, 2147483647, 2147483648, 4294967295, 4294967296, -2147483648, 9223372036854775807, -9223372036854775808] _ (hC.alloc _) (by omega) (by simp) (by simp) (by simp) rfl (cells_lit _ _ _ _ _ rfl)).mono ?_
  rintro e w1 ⟨⟨x, hx, rfl⟩, hC1, g1⟩
  have hw : Hid ((Lit.int .i64 x).wf = true) := Lib.hid (by
    simp only [List.mem_cons, List.not_mem_nil, or_false] at hx
    rcases hx with h | h | h | h | h | h | h | h | h | h | h | h | h | h <;> subst h <;> decide)
  clear hx
  go_wp2_with fail
  go_ret
  exact ⟨⟨x, hw.out, rfl⟩, hC1, grown_trans (grown_alloc (grown_refl _ _) _) g1⟩

theorem l1Raw_any (B b : Nat) (w : World) (hC : Cur B b w) :
    Calls Try.prog 102 #[.pointer (some ⟨b, 0, none⟩)] w fun e w' => (∃ x : Int, (Lit.int .i64 x).wf = true ∧ e = .returned (.int .i64 x)) ∧ Cur B b w' ∧ w.grownBy w' (some b) := by
  go_enter Try.func102, Try.ntmps102
  go_wp2_with fail
  refine (l1Once_any B b _ _ hC (by omega)).mono ?_
  rintro e w1 ⟨⟨x, rfl⟩, hC1, g1⟩
  cases x
  · have hlt := hC1.lt
    go_wp2_with fail
    refine (l1Int_any B b w1.heap.size 0 _ _ [-1, 1000000000000, 1000000000001] _ (hC1.alloc _) (by omega) (by simp) (by simp) (by simp) rfl (cells_lit _ _ _ _ _ rfl)).mono ?_
    rintro e w2 ⟨⟨x, hx, rfl⟩, hC2, g2⟩
    have hw : Hid ((Lit.int .i64 x).wf = true) := Lib.hid (by
      simp only [List.mem_cons, List.not_mem_nil, or_false] at hx
      rcases hx with h | h | h <;> subst h <;> decide)
    clear hx
    go_wp2_with fail
    go_ret
    exact ⟨⟨x, hw.out, rfl⟩, hC2, grown_trans g1 (grown_trans (grown_alloc (grown_refl _ _) _) g2)⟩
  · go_wp2_with fail
    refine (l1Odd_any B b _ hC1).mono ?_
    rintro e w2 ⟨⟨x, hx, rfl⟩, hC2, g2⟩
    go_wp2_with fail
    go_ret
    exact ⟨⟨x, hx, rfl⟩, hC2, grown_trans g1 g2⟩

theorem l1Num_any (B b : Nat) (w : World) (hC : Cur B b w) :
    Calls Try.prog 69 #[.pointer (some ⟨b, 0, none⟩)] w fun e w' => (∃ x : Int, 0 ≤ x ∧ x ≤ 1000000000000 ∧ e = .returned (.int .i64 x)) ∧ Cur B b w' ∧ w.grownBy w' (some b) := by
  go_enter Try.func69, Try.ntmps69
  go_wp2_with fail
  refine (l1Below_any B b _ _ hC (by omega)).mono ?_
  rintro e w1 ⟨⟨x, x0, x1, x2, rfl⟩, hC1, g1⟩
  go_wp2_with fail
  · refine (l1Below_any B b _ _ hC1 (by omega)).mono ?_
    rintro e w2 ⟨⟨y, y0, y1, y2, rfl⟩, hC2, g2⟩
    go_wp2_with fail
    go_ret
    exact ⟨⟨y, y0, by omega, rfl⟩, hC2, grown_trans g1 g2⟩
  · have hlt := hC1.lt
    refine (l1Int_any B b w1.heap.size 0 _ _ [0, 1, 127, 128, 2147483646, 2147483647, 1000000000000] _ (hC1.alloc _) (by omega) (by simp) (by simp) (by simp) rfl (cells_lit _ _ _ _ _ rfl)).mono ?_
    rintro e w2 ⟨⟨y, hx, rfl⟩, hC2, g2⟩
    have hw : Hid (0 ≤ y ∧ y ≤ 1000000000000) := Lib.hid (by
      simp only [List.mem_cons, List.not_mem_nil, or_false] at hx
      omega)
    clear hx
    go_wp2_with fail
    go_ret
    exact ⟨⟨y, hw.out.1, hw.out.2, rfl⟩, hC2, grown_trans g1 (grown_trans (grown_alloc (grown_refl _ _) _) g2)⟩
  · refine (l1Below_any B b _ _ hC1 (by omega)).mono ?_
    rintro e w2 ⟨⟨y, y0, y1, y2, rfl⟩, hC2, g2⟩
    go_wp2_with fail
    refine (l1Below_any B b _ _ hC2 (by omega)).mono ?_
    rintro e w3 ⟨⟨z, z0, z1, z2, rfl⟩, hC3, g3⟩
    have hm1 : 0 ≤ y * z := Int.mul_nonneg y0 z0
    have hm2 : y * z ≤ 1000000000000 := by
      have : y * z ≤ 1000000 * 1000000 := Int.mul_le_mul (by omega) (by omega) z0 (by omega)
      omega
    go_wp2_with fail
    go_ret
    exact ⟨⟨y * z, hm1, hm2, rfl⟩, hC3, grown_trans (grown_trans g1 g2) g3⟩
  · refine (l1Below_any B b _ _ hC1 (by omega)).mono ?_
    rintro e w2 ⟨⟨y, y0, y1, y2, rfl⟩, hC2, g2⟩
    go_wp2_with fail
    go_ret
    exact ⟨⟨y, y0, by omega, rfl⟩, hC2, grown_trans g1 g2⟩

theorem l1One_any (B b : Nat) (w : World) (hC : Cur B b w) :
    Calls Try.prog 63 #[.pointer (some ⟨b, 0, none⟩)] w fun e w' => (∃ x : Int, (Lit.int .i64 x).wf = true ∧ e = .returned (.int .i64 x)) ∧ Cur B b w' ∧ w.grownBy w' (some b) := by
  go_enter Try.func63, Try.ntmps63
  go_wp2_with fail
  refine (l1Once_any B b _ _ hC (by omega)).mono ?_
  rintro e w1 ⟨⟨x, rfl⟩, hC1, g1⟩
  cases x
  · go_wp2_with fail
    refine (l1Num_any B b _ hC1).mono ?_
    rintro e w2 ⟨⟨x, x0, x1, rfl⟩, hC2, g2⟩
    go_wp2_with fail
    go_ret
    exact ⟨⟨x, WalkArith.wf_i64 (by omega), rfl⟩, hC2, grown_trans g1 g2⟩
  · go_wp2_with fail
    refine (l1Raw_any B b _ hC1).mono ?_
    rintro e w2 ⟨⟨x, hx, rfl⟩, hC2, g2⟩
    go_wp2_with fail
    go_ret
    exact ⟨⟨x, hx, rfl⟩, hC2, grown_trans g1 g2⟩

set_option maxRecDepth 100000 in
theorem drawAppendUvarint_any (a : Option Addr) (len cap : Nat) (w : World) (hl : len ≤ 1048576) (hy : BytesB w.heap.size w a len) :
    Calls Try.prog 15 #[.slice a len cap] w fun e w' => (∃ (v : Value) (x : Int), e = .returned (.tuple #[v, .int .i64 x]) ∧ (Lit.int .i64 x).wf = true ∧ ∃ zs : List Int, zs.length ≤ 1000 ∧ ∃ r, WrAt .u8 w' v zs r) ∧ Below w.heap.size w w' := by
  go_enter Try.func15, Try.ntmps15
  go_wp2_with fail
  refine (l1New_any w.heap.size a len cap w hl (Nat.le_refl _) hy).mono ?_
  rintro e w1 ⟨rfl, hC1, b1, hz⟩
  go_wp2_with fail
  refine (l1Below_any _ _ _ _ hC1 (by omega)).mono ?_
  rintro e w2 ⟨⟨n, n0, n1, n2, rfl⟩, hC2, g2⟩
  have hlt := hC2.lt
  go_wp2_with fail
  refine (l1Bytes_any _ _ n _ hC2 (by omega)).mono ?_
  rintro e w3 ⟨⟨v, rfl, zs, hzl, -, r, hr, hw3⟩, hC3, g3⟩
  go_wp2_with fail
  refine (l1One_any _ _ _ hC3).mono ?_
  rintro e w4 ⟨⟨x, hx, rfl⟩, hC4, g4⟩
  have Hx := Lib.hid hx
  have hB := below_made b1 (grown_trans (grown_trans g2 g3) g4)
  have hne : r ≠ w.heap.size := by omega
  have hw34 := hw3.grown g4 hne
  clear b1 g2 g3 g4 hC1 hC2 hC3 hC4 hw3 hx
  go_wp2_with fail
  go_ret2
  exact ⟨⟨v, x, rfl, Hx.out, zs, hzl, r, hw34⟩, hB⟩
set_option maxRecDepth 100000 in
set_option maxHeartbeats 1000000 in
theorem drawReadUvarint_any (a : Option Addr) (len cap : Nat) (w : World) (hl : len ≤ 1048576) (hy : BytesB w.heap.size w a len) :
    Calls Try.prog 19 #[.slice a len cap] w fun e w' => (∃ (v : Value) (x : Int), e = .returned (.tuple #[v, .int .i64 x]) ∧ (-1 ≤ x ∧ x ≤ 2) ∧ ∃ zs : List Int, zs.length ≤ 1010 ∧ ∃ r, WrAt .u8 w' v zs r) ∧ Below w.heap.size w w' := by
  obtain ⟨i0, hi, hz0, hz1, hz2⟩ := info_parts info_u8
  go_enter Try.func19, Try.ntmps19
  go_wp2_with fail
  refine (l1New_any w.heap.size a len cap w hl (Nat.le_refl _) hy).mono ?_
  rintro e w1 ⟨rfl, hC1, b1, hz⟩
  go_wp2_with fail
  refine (l1Once_any _ _ _ _ hC1 (by omega)).mono ?_
  rintro e w2 ⟨⟨x, rfl⟩, hC2, g2⟩
  have hlt := hC2.lt
  cases x
  · have hown0 := World.ownsRow_lit (base := w2.heap.size) (e := 5) (size := 1) w2 #[] 0 (Nat.le_refl _) (Nat.zero_le _) rfl
    have hB2 := below_made b1 g2
    have hsz2 := hB2.size
    go_wp2_with fail
    refine (l1Below_any _ _ _ _ (hC2.alloc _) (by omega)).mono ?_
    rintro e w3 ⟨⟨c, c0, c1, c2, rfl⟩, hC3, g3⟩
    have hg3 := grown_trans (grown_alloc (grown_refl w2 (some w.heap.size)) _) g3
    have hown3 := own_kept hown0 g3 hlt
    have hc7 : c ≤ 7 := by omega
    clear c1 c2 g3 hown0 g2 b1 hC1
    go_wp2_with fail
    go_loopw [5, 6] (fun o i wr => ∃ (zs : List Int) (k : Nat) (j : Int), Hid (zs.length = k) ∧ 0 ≤ j ∧ (k : Int) + j ≤ 7 ∧ i = .int .i64 j ∧ Hid (∀ x ∈ zs, (Lit.int .u8 x).wf = true) ∧ Cur w.heap.size w.heap.size wr ∧ w2.grownBy wr (some w.heap.size) ∧ wr.ownsRow w2.heap.size 5 1 o k (zs.map (Value.int .u8))) (fun _ i _ => (intOf i).toNat)
    case atStart => exact ⟨[], 0, c, Lib.hid rfl, c0, by omega, rfl, Lib.hid (by simp), hC3, hg3, hown3⟩
    case round =>
      clear hown3 hg3 hC3
      obtain ⟨zs, k, j, hzk, hj0, hkj, rfl, hwf, hC4, hg, hown⟩ := hrel
      by_cases hj : 0 < j
      · have hltw := hC4.lt
        go_wp2_with fail
        refine (l1Int_any _ _ wr.heap.size 0 _ _ [128, 255, 0, 1, 127] _ (hC4.alloc _) (by omega) (by simp) (by simp) (by simp) rfl (cells_lit _ _ _ _ _ rfl)).mono ?_
        rintro e w4 ⟨⟨x, hx, rfl⟩, hC5, g5⟩
        have hxb : 0 ≤ x ∧ x ≤ 255 := by
          simp only [List.mem_cons, List.not_mem_nil, or_false] at hx
          omega
        obtain ⟨x0, x1⟩ := hxb
        have hg1 := grown_trans (grown_alloc (grown_refl wr (some w.heap.size)) _) g5
        have hg2 := grown_trans hg hg1
        have hown5 := own_kept hown hg1 hlt
        have hsz := hg2.size
        clear hC4 hg hown hg1 g5 hx
        go_wp2_with (at_builtin; refine wpList_append_own _ rfl _ _ 22 rfl w2.heap.size 5 i0 (.int .u8 0) 1 1 Try.underlying22 hi hz0 hz1 hz2 rfl (by decide) _ _ _ rfl (hown5.alloc _) ⟨w4.heap.size, 0, none⟩ 1 1 [.int .u8 x] rfl rfl (cell_one_new _ _ _) (one_cell _ _) ?e3 ?e4 (by simp; omega) ?_)
        case e3 => unfold maxLen; omega
        case e4 => omega
        intro v6 w6 hown6 hgr6 _
        have hB46 : Below w2.heap.size w4 w6 := ((Below.refl _ _).alloc hsz _).grown hgr6 (by simp; omega) (own_block hown5)
        have hg3 := grown_then_below hg2 hB46
        have hC6 := hC5.keep (hB46.block _ hlt) (hB46.mono hsz2)
        have hown7 : w6.ownsRow w2.heap.size 5 1 v6 (k + 1) ((zs ++ [x]).map (Value.int .u8)) := by
          rw [List.map_append]; exact hown6
        have hwf2 : Hid (∀ y ∈ zs ++ [x], (Lit.int .u8 y).wf = true) := Lib.hid (fun y hy => (List.mem_append.1 hy).elim (hwf.out y) (fun h => by
          simp at h; subst h
          simp [Lit.wf, IntKind.min, IntKind.max, IntKind.signed, IntKind.bits]; omega))
        clear hown6 hgr6 hown5 hC5 hg2 hB46
        go_wp2_with fail
        go_roundw
        case rel => exact ⟨zs ++ [x], k + 1, j - 1, Lib.hid (by rw [List.length_append, hzk.out]; rfl), by omega, by omega, by go_num, hwf2, hC6, hg3, hown7⟩
        case measure => simp [intOf]; omega
      · have hwr := own_wr (by rw [hzk.out]; exact hown) hwf.out
        obtain ⟨r, hr, hw⟩ := hwr
        have hz9 := hzk.out
        clear hown
        go_wp2_with fail
        refine (l1Below_any _ _ _ _ hC4 (by omega)).mono ?_
        rintro e w7 ⟨⟨c, c0, c1, c2, rfl⟩, hC7, g7⟩
        have hw7 := hw.grown g7 (by omega)
        have hB7 : Below w.heap.size w w7 := hB2.trans (grown_below (grown_trans hg g7) (Nat.le_refl _) hsz2)
        clear hw g7 hg hC7 hC4
        go_wp2_with fail
        go_ret2
        exact ⟨⟨_, _, rfl, ⟨by omega, by omega⟩, zs, by omega, r, hw7⟩, hB7⟩
  · go_wp2_with fail
    refine (l1Bytes_any _ _ _ _ hC2 (by omega)).mono ?_
    rintro e w3 ⟨⟨v, rfl, zs, hzl, -, r, hr, hw3⟩, hC3, g3⟩
    go_wp2_with fail
    refine (l1Num_any _ _ _ hC3).mono ?_
    rintro e w4 ⟨⟨x, hx0, hx1, rfl⟩, hC4, g4⟩
    have hB := below_made b1 (grown_trans (grown_trans g2 g3) g4)
    have hw4 := hw3.grown g4 (by omega)
    clear b1 g2 g3 g4 hC1 hC2 hC3 hC4 hw3
    go_wp2_with fail
    refine (sAppendUvarint_any v zs r x w4 hw4.rd (by omega) (WalkArith.wf_i64 (by omega))).mono ?_
    rintro e w5 ⟨v5, b5, rfl, -, hw5, B5⟩
    have hB5 := hB.trans (B5.mono hB.size)
    have hpl := putU_len zs x
    clear B5 hB hw4
    go_wp2_with fail
    go_ret2
    exact ⟨⟨_, _, rfl, ⟨by omega, by omega⟩, _, by omega, b5, hw5⟩, hB5⟩
end Go.Proofs.Ytjigglnepcabmaa
