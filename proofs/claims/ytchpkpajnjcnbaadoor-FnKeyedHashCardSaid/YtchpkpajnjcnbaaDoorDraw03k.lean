/-
  The draws of the law FnKeyedHash; the helper at of the laws.
-/
import Derived.Test.YtchpkpajnjcnbaaDoorDraw03
import Derived.Test.YtchpkpajnjcnbaaDoorMarksI
namespace Go.Proofs.YtchpkpajnjcnbaaDoor
open Go.RowKit

set_option maxRecDepth 100000 in
theorem l3WordB_any (B b : Nat) (w : World) (hC : Cur B b w) :
    Calls Tryd.prog 46 #[.pointer (some ⟨b, 0, none⟩)] w fun e w' => (∃ x : Int, (-1 ≤ x ∧ x ≤ 2147483648) ∧ e = .returned (.int .i64 x)) ∧ Cur B b w' ∧ w.grownBy w' (some b) := by
  go_enter Tryd.func46, Tryd.ntmps46
  go_wp2_with fail
  refine (l1Once_any B b _ _ hC (by omega)).mono ?_
  rintro e w1 ⟨⟨x, rfl⟩, hC1, g1⟩
  cases x
  · go_wp2_with fail
    refine (l1Once_any B b _ _ hC1 (by omega)).mono ?_
    rintro e w2 ⟨⟨x, rfl⟩, hC2, g2⟩
    have g12 := grown_trans g1 g2
    clear g1 g2 hC1
    cases x
    · go_wp2_with fail
      refine (l1Below_any B b _ _ hC2 (by omega)).mono ?_
      rintro e w3 ⟨⟨y, y0, y1, y2, rfl⟩, hC3, g3⟩
      go_wp2_with fail
      refine (l1Below_any B b _ _ hC3 (by omega)).mono ?_
      rintro e w4 ⟨⟨z, z0, z1, z2, rfl⟩, hC4, g4⟩
      have hm1 : 0 ≤ y * z := Int.mul_nonneg y0 z0
      have hm2 : y * z ≤ 2000000000 := by
        have : y * z ≤ 1000000 * 2000 := Int.mul_le_mul (by omega) (by omega) z0 (by omega)
        omega
      have hw : Hid (-1 ≤ y * z ∧ y * z ≤ 2147483648) := Lib.hid ⟨by omega, by omega⟩
      go_wp2_with fail
      go_ret
      exact ⟨⟨_, hw.out, rfl⟩, hC4, grown_trans (grown_trans g12 g3) g4⟩
    · have hlt := hC2.lt
      go_wp2_with fail
      refine (l1Int_any B b w2.heap.size 0 _ _ [0, 1, 2147483646] _ (hC2.alloc _) (by omega) (by simp) (by simp) (by simp) rfl (cells_lit _ _ _ _ _ rfl)).mono ?_
      rintro e w3 ⟨⟨y, hx, rfl⟩, hC3, g3⟩
      have hw : Hid (-1 ≤ y ∧ y ≤ 2147483648) := Lib.hid (by
        simp only [List.mem_cons, List.not_mem_nil, or_false] at hx
        omega)
      clear hx
      go_wp2_with fail
      go_ret
      exact ⟨⟨_, hw.out, rfl⟩, hC3, grown_trans g12 (grown_trans (grown_alloc (grown_refl _ _) _) g3)⟩
  · have hlt := hC1.lt
    go_wp2_with fail
    refine (l1Int_any B b w1.heap.size 0 _ _ [-1, 2147483647, 2147483648] _ (hC1.alloc _) (by omega) (by simp) (by simp) (by simp) rfl (cells_lit _ _ _ _ _ rfl)).mono ?_
    rintro e w3 ⟨⟨y, hx, rfl⟩, hC3, g3⟩
    have hw : Hid (-1 ≤ y ∧ y ≤ 2147483648) := Lib.hid (by
      simp only [List.mem_cons, List.not_mem_nil, or_false] at hx
      omega)
    clear hx
    go_wp2_with fail
    go_ret
    exact ⟨⟨_, hw.out, rfl⟩, hC3, grown_trans g1 (grown_trans (grown_alloc (grown_refl _ _) _) g3)⟩
set_option maxRecDepth 100000 in
set_option maxHeartbeats 400000 in
theorem l3Words_any (B b : Nat) (w : World) (hC : Cur B b w) :
    Calls Tryd.prog 49 #[.pointer (some ⟨b, 0, none⟩)] w fun e w' => (∃ v, e = .returned v ∧ ∃ zs : List Int, zs.length ≤ 1000 ∧ (∀ x ∈ zs, -1 ≤ x ∧ x ≤ 2147483648) ∧ ∃ r, w.heap.size ≤ r ∧ WrAt .i64 w' v zs r) ∧ Cur B b w' ∧ w.grownBy w' (some b) := by
  obtain ⟨i0, hi, hz0, hz1, hz2⟩ := info_parts info_i64
  have hlt0 := hC.lt
  go_enter Tryd.func49, Tryd.ntmps49
  go_wp2_with fail
  have hown0 := World.ownsRow_lit (base := w.heap.size) (e := 3) (size := 1) w #[] 0 (Nat.le_refl _) (Nat.zero_le _) rfl
  refine (l1Below_any B b _ _ (hC.alloc _) (by omega)).mono ?_
  rintro e w1 ⟨⟨c, c0, c1, c2, rfl⟩, hC1, g1⟩
  have hg1 := grown_trans (grown_alloc (grown_refl w (some b)) _) g1
  have hown1 := own_kept hown0 g1 hlt0
  have hc5 : c ≤ 5 := by omega
  clear c1 c2 g1 hown0
  go_wp2_with fail
  go_loopw [3, 4] (fun o i wr => ∃ (zs : List Int) (k : Nat) (j : Int), Hid (zs.length = k) ∧ 0 ≤ j ∧ (k : Int) + j ≤ 5 ∧ i = .int .i64 j ∧ Hid (∀ x ∈ zs, -1 ≤ x ∧ x ≤ 2147483648) ∧ Cur B b wr ∧ w.grownBy wr (some b) ∧ wr.ownsRow w.heap.size 3 1 o k (zs.map (Value.int .i64))) (fun _ i _ => (intOf i).toNat)
  case atStart => exact ⟨[], 0, c, Lib.hid rfl, c0, by omega, rfl, Lib.hid (by simp), hC1, hg1, hown1⟩
  case round =>
    clear hown1 hg1 hC1
    obtain ⟨zs, k, j, hzk, hj0, hkj, rfl, hwf, hC2, hg, hown⟩ := hrel
    by_cases hlt : 0 < j
    · go_wp2_with fail
      refine (l3WordB_any B b _ hC2).mono ?_
      rintro e w2 ⟨⟨x, hx, rfl⟩, hC3, hg1⟩
      have hg2 := grown_trans hg hg1
      have hown2 := own_kept hown hg1 hlt0
      have hsz := hg2.size
      have Hx := Lib.hid hx
      clear hC2 hg hown hg1 hx
      go_wp2_with (at_builtin; refine wpList_append_own _ rfl _ _ 22 rfl w.heap.size 3 i0 (.int .i64 0) 1 8 Tryd.underlying22 hi hz0 hz1 hz2 rfl (by decide) _ _ _ rfl (hown2.alloc _) ⟨w2.heap.size, 0, none⟩ 1 1 [.int .i64 x] rfl rfl (cell_one_new _ _ _) (one_cell _ _) ?e3 ?e4 (by simp; omega) ?_)
      case e3 => unfold maxLen; omega
      case e4 => omega
      intro v3 w3 hown3 hgr3 _
      have hB12 : Below w.heap.size w2 w3 := ((Below.refl _ _).alloc hsz _).grown hgr3 (by simp; omega) (own_block hown2)
      have hg3 := grown_then_below hg2 hB12
      have hC4 := hC3.keep (hB12.block b hlt0) (hB12.mono (Nat.le_trans hC.le (Nat.le_of_lt hlt0)))
      have hown4 : w3.ownsRow w.heap.size 3 1 v3 (k + 1) ((zs ++ [x]).map (Value.int .i64)) := by
        rw [List.map_append]; exact hown3
      have hwf2 : Hid (∀ y ∈ zs ++ [x], -1 ≤ y ∧ y ≤ 2147483648) := Lib.hid (fun y hy => (List.mem_append.1 hy).elim (hwf.out y) (fun h => by
        simp at h; subst h; exact Hx.out))
      clear hown3 hgr3 hown2 hC3 hg2 hB12
      go_wp2_with fail
      go_roundw
      case rel => exact ⟨zs ++ [x], k + 1, j - 1, Lib.hid (by rw [List.length_append, hzk.out]; rfl), by omega, by omega, by go_num, hwf2, hC4, hg3, hown4⟩
      case measure => simp [intOf]; omega
    · have hwr := Lib.hid (own_wr (by rw [hzk.out]; exact hown) (fun x hx => by have := hwf.out x hx; exact WalkArith.wf_i64 (by omega)))
      clear hown
      go_wp2_with fail
      go_ret
      obtain ⟨r, hr, hw'⟩ := hwr.out
      have hz := hzk.out
      exact ⟨⟨_, rfl, zs, by omega, hwf.out, r, hr, hw'⟩, hC2, hg⟩
theorem drawKeyedHash_any (a : Option Addr) (len cap : Nat) (w : World) (hl : len ≤ 1048576) (hy : BytesB w.heap.size w a len) :
    Calls Tryd.prog 30 #[.slice a len cap] w fun e w' => (∃ (k : Int) (v : Value), e = .returned (.tuple #[.int .i64 k, v]) ∧ (Lit.int .i64 k).wf = true ∧ ∃ zs : List Int, zs.length ≤ 1000 ∧ (∀ x ∈ zs, -1 ≤ x ∧ x ≤ 2147483648) ∧ ∃ r, WrAt .i64 w' v zs r) ∧ Below w.heap.size w w' := by
  go_enter Tryd.func30, Tryd.ntmps30
  go_wp2_with fail
  refine (l1New_any w.heap.size a len cap w hl (Nat.le_refl _) hy).mono ?_
  rintro e w1 ⟨rfl, hC1, b1, hz⟩
  go_wp2_with fail
  refine (l3Word_any _ _ _ hC1).mono ?_
  rintro e w2 ⟨⟨k, hk, rfl⟩, hC2, g2⟩
  have Hk := Lib.hid hk
  clear hk
  go_wp2_with fail
  refine (l3Words_any _ _ _ hC2).mono ?_
  rintro e w3 ⟨⟨v, rfl, zs, hzl, hzb, r, hr, hw4⟩, hC3, g3⟩
  have hB := below_made b1 (grown_trans g2 g3)
  clear b1 g2 g3 hC1 hC2 hC3
  go_wp2_with fail
  go_ret2
  exact ⟨⟨k, v, rfl, Hk.out, zs, hzl, hzb, r, hw4⟩, hB⟩
theorem drawDerive_any (a : Option Addr) (len cap : Nat) (w : World) (hl : len ≤ 1048576) (hy : BytesB w.heap.size w a len) :
    Calls Tryd.prog 33 #[.slice a len cap] w fun e w' => (∃ (k : Int) (s : ByteArray), e = .returned (.tuple #[.int .i64 k, .string s]) ∧ (Lit.int .i64 k).wf = true ∧ s.size ≤ 100) ∧ Below w.heap.size w w' := by
  go_enter Tryd.func33, Tryd.ntmps33
  go_wp2_with fail
  refine (l1New_any w.heap.size a len cap w hl (Nat.le_refl _) hy).mono ?_
  rintro e w1 ⟨rfl, hC1, b1, hz⟩
  go_wp2_with fail
  refine (l3Word_any _ _ _ hC1).mono ?_
  rintro e w2 ⟨⟨k, hk, rfl⟩, hC2, g2⟩
  have Hk := Lib.hid hk
  have hlt := hC2.lt
  clear hk
  go_wp2_with fail
  refine (l1Str_any _ _ w2.heap.size 0 _ _ [⟨#[]⟩, ⟨#[97]⟩, ⟨#[98]⟩, ⟨#[97, 98]⟩, ⟨#[110, 101, 119, 115]⟩, ⟨#[120]⟩] _ (hC2.alloc _) (by omega) (by simp) (by simp) (by simp) rfl (cells_lit _ _ _ _ _ rfl)).mono ?_
  rintro e w3 ⟨⟨s, hs, rfl⟩, hC3, g3⟩
  have hw : Hid (s.size ≤ 100) := Lib.hid (by
    simp only [List.mem_cons, List.not_mem_nil, or_false] at hs
    rcases hs with h | h | h | h | h | h <;> subst h <;> decide)
  have hB := below_made b1 (grown_trans g2 (grown_trans (grown_alloc (grown_refl _ _) _) g3))
  clear hs b1 g2 g3 hC1 hC2 hC3
  go_wp2_with fail
  go_ret2
  exact ⟨⟨k, s, rfl, Hk.out, hw.out⟩, hB⟩
theorem at_any (a : Option Addr) (len cap : Nat) (i : Nat) (w : World) (hl : len ≤ 1048576) (hi : i ≤ 100) (hy : BytesB w.heap.size w a len) :
    Calls Tryd.prog 31 #[.slice a len cap, .int .i64 i] w fun e w' => ∃ x : Int, e = .returned (.int .i64 x) ∧ (0 ≤ x ∧ x ≤ 255) ∧ w = w' := by
  by_cases h : i < len
  · rcases hy with h0 | ⟨blk, off, hblk, rfl, hv⟩
    · omega
    obtain ⟨v, v0, v1, v2⟩ := hv i h
    clear hv
    go_enter Tryd.func31, Tryd.ntmps31
    go_wp2
    go_ret
    exact ⟨v, rfl, ⟨v0, v1⟩, rfl⟩
  · go_enter Tryd.func31, Tryd.ntmps31
    go_wp2
    go_ret
    exact ⟨_, rfl, ⟨by omega, by omega⟩, rfl⟩
end Go.Proofs.YtchpkpajnjcnbaaDoor
