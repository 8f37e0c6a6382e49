/-
  The walk of the law FnByteStrings, at every code.
-/
import Derived.Test.YtjigglnepcabmaaRound02
import Derived.Test.YtjigglnepcabmaaBig
import Derived.Test.YtjigglnepcabmaaSameB
import Derived.Test.YtjigglnepcabmaaSameI
import Derived.Test.YtjigglnepcabmaaSlices
namespace Go.Proofs.Ytjigglnepcabmaa
open Go.RowKit

theorem below_made {w w1 w2 : World} (h1 : Below w.heap.size w w1) (g : w1.grownBy w2 (some w.heap.size)) : Below w.heap.size w w2 :=
  h1.trans (grown_below g (Nat.le_refl _) h1.size)
theorem at_any (a : Option Addr) (len cap : Nat) (i : Nat) (w : World) (hl : len ≤ 1048576) (hi : i ≤ 100) (hy : BytesB w.heap.size w a len) :
    Calls Try.prog 24 #[.slice a len cap, .int .i64 i] w fun e w' => ∃ x : Int, e = .returned (.int .i64 x) ∧ (0 ≤ x ∧ x ≤ 255) ∧ w = w' := by
  by_cases h : i < len
  · rcases hy with h0 | ⟨blk, off, hblk, rfl, hv⟩
    · omega
    obtain ⟨v, v0, v1, v2⟩ := hv i h
    clear hv
    go_enter Try.func24, Try.ntmps24
    go_wp2
    go_ret
    exact ⟨v, rfl, ⟨v0, v1⟩, rfl⟩
  · go_enter Try.func24, Try.ntmps24
    go_wp2
    go_ret
    exact ⟨_, rfl, ⟨by omega, by omega⟩, rfl⟩
theorem at_int (a : Option Addr) (len cap : Nat) (i : Int) (w : World) (hl : len ≤ 1048576) (h0 : 0 ≤ i) (h1 : i ≤ 100) (hy : BytesB w.heap.size w a len) :
    Calls Try.prog 24 #[.slice a len cap, .int .i64 i] w fun e w' => ∃ x : Int, e = .returned (.int .i64 x) ∧ (0 ≤ x ∧ x ≤ 255) ∧ w = w' := by
  obtain ⟨n, rfl⟩ := Int.eq_ofNat_of_zero_le h0
  exact at_any a len cap n w hl (by omega) hy
theorem drawAppendBytes_any (a : Option Addr) (len cap : Nat) (w : World) (hl : len ≤ 1048576) (hy : BytesB w.heap.size w a len) :
    Calls Try.prog 21 #[.slice a len cap] w fun e w' => (∃ v v2 : Value, e = .returned (.tuple #[v, v2]) ∧ ∃ zs ys : List Int, zs.length ≤ 1000 ∧ ys.length ≤ 1000 ∧ ∃ r r2, WrAt .u8 w' v zs r ∧ WrAt .u8 w' v2 ys r2) ∧ Below w.heap.size w w' := by
  go_enter Try.func21, Try.ntmps21
  go_wp2_with fail
  refine (l1New_any w.heap.size a len cap w hl (Nat.le_refl _) hy).mono ?_
  rintro e w1 ⟨rfl, hC1, b1, hz⟩
  go_wp2_with fail
  refine (l1Below_any _ _ _ _ hC1 (by omega)).mono ?_
  rintro e w2 ⟨⟨n, n0, n1, n2, rfl⟩, hC2, g2⟩
  have hlt := hC2.lt
  go_wp2_with fail
  refine (l1Bytes_any _ _ n _ hC2 (by omega)).mono ?_
  rintro e w3 ⟨⟨v, rfl, zs, hzl, -, r, hr, hw3⟩, hC3, g3⟩
  go_wp2_with fail
  refine (l1Below_any _ _ _ _ hC3 (by omega)).mono ?_
  rintro e w4 ⟨⟨m, m0, m1, m2, rfl⟩, hC4, g4⟩
  go_wp2_with fail
  refine (l1Bytes_any _ _ m _ hC4 (by omega)).mono ?_
  rintro e w5 ⟨⟨v2, rfl, ys, hyl, -, r2, hr2, hw5⟩, hC5, g5⟩
  have hB := below_made b1 (grown_trans (grown_trans g2 g3) (grown_trans g4 g5))
  have hne : r ≠ w.heap.size := by omega
  have hw35 := hw3.grown (grown_trans g4 g5) hne
  clear b1 g2 g3 g4 g5 hC1 hC2 hC3 hC4 hC5 hw3
  go_wp2_with fail
  go_ret2
  exact ⟨⟨v, v2, rfl, zs, ys, hzl, hyl, r, r2, hw35, hw5⟩, hB⟩

set_option maxRecDepth 100000 in
set_option maxHeartbeats 4000000 in
theorem fnByteStrings_walk (a0 : Option Addr) (len0 cap0 : Nat) (w : World) (hy : BytesB w.heap.size w a0 len0) :
    Calls Try.prog 4 #[.slice a0 len0 cap0] w fun e w' => e = .returned (.bool true) ∧ Below w.heap.size w w' := by
  obtain ⟨i0, hi, hz0, hz1, hz2⟩ := info_parts info_i64
  by_cases hb : 1048576 < len0
  · go_enter Try.func4, Try.ntmps4
    go_wp2_with fail
    refine (big_t _ _ _ _ hb).mono ?_
    rintro e w' ⟨rfl, rfl⟩
    go_wp2_with fail
    go_ret
    exact ⟨rfl, Below.refl _ _⟩
  · have HY : Hid (∀ wx, Below w.heap.size w wx → BytesB wx.heap.size wx a0 len0) := Lib.hid (fun wx hb => (hy.below hb).mono hb.size)
    have hlen : len0 ≤ 1048576 := by omega
    go_enter Try.func4, Try.ntmps4
    go_wp2_with fail
    refine (big_f _ _ _ _ (by omega)).mono ?_
    rintro e w' ⟨rfl, rfl⟩
    go_wp2_with fail
    refine (drawAppendBytes_any a0 len0 cap0 w (by omega) hy).mono ?_
    rintro e w1 ⟨⟨v, v2, rfl, zs, ys, hzl, hyl, r, r2, hw1, hw2⟩, B⟩
    have hrd := hw1.rd
    have hrd2 := hw2.rd
    have H1 := Lib.hid (rdBy_putB zs ys (by omega))
    have H2 := Lib.hid (rdBy_short zs ys (by omega))
    have hpl := putB_len zs ys
    clear hy hw1 hw2 hb
    go_wp2_with fail
    refine (appendBytes_any v zs r v2 ys r2 w1 hrd hrd2 (by omega) (by omega)).mono ?_
    rintro e w2 ⟨v3, b3, rfl, -, hw3, B2⟩
    replace hrd := hrd.below B2
    replace hrd2 := hrd2.below B2
    replace B := B.trans (B2.mono B.size)
    have hrd3 := hw3.rd
    clear hw3 B2
    obtain ⟨p0, q0, rfl, -⟩ := id hrd
    obtain ⟨p1, q1, rfl, -⟩ := id hrd2
    obtain ⟨p3, q3, rfl, -⟩ := id hrd3
    clear hrd
    go_wp2_with fail
    refine (readBytes_any _ (putB zs ys) b3 zs.length ys.length w2 hrd3 (by omega) (WalkArith.wf_i64 (by omega))).mono ?_
    rintro e w3 ⟨v4, b4, rfl, -, hw4, B3⟩
    rw [H1.out] at hw4 ⊢
    simp only [rdN, rdB, rdZ] at hw4 ⊢
    have hrd4 := hw4.rd
    replace hrd2 := hrd2.below B3
    replace hrd3 := hrd3.below B3
    replace B := B.trans (B3.mono B.size)
    clear hw4 B3
    go_wp2_with fail
    refine (readBytes_any _ (putB zs ys) b3 zs.length ((ys.length : Int) - 1) w3 hrd3 (by omega) (WalkArith.wf_i64 (by omega))).mono ?_
    rintro e w4 ⟨v5, b5, rfl, -, -, B4⟩
    rw [H2.out]
    simp only [rdN, rdB]
    replace hrd2 := hrd2.below B4
    replace hrd4 := hrd4.below B4
    replace B := B.trans (B4.mono B.size)
    clear B4 hrd3
    go_wp2_with fail
    refine (sameBytes_t _ _ ys b4 r2 w4 hrd4 hrd2 (by omega)).mono ?_
    rintro e w5 ⟨rfl, B5⟩
    replace B := B.trans (B5.mono B.size)
    clear B5 hrd2 hrd4 H1 H2
    have hsz := B.size
    have hown0 := World.ownsRow_lit (base := w.heap.size) (e := 3) (size := 1) w5 #[] 0 hsz (Nat.zero_le _) rfl
    go_wp2_with fail
    go_loopw [12, 13] (fun o i wr => ∃ (ls : List Int) (k : Nat), Hid (ls.length = k) ∧ k ≤ 5 ∧ i = .int .i64 k ∧ Hid (Nums ls) ∧ Below w.heap.size w wr ∧ wr.ownsRow w.heap.size 3 1 o k (ls.map (Value.int .i64))) (fun _ i _ => 6 - (intOf i).toNat)
    case atStart => exact ⟨[], 0, Lib.hid rfl, by omega, rfl, Lib.hid (fun x hx => by simp at hx), B.alloc hsz _, hown0⟩
    case round =>
      clear hown0 B hsz
      obtain ⟨ls, k, hlk, hk5, rfl, hnum, B, hown⟩ := hrel
      have hsz := B.size
      go_wp2_with fail
      refine (at_any a0 len0 cap0 0 wr hlen (by omega) (HY.out _ B)).mono ?_
      rintro e w6 ⟨x, rfl, ⟨hx0, hx1⟩, rfl⟩
      have hm0 := Int.emod_nonneg x (show (6 : Int) ≠ 0 by omega)
      have hm1 := Int.emod_lt_of_pos x (show (0 : Int) < 6 by omega)
      by_cases hlt : (k : Int) < x % 6
      · have hk4 : k ≤ 4 := by omega
        go_wp2_with fail
        refine (at_int a0 len0 cap0 _ wr hlen (by omega) (by omega) (HY.out _ B)).mono ?_
        rintro e w6 ⟨x1, rfl, ⟨h10, h11⟩, rfl⟩
        go_wp2_with fail
        refine (at_int a0 len0 cap0 _ wr hlen (by omega) (by omega) (HY.out _ B)).mono ?_
        rintro e w6 ⟨x2, rfl, ⟨h20, h21⟩, rfl⟩
        have hp0 : 0 ≤ x1 * x2 := Int.mul_nonneg h10 h20
        have hp1 : x1 * x2 ≤ 255 * 255 := Int.mul_le_mul h11 h21 h20 (by omega)
        go_wp2_with fail
        refine (at_int a0 len0 cap0 _ wr hlen (by omega) (by omega) (HY.out _ B)).mono ?_
        rintro e w6 ⟨x3, rfl, ⟨h30, h31⟩, rfl⟩
        have hp2 : 0 ≤ x1 * x2 * x3 := Int.mul_nonneg hp0 h30
        have hp3 : x1 * x2 * x3 ≤ 255 * 255 * 255 := Int.mul_le_mul hp1 h31 h30 (by omega)
        go_wp2_with (at_builtin; refine wpList_append_own _ rfl _ _ 35 rfl w.heap.size 3 i0 (.int .i64 0) 1 8 Try.underlying35 hi hz0 hz1 hz2 rfl (by decide) _ _ _ rfl (hown.alloc _) ⟨wr.heap.size, 0, none⟩ 1 1 [.int .i64 (x1 * x2 * x3)] rfl rfl (cell_one_new _ _ _) (one_cell _ _) ?e3 ?e4 (by simp; omega) ?_)
        case e3 => unfold maxLen; omega
        case e4 => omega
        intro v3 w3 hown3 hgr3 _
        have hB2 : Below w.heap.size w w3 := (B.alloc hsz _).grown hgr3 (by simp; omega) (own_block hown)
        have hown4 : w3.ownsRow w.heap.size 3 1 v3 (k + 1) ((ls ++ [x1 * x2 * x3]).map (Value.int .i64)) := by
          rw [List.map_append]; exact hown3
        have hnum2 : Hid (Nums (ls ++ [x1 * x2 * x3])) := Lib.hid (fun y hy => (List.mem_append.1 hy).elim (hnum.out y) (fun h => by
          simp at h; subst h; exact ⟨hp2, by omega⟩))
        clear hown3 hgr3 hown B hsz
        go_wp2_with fail
        go_roundw
        case rel => exact ⟨ls ++ [x1 * x2 * x3], k + 1, Lib.hid (by rw [List.length_append, hlk.out]; rfl), by omega, by go_num, hnum2, hB2, hown4⟩
        case measure => simp [intOf]; omega
      · have hwr := own_wr (by rw [hlk.out]; exact hown) (fun x hx => by have := hnum.out x hx; exact WalkArith.wf_i64 (by omega))
        obtain ⟨r, hr, hw⟩ := hwr
        have hrd := hw.rd
        have hll : ls.length ≤ 5 := by rw [hlk.out]; exact hk5
        obtain ⟨es, hes⟩ : ∃ es, es = encI ls := ⟨_, rfl⟩
        have H1 : Hid (decI es 0 ls.length = some (ls, (es.length : Int))) := Lib.hid (by rw [hes]; exact decI_enc ls hnum.out (by omega))
        have H2 : Hid (decI es 0 ((ls.length : Int) + 1) = none) := Lib.hid (by rw [hes]; exact decI_more ls hnum.out (by omega))
        have hel : es.length ≤ 6 * ls.length := by rw [hes]; exact encI_len ls
        have HE := encodeInts_any _ ls r wr hrd (by omega)
        rw [← hes] at HE
        have HE := Lib.hid HE
        clear hown hw hr hsz hes
        go_wp2_with fail
        refine HE.out.mono ?_
        rintro e w7 ⟨v7, b7, rfl, -, hw7, B7⟩
        replace hrd := hrd.below B7
        replace B := B.trans (B7.mono B.size)
        have hrd7 := hw7.rd
        clear hw7 B7
        obtain ⟨p0, q0, rfl, -⟩ := id hrd
        obtain ⟨p7, q7, rfl, -⟩ := id hrd7
        have HD := decodeInts_any _ es b7 0 ls.length w7 hrd7 (by omega) (WalkArith.wf_i64 (by omega))
        rw [H1.out] at HD
        simp only [rdN, rdB, rdZ] at HD
        have HD := Lib.hid HD
        clear H1
        go_wp2_with fail
        refine HD.out.mono ?_
        rintro e w8 ⟨v8, b8, rfl, -, hw8, B8⟩
        have hrd8 := hw8.rd
        replace hrd := hrd.below B8
        replace hrd7 := hrd7.below B8
        replace B := B.trans (B8.mono B.size)
        clear hw8 B8
        have HD2 := decodeInts_any _ es b7 0 ((ls.length : Int) + 1) w8 hrd7 (by omega) (WalkArith.wf_i64 (by omega))
        rw [H2.out] at HD2
        simp only [rdN, rdB, rdZ] at HD2
        have HD2 := Lib.hid HD2
        clear H2 HD
        go_wp2_with fail
        refine HD2.out.mono ?_
        rintro e w9 ⟨v9, b9, rfl, -, -, B9⟩
        replace hrd := hrd.below B9
        replace hrd8 := hrd8.below B9
        replace B := B.trans (B9.mono B.size)
        clear B9 hrd7
        go_wp2_with fail
        refine (sameInts_t _ _ ls b8 r w9 hrd8 hrd (by omega)).mono ?_
        rintro e w10 ⟨rfl, B10⟩
        replace B := B.trans (B10.mono B.size)
        clear B10 hrd8 hrd
        go_wp2_with fail
        go_ret
        exact ⟨rfl, B⟩
end Go.Proofs.Ytjigglnepcabmaa
