/-
  The walk of the law FnVarints, at every code.
-/
import Derived.Test.YtjigglnepcabmaaRound02
import Derived.Test.YtjigglnepcabmaaRoundV
import Derived.Test.YtjigglnepcabmaaDraw02
import Derived.Test.YtjigglnepcabmaaSameB
import Derived.Deep.RegionHeld3
namespace Go.Proofs.Ytjigglnepcabmaa
open Go.RowKit

theorem rdU_put (zs : List Int) (c : Int) (h : 0 ≤ c ∧ c ≤ 1000000000000) : rdU (putU zs c) zs.length = some (c, ((putU zs c).length : Int)) := by
  obtain ⟨n, rfl⟩ := Int.eq_ofNat_of_zero_le h.1
  have h1 := rdU_uvar zs [] n (by omega)
  unfold putU
  rw [if_pos h, Int.toNat_natCast]
  rw [List.append_nil] at h1
  rw [h1]; simp
theorem putU_none (zs : List Int) (c : Int) (h : c < 0 ∨ 1000000000000 < c) : putU zs c = zs := by
  unfold putU; rw [if_neg (by omega)]
theorem uvar_six (n : Nat) (h : n ≤ 1000000000000) : (uvar n).length ≤ 6 := by
  have := encI_len [(n : Int)]
  simp only [encI, List.foldl, putU] at this
  rw [if_pos (by omega)] at this
  simpa using this
theorem putU_six (m : Int) : (putU [] m).length ≤ 6 := by
  have := encI_len [m]
  simpa [encI] using this

set_option maxRecDepth 100000 in
set_option maxHeartbeats 4000000 in
theorem fnVarints_walk (a0 : Option Addr) (len0 cap0 : Nat) (w : World) (hy : BytesB w.heap.size w a0 len0) :
    Calls Try.prog 3 #[.slice a0 len0 cap0] w fun e w' => e = .returned (.bool true) ∧ Below w.heap.size w w' := by
  by_cases hb : 1048576 < len0
  · go_enter Try.func3, Try.ntmps3
    go_wp2_with fail
    refine (big_t _ _ _ _ hb).mono ?_
    rintro e w' ⟨rfl, rfl⟩
    go_wp2_with fail
    go_ret
    exact ⟨rfl, Below.refl _ _⟩
  · have HY : Hid (∀ wx, Below w.heap.size w wx → BytesB wx.heap.size wx a0 len0) := Lib.hid (fun wx hb => (hy.below hb).mono hb.size)
    have hlen : len0 ≤ 1048576 := by omega
    go_enter Try.func3, Try.ntmps3
    go_wp2_with fail
    refine (big_f _ _ _ _ (by omega)).mono ?_
    rintro e w' ⟨rfl, rfl⟩
    go_wp2_with fail
    refine (drawAppendUvarint_any a0 len0 cap0 w (by omega) hy).mono ?_
    rintro e w1 ⟨⟨v, c, rfl, wc, zs, hzl, r, hw1⟩, B⟩
    have hrd := hw1.rd
    clear hy hw1 hb
    by_cases hc : 0 ≤ c ∧ c ≤ 1000000000000
    · obtain ⟨xs, hxs⟩ : ∃ xs, xs = putU zs c := ⟨_, rfl⟩
      have HA := appendUvarint_any v zs r c w1 hrd (by omega) wc
      have H1 := rdU_put zs c hc
      have hxl : xs.length ≤ 1010 := by
        rw [hxs]; unfold putU; rw [if_pos hc]
        have := uvar_six c.toNat (by omega)
        simp; omega
      rw [← hxs] at HA H1
      have HA := Lib.hid HA
      have H1 := Lib.hid H1
      obtain ⟨p0, q0, rfl, -⟩ := id hrd
      clear hxs hrd
      go_wp2_with fail
      refine HA.out.mono ?_
      rintro e w2 ⟨v3, b3, rfl, -, hw3, B2⟩
      have hrd3 := hw3.rd
      replace B := B.trans (B2.mono B.size)
      clear HA hw3 B2
      obtain ⟨p3, q3, rfl, -⟩ := id hrd3
      go_wp2_with fail
      refine (readUvarint_t _ xs b3 zs.length w2 hrd3 (by omega) (WalkArith.wf_i64 (by omega))).mono ?_
      rintro e w3 ⟨rfl, B3⟩
      rw [H1.out]
      simp only [uX, uN, uB]
      replace B := B.trans (B3.mono B.size)
      clear B3 hrd3 H1
      go_wp2_with fail
      refine (drawReadUvarint_any a0 len0 cap0 _ hlen (HY.out _ B)).mono ?_
      rintro e w4 ⟨⟨v4, o, rfl, ⟨o0, o1⟩, ys, hyl, r4, hw4⟩, B4⟩
      have hrd4 := hw4.rd
      replace B := B.trans (B4.mono B.size)
      clear hw4 B4
      have hby : ∀ x ∈ ys, 0 ≤ x ∧ x ≤ 255 := fun x hx => by
        have := hrd4.wf x hx
        simp [Lit.wf, IntKind.min, IntKind.max, IntKind.signed, IntKind.bits] at this
        omega
      have HR := readUvarint_t v4 ys r4 o w4 hrd4 (by omega) (WalkArith.wf_i64 (by omega))
      cases hu : rdU ys o with
      | none =>
        rw [hu] at HR
        have HS : Hid (∀ wx, Below w.heap.size w wx → Below w4.heap.size w4 wx → Calls Try.prog 20 #[v4, .int .i64 o] wx fun e w' => e = .returned (.tuple #[.int .i64 0, .int .i64 0, .bool false]) ∧ Below wx.heap.size wx w') := Lib.hid (fun wx _ hx => by
          have h1 := sReadUvarint_t v4 ys r4 o wx (hrd4.below hx) (by omega) (WalkArith.wf_i64 (by omega))
          rw [hu] at h1; exact h1)
        have HR := Lib.hid HR
        clear hu hrd4 hby
        go_wp2_with fail
        refine HR.out.mono ?_
        rintro e w5 ⟨rfl, B5⟩
        simp only [uX, uN, uB]
        replace B := B.trans (B5.mono B.size)
        have HS := Lib.hid (HS.out w5 B B5)
        clear B5 HR
        go_wp2_with fail
        refine HS.out.mono ?_
        rintro e w6 ⟨rfl, B6⟩
        replace B := B.trans (B6.mono B.size)
        clear B6 HS
        go_wp2_with fail
        go_ret
        exact ⟨rfl, B⟩
      | some p =>
        obtain ⟨m, nx⟩ := p
        rw [hu] at HR
        obtain ⟨f0, f1, f2, f3, f4⟩ := rdU_some hu
        have hback := rdU_back hby hu
        obtain ⟨s, rfl⟩ := Int.eq_ofNat_of_zero_le f0
        obtain ⟨t, rfl⟩ := Int.eq_ofNat_of_zero_le (show 0 ≤ nx by omega)
        obtain ⟨L, hL⟩ : ∃ L, L = ys.length := ⟨_, rfl⟩
        rcases hrd4.open with ⟨h0, -⟩ | ⟨hz, off, cap, rfl, hcap, hcc⟩
        · subst h0; simp at f4; omega
        have hwf := hrd4.wf
        have hlt4 := hrd4.lt hz
        rw [← hL] at hcap f4 hyl HR ⊢
        have hcap2 := hcap
        unfold maxLen at hcap2
        have HP : Hid (∀ wx : World, Below w4.heap.size w4 wx → RdAt .u8 wx (.slice (some ⟨r4, off + s, none⟩) (t - s) (cap - s)) (putU [] m) r4) := Lib.hid (fun wx hx => by
          have e1 : putU [] m = (ys.drop s).take (t - s) := by
            unfold putU
            rw [if_pos ⟨f1, f2⟩, List.nil_append]
            exact hback.symm
          rw [e1]
          exact RdAt.part (w := wx) hwf (fun j hj => by rw [World.cell?_of_block (w := w4) (a := ⟨r4, off + j, none⟩) (hx.block _ hlt4)]; exact hcc j hj) s (t - s) (cap - s) (by rw [← hL]; omega) ⟨by omega, by unfold maxLen; omega⟩)
        have HR := Lib.hid HR
        have hpl : (putU [] m).length ≤ 6 := putU_six m
        clear hu hrd4 hby hback hL hcap hcc hz hwf hlt4
        go_wp2_with fail
        refine HR.out.mono ?_
        rintro e w5 ⟨rfl, B5⟩
        simp only [uX, uN, uB]
        replace B := B.trans (B5.mono B.size)
        clear HR
        have hsz := B.size
        have HA2 : Hid (∀ wx g, Calls Try.prog 16 #[.slice (some ⟨g, 0, none⟩) 0 0, .int .i64 m] wx fun e w' => ∃ v' b', e = .returned v' ∧ RdAt .u8 w' v' (putU [] m) b' ∧ Below wx.heap.size wx w') := Lib.hid (fun wx g => (appendUvarint_any _ [] 0 m wx (WrAt.nil .u8 _ _ _ 0 ⟨Nat.zero_le _, fun _ => rfl⟩).rd (by simp) (WalkArith.wf_i64 (by omega))).mono (by
          rintro e w' ⟨v', b', h1, -, h2, h3⟩
          exact ⟨v', b', h1, h2.rd, h3⟩))
        have HB5 : Hid (Below w4.heap.size w4 (w5.drew.alloc (.cells #[] 5))) := Lib.hid (B5.drew.alloc B5.drew.size _)
        have HB : Hid (Below w.heap.size w (w5.drew.alloc (.cells #[] 5))) := Lib.hid (B.drew.alloc B.drew.size _)
        have g0 : (0 : Int) ≤ (s : Int) := by omega
        have g1 : (0 : Int) ≤ (t : Int) := by omega
        have g2 : (s : Int) ≤ (t : Int) := by omega
        have g3 : (t : Int) ≤ (cap : Int) := by omega
        have g4 : (s : Int) ≤ (cap : Int) := by omega
        have g5 : s ≤ t := by omega
        have g6 : t ≤ cap := by omega
        have g7 : ¬ cap - s = 0 := by omega
        clear B B5 hsz
        go_wp2_with fail
        go_region_held3 (fun _ => True) (trivial) (first
          | (go_at_call 16; refine (HA2.out _ _).mono ?_; rintro e w6 ⟨v6, b6, rfl, hrd6, B6⟩)
          | (go_at_call 18; refine (sameBytes_t _ _ (putU [] m) b6 r4 w6 hrd6 (HP.out w6 (HB5.out.trans (B6.mono HB5.out.size))) (by omega)).mono ?_; rintro e w7 ⟨rfl, B7⟩))
        all_goals
          have B := HB.out.trans (B6.mono HB.out.size)
          replace B := B.trans (B7.mono B.size)
          clear B7 B6 hrd6 HB HB5 HP
          go_wp2_with fail
          go_ret
          exact ⟨rfl, B⟩
    · have hc2 : c < 0 ∨ 1000000000000 < c := by omega
      have HA := appendUvarint_any v zs r c w1 hrd (by omega) wc
      rw [putU_none zs c hc2] at HA
      have HA := Lib.hid HA
      have H1 : Hid (rdU zs zs.length = none) := Lib.hid (rdU_end zs)
      rcases hc2 with hc3 | hc3
      · obtain ⟨p0, q0, rfl, -⟩ := id hrd
        go_wp2_with fail
        refine HA.out.mono ?_
        rintro e w2 ⟨v3, b3, rfl, -, hw3, B2⟩
        have hrd3 := hw3.rd
        replace hrd := hrd.below B2
        replace B := B.trans (B2.mono B.size)
        clear HA hw3 B2 hc
        go_wp2_with fail
        refine (readUvarint_t _ zs b3 zs.length w2 hrd3 (by omega) (WalkArith.wf_i64 (by omega))).mono ?_
        rintro e w3 ⟨rfl, B3⟩
        rw [H1.out]
        simp only [uX, uN, uB]
        replace hrd := hrd.below B3
        replace hrd3 := hrd3.below B3
        replace B := B.trans (B3.mono B.size)
        clear B3 H1
        go_wp2_with fail
        refine (sameBytes_t _ _ zs b3 r w3 hrd3 hrd (by omega)).mono ?_
        rintro e w3b ⟨rfl, B3⟩
        replace B := B.trans (B3.mono B.size)
        clear B3 hrd3 hrd
        go_wp2_with fail
        refine (drawReadUvarint_any a0 len0 cap0 _ hlen (HY.out _ B)).mono ?_
        rintro e w4 ⟨⟨v4, o, rfl, ⟨o0, o1⟩, ys, hyl, r4, hw4⟩, B4⟩
        have hrd4 := hw4.rd
        replace B := B.trans (B4.mono B.size)
        clear hw4 B4
        have hby : ∀ x ∈ ys, 0 ≤ x ∧ x ≤ 255 := fun x hx => by
          have := hrd4.wf x hx
          simp [Lit.wf, IntKind.min, IntKind.max, IntKind.signed, IntKind.bits] at this
          omega
        have HR := readUvarint_t v4 ys r4 o w4 hrd4 (by omega) (WalkArith.wf_i64 (by omega))
        cases hu : rdU ys o with
        | none =>
          rw [hu] at HR
          have HS : Hid (∀ wx, Below w.heap.size w wx → Below w4.heap.size w4 wx → Calls Try.prog 20 #[v4, .int .i64 o] wx fun e w' => e = .returned (.tuple #[.int .i64 0, .int .i64 0, .bool false]) ∧ Below wx.heap.size wx w') := Lib.hid (fun wx _ hx => by
            have h1 := sReadUvarint_t v4 ys r4 o wx (hrd4.below hx) (by omega) (WalkArith.wf_i64 (by omega))
            rw [hu] at h1; exact h1)
          have HR := Lib.hid HR
          clear hu hrd4 hby
          go_wp2_with fail
          refine HR.out.mono ?_
          rintro e w5 ⟨rfl, B5⟩
          simp only [uX, uN, uB]
          replace B := B.trans (B5.mono B.size)
          have HS := Lib.hid (HS.out w5 B B5)
          clear B5 HR
          go_wp2_with fail
          refine HS.out.mono ?_
          rintro e w6 ⟨rfl, B6⟩
          replace B := B.trans (B6.mono B.size)
          clear B6 HS
          go_wp2_with fail
          go_ret
          exact ⟨rfl, B⟩
        | some p =>
          obtain ⟨m, nx⟩ := p
          rw [hu] at HR
          obtain ⟨f0, f1, f2, f3, f4⟩ := rdU_some hu
          have hback := rdU_back hby hu
          obtain ⟨s, rfl⟩ := Int.eq_ofNat_of_zero_le f0
          obtain ⟨t, rfl⟩ := Int.eq_ofNat_of_zero_le (show 0 ≤ nx by omega)
          obtain ⟨L, hL⟩ : ∃ L, L = ys.length := ⟨_, rfl⟩
          rcases hrd4.open with ⟨h0, -⟩ | ⟨hz, off, cap, rfl, hcap, hcc⟩
          · subst h0; simp at f4; omega
          have hwf := hrd4.wf
          have hlt4 := hrd4.lt hz
          rw [← hL] at hcap f4 hyl HR ⊢
          have hcap2 := hcap
          unfold maxLen at hcap2
          have HP : Hid (∀ wx : World, Below w4.heap.size w4 wx → RdAt .u8 wx (.slice (some ⟨r4, off + s, none⟩) (t - s) (cap - s)) (putU [] m) r4) := Lib.hid (fun wx hx => by
            have e1 : putU [] m = (ys.drop s).take (t - s) := by
              unfold putU
              rw [if_pos ⟨f1, f2⟩, List.nil_append]
              exact hback.symm
            rw [e1]
            exact RdAt.part (w := wx) hwf (fun j hj => by rw [World.cell?_of_block (w := w4) (a := ⟨r4, off + j, none⟩) (hx.block _ hlt4)]; exact hcc j hj) s (t - s) (cap - s) (by rw [← hL]; omega) ⟨by omega, by unfold maxLen; omega⟩)
          have HR := Lib.hid HR
          have hpl : (putU [] m).length ≤ 6 := putU_six m
          clear hu hrd4 hby hback hL hcap hcc hz hwf hlt4
          go_wp2_with fail
          refine HR.out.mono ?_
          rintro e w5 ⟨rfl, B5⟩
          simp only [uX, uN, uB]
          replace B := B.trans (B5.mono B.size)
          clear HR
          have hsz := B.size
          have HA2 : Hid (∀ wx g, Calls Try.prog 16 #[.slice (some ⟨g, 0, none⟩) 0 0, .int .i64 m] wx fun e w' => ∃ v' b', e = .returned v' ∧ RdAt .u8 w' v' (putU [] m) b' ∧ Below wx.heap.size wx w') := Lib.hid (fun wx g => (appendUvarint_any _ [] 0 m wx (WrAt.nil .u8 _ _ _ 0 ⟨Nat.zero_le _, fun _ => rfl⟩).rd (by simp) (WalkArith.wf_i64 (by omega))).mono (by
            rintro e w' ⟨v', b', h1, -, h2, h3⟩
            exact ⟨v', b', h1, h2.rd, h3⟩))
          have HB5 : Hid (Below w4.heap.size w4 (w5.drew.alloc (.cells #[] 5))) := Lib.hid (B5.drew.alloc B5.drew.size _)
          have HB : Hid (Below w.heap.size w (w5.drew.alloc (.cells #[] 5))) := Lib.hid (B.drew.alloc B.drew.size _)
          have g0 : (0 : Int) ≤ (s : Int) := by omega
          have g1 : (0 : Int) ≤ (t : Int) := by omega
          have g2 : (s : Int) ≤ (t : Int) := by omega
          have g3 : (t : Int) ≤ (cap : Int) := by omega
          have g4 : (s : Int) ≤ (cap : Int) := by omega
          have g5 : s ≤ t := by omega
          have g6 : t ≤ cap := by omega
          have g7 : ¬ cap - s = 0 := by omega
          clear B B5 hsz
          go_wp2_with fail
          go_region_held3 (fun _ => True) (trivial) (first
            | (go_at_call 16; refine (HA2.out _ _).mono ?_; rintro e w6 ⟨v6, b6, rfl, hrd6, B6⟩)
            | (go_at_call 18; refine (sameBytes_t _ _ (putU [] m) b6 r4 w6 hrd6 (HP.out w6 (HB5.out.trans (B6.mono HB5.out.size))) (by omega)).mono ?_; rintro e w7 ⟨rfl, B7⟩))
          all_goals
            have B := HB.out.trans (B6.mono HB.out.size)
            replace B := B.trans (B7.mono B.size)
            clear B7 B6 hrd6 HB HB5 HP
            go_wp2_with fail
            go_ret
            exact ⟨rfl, B⟩
      · obtain ⟨p0, q0, rfl, -⟩ := id hrd
        go_wp2_with fail
        refine HA.out.mono ?_
        rintro e w2 ⟨v3, b3, rfl, -, hw3, B2⟩
        have hrd3 := hw3.rd
        replace hrd := hrd.below B2
        replace B := B.trans (B2.mono B.size)
        clear HA hw3 B2 hc
        go_wp2_with fail
        refine (readUvarint_t _ zs b3 zs.length w2 hrd3 (by omega) (WalkArith.wf_i64 (by omega))).mono ?_
        rintro e w3 ⟨rfl, B3⟩
        rw [H1.out]
        simp only [uX, uN, uB]
        replace hrd := hrd.below B3
        replace hrd3 := hrd3.below B3
        replace B := B.trans (B3.mono B.size)
        clear B3 H1
        go_wp2_with fail
        refine (sameBytes_t _ _ zs b3 r w3 hrd3 hrd (by omega)).mono ?_
        rintro e w3b ⟨rfl, B3⟩
        replace B := B.trans (B3.mono B.size)
        clear B3 hrd3 hrd
        go_wp2_with fail
        refine (drawReadUvarint_any a0 len0 cap0 _ hlen (HY.out _ B)).mono ?_
        rintro e w4 ⟨⟨v4, o, rfl, ⟨o0, o1⟩, ys, hyl, r4, hw4⟩, B4⟩
        have hrd4 := hw4.rd
        replace B := B.trans (B4.mono B.size)
        clear hw4 B4
        have hby : ∀ x ∈ ys, 0 ≤ x ∧ x ≤ 255 := fun x hx => by
          have := hrd4.wf x hx
          simp [Lit.wf, IntKind.min, IntKind.max, IntKind.signed, IntKind.bits] at this
          omega
        have HR := readUvarint_t v4 ys r4 o w4 hrd4 (by omega) (WalkArith.wf_i64 (by omega))
        cases hu : rdU ys o with
        | none =>
          rw [hu] at HR
          have HS : Hid (∀ wx, Below w.heap.size w wx → Below w4.heap.size w4 wx → Calls Try.prog 20 #[v4, .int .i64 o] wx fun e w' => e = .returned (.tuple #[.int .i64 0, .int .i64 0, .bool false]) ∧ Below wx.heap.size wx w') := Lib.hid (fun wx _ hx => by
            have h1 := sReadUvarint_t v4 ys r4 o wx (hrd4.below hx) (by omega) (WalkArith.wf_i64 (by omega))
            rw [hu] at h1; exact h1)
          have HR := Lib.hid HR
          clear hu hrd4 hby
          go_wp2_with fail
          refine HR.out.mono ?_
          rintro e w5 ⟨rfl, B5⟩
          simp only [uX, uN, uB]
          replace B := B.trans (B5.mono B.size)
          have HS := Lib.hid (HS.out w5 B B5)
          clear B5 HR
          go_wp2_with fail
          refine HS.out.mono ?_
          rintro e w6 ⟨rfl, B6⟩
          replace B := B.trans (B6.mono B.size)
          clear B6 HS
          go_wp2_with fail
          go_ret
          exact ⟨rfl, B⟩
        | some p =>
          obtain ⟨m, nx⟩ := p
          rw [hu] at HR
          obtain ⟨f0, f1, f2, f3, f4⟩ := rdU_some hu
          have hback := rdU_back hby hu
          obtain ⟨s, rfl⟩ := Int.eq_ofNat_of_zero_le f0
          obtain ⟨t, rfl⟩ := Int.eq_ofNat_of_zero_le (show 0 ≤ nx by omega)
          obtain ⟨L, hL⟩ : ∃ L, L = ys.length := ⟨_, rfl⟩
          rcases hrd4.open with ⟨h0, -⟩ | ⟨hz, off, cap, rfl, hcap, hcc⟩
          · subst h0; simp at f4; omega
          have hwf := hrd4.wf
          have hlt4 := hrd4.lt hz
          rw [← hL] at hcap f4 hyl HR ⊢
          have hcap2 := hcap
          unfold maxLen at hcap2
          have HP : Hid (∀ wx : World, Below w4.heap.size w4 wx → RdAt .u8 wx (.slice (some ⟨r4, off + s, none⟩) (t - s) (cap - s)) (putU [] m) r4) := Lib.hid (fun wx hx => by
            have e1 : putU [] m = (ys.drop s).take (t - s) := by
              unfold putU
              rw [if_pos ⟨f1, f2⟩, List.nil_append]
              exact hback.symm
            rw [e1]
            exact RdAt.part (w := wx) hwf (fun j hj => by rw [World.cell?_of_block (w := w4) (a := ⟨r4, off + j, none⟩) (hx.block _ hlt4)]; exact hcc j hj) s (t - s) (cap - s) (by rw [← hL]; omega) ⟨by omega, by unfold maxLen; omega⟩)
          have HR := Lib.hid HR
          have hpl : (putU [] m).length ≤ 6 := putU_six m
          clear hu hrd4 hby hback hL hcap hcc hz hwf hlt4
          go_wp2_with fail
          refine HR.out.mono ?_
          rintro e w5 ⟨rfl, B5⟩
          simp only [uX, uN, uB]
          replace B := B.trans (B5.mono B.size)
          clear HR
          have hsz := B.size
          have HA2 : Hid (∀ wx g, Calls Try.prog 16 #[.slice (some ⟨g, 0, none⟩) 0 0, .int .i64 m] wx fun e w' => ∃ v' b', e = .returned v' ∧ RdAt .u8 w' v' (putU [] m) b' ∧ Below wx.heap.size wx w') := Lib.hid (fun wx g => (appendUvarint_any _ [] 0 m wx (WrAt.nil .u8 _ _ _ 0 ⟨Nat.zero_le _, fun _ => rfl⟩).rd (by simp) (WalkArith.wf_i64 (by omega))).mono (by
            rintro e w' ⟨v', b', h1, -, h2, h3⟩
            exact ⟨v', b', h1, h2.rd, h3⟩))
          have HB5 : Hid (Below w4.heap.size w4 (w5.drew.alloc (.cells #[] 5))) := Lib.hid (B5.drew.alloc B5.drew.size _)
          have HB : Hid (Below w.heap.size w (w5.drew.alloc (.cells #[] 5))) := Lib.hid (B.drew.alloc B.drew.size _)
          have g0 : (0 : Int) ≤ (s : Int) := by omega
          have g1 : (0 : Int) ≤ (t : Int) := by omega
          have g2 : (s : Int) ≤ (t : Int) := by omega
          have g3 : (t : Int) ≤ (cap : Int) := by omega
          have g4 : (s : Int) ≤ (cap : Int) := by omega
          have g5 : s ≤ t := by omega
          have g6 : t ≤ cap := by omega
          have g7 : ¬ cap - s = 0 := by omega
          clear B B5 hsz
          go_wp2_with fail
          go_region_held3 (fun _ => True) (trivial) (first
            | (go_at_call 16; refine (HA2.out _ _).mono ?_; rintro e w6 ⟨v6, b6, rfl, hrd6, B6⟩)
            | (go_at_call 18; refine (sameBytes_t _ _ (putU [] m) b6 r4 w6 hrd6 (HP.out w6 (HB5.out.trans (B6.mono HB5.out.size))) (by omega)).mono ?_; rintro e w7 ⟨rfl, B7⟩))
          all_goals
            have B := HB.out.trans (B6.mono HB.out.size)
            replace B := B.trans (B7.mono B.size)
            clear B7 B6 hrd6 HB HB5 HP
            go_wp2_with fail
            go_ret
            exact ⟨rfl, B⟩
end Go.Proofs.Ytjigglnepcabmaa
