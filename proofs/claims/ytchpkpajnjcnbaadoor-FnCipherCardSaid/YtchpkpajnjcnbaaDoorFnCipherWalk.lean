/-
  The walk of the law FnCipher, at every code.
-/
import Derived.Test.YtchpkpajnjcnbaaDoorDraw03
import Derived.Test.YtchpkpajnjcnbaaDoorSameB
import Derived.Test.YtchpkpajnjcnbaaDoorEnc
namespace Go.Proofs.YtchpkpajnjcnbaaDoor
open Go.RowKit

theorem encR_at (c : Int) (zs : List Int) (n i : Nat) (h : i < n) : (encR c zs n).getD i 0 = encAt c zs i := by simp [encR, List.getD, h]
theorem decR_at (c : Int) (zs : List Int) (n i : Nat) (h : i < n) : (decR c zs n).getD i 0 = decAt c zs i := by simp [decR, List.getD, h]
theorem dec_enc (c : Int) (zs : List Int) (hw : ∀ x ∈ zs, (Lit.int .u8 x).wf = true) : decR c (encR c zs zs.length) (encR c zs zs.length).length = zs := by
  refine List.ext_getElem (by rw [decR_len, encR_len]) fun i h1 h2 => ?_
  have hb := bounds_u8 (hw zs[i] (List.getElem_mem h2))
  have hk := keyAt_bd c i
  have e : zs.getD i 0 = zs[i] := by simp [List.getD, h2]
  simp only [decR, List.getElem_map, List.getElem_range, decAt]
  rw [encR_at c zs _ i h2, encAt, e]
  omega
theorem enc_dec (c : Int) (zs : List Int) (hw : ∀ x ∈ zs, (Lit.int .u8 x).wf = true) : encR c (decR c zs zs.length) (decR c zs zs.length).length = zs := by
  refine List.ext_getElem (by rw [encR_len, decR_len]) fun i h1 h2 => ?_
  have hb := bounds_u8 (hw zs[i] (List.getElem_mem h2))
  have hk := keyAt_bd c i
  have e : zs.getD i 0 = zs[i] := by simp [List.getD, h2]
  simp only [encR, List.getElem_map, List.getElem_range, encAt]
  rw [decR_at c zs _ i h2, decAt, e]
  omega

set_option maxRecDepth 100000 in
set_option maxHeartbeats 2000000 in
theorem fnCipher_walk (a0 : Option Addr) (len0 cap0 : Nat) (s0 s1 : Addr) (w : World) (hy : BytesB w.heap.size w a0 len0) (hS : Sent s0 s1 w) :
    Calls Tryd.prog 8 #[.slice a0 len0 cap0] w fun e w' => e = .returned (.bool true) ∧ Below w.heap.size w w' := by
  by_cases hb : 1048576 < len0
  · go_enter Tryd.func8, Tryd.ntmps8
    go_wp2_with fail
    refine (big_t _ _ _ _ hb).mono ?_
    rintro e w' ⟨rfl, rfl⟩
    go_wp2_with fail
    go_ret
    exact ⟨rfl, Below.refl _ _⟩
  · have HS : Hid (∀ wx, Below w.heap.size w wx → Sent s0 s1 wx) := Lib.hid (fun wx hb => hS.below hb (Nat.le_refl _))
    clear hS
    go_enter Tryd.func8, Tryd.ntmps8
    go_wp2_with fail
    refine (big_f _ _ _ _ (by omega)).mono ?_
    rintro e w' ⟨rfl, rfl⟩
    go_wp2_with fail
    refine (drawEncrypt_any a0 len0 cap0 w (by omega) hy).mono ?_
    rintro e w1 ⟨⟨k, v, rfl, hk, zs, hzl, r, hwr⟩, B⟩
    have hrd := hwr.rd
    have hwf := Lib.hid hrd.wf
    have Hk := Lib.hid hk
    have Hde := Lib.hid (dec_enc k zs hwf.out)
    have Hed := Lib.hid (enc_dec k zs hwf.out)
    have hle : (encR k zs zs.length).length ≤ 1048576 := by rw [encR_len]; omega
    have hld : (decR k zs zs.length).length ≤ 1048576 := by rw [decR_len]; omega
    have Hle := Lib.hid hle
    have Hld := Lib.hid hld
    have HeL : Hid ((encR k zs zs.length).length = zs.length) := Lib.hid (encR_len _ _ _)
    clear hk hwr hy hle hld
    go_wp2_with fail
    refine (encrypt_any s0 s1 k v zs r w1 hrd (by omega) Hk.out (HS.out _ B)).mono ?_
    rintro e w2 ⟨v2, r2, rfl, -, hw2, b2⟩
    replace hrd := hrd.below b2
    replace B := B.trans (b2.mono B.size)
    have hrd2 := hw2.rd
    clear b2 hw2
    go_wp2_with fail
    refine (decrypt_any s0 s1 k v2 _ r2 w2 hrd2 Hle.out Hk.out (HS.out _ B)).mono ?_
    rintro e w3 ⟨v3, r3, rfl, -, hw3, b3⟩
    rw [Hde.out] at hw3
    replace hrd := hrd.below b3
    replace B := B.trans (b3.mono B.size)
    have hrd3 := hw3.rd
    clear b3 hw3 hrd2
    go_wp2_with fail
    refine (sameBytes_t _ _ zs r3 r w3 hrd3 hrd (by omega)).mono ?_
    rintro e w4 ⟨rfl, b4⟩
    replace hrd := hrd.below b4
    replace B := B.trans (b4.mono B.size)
    clear b4 hrd3
    go_wp2_with fail
    refine (decrypt_any s0 s1 k v zs r w4 hrd (by omega) Hk.out (HS.out _ B)).mono ?_
    rintro e w5 ⟨v5, r5, rfl, -, hw5, b5⟩
    replace hrd := hrd.below b5
    replace B := B.trans (b5.mono B.size)
    have hrd5 := hw5.rd
    clear b5 hw5
    go_wp2_with fail
    refine (encrypt_any s0 s1 k v5 _ r5 w5 hrd5 Hld.out Hk.out (HS.out _ B)).mono ?_
    rintro e w6 ⟨v6, r6, rfl, -, hw6, b6⟩
    rw [Hed.out] at hw6
    replace hrd := hrd.below b6
    replace B := B.trans (b6.mono B.size)
    have hrd6 := hw6.rd
    clear b6 hw6 hrd5
    go_wp2_with fail
    refine (sameBytes_t _ _ zs r6 r w6 hrd6 hrd (by omega)).mono ?_
    rintro e w7 ⟨rfl, b7⟩
    replace hrd := hrd.below b7
    replace B := B.trans (b7.mono B.size)
    clear b7 hrd6
    obtain ⟨p0, q0, rfl, -⟩ := id hrd
    go_wp2_with fail
    refine (encrypt_any s0 s1 k _ zs r w7 hrd (by omega) Hk.out (HS.out _ B)).mono ?_
    rintro e w8 ⟨v8, r8, rfl, -, hw8, b8⟩
    replace B := B.trans (b8.mono B.size)
    obtain ⟨p8, q8, rfl, -⟩ := id hw8
    rw [HeL.out]
    clear b8 hw8 hrd
    go_wp2_with fail
    go_ret
    exact ⟨rfl, B⟩
end Go.Proofs.YtchpkpajnjcnbaaDoor
