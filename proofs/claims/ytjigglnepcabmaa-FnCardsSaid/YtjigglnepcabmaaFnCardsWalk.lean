/-
  The walk of the law FnCards, at every code.
-/
import Derived.Test.YtjigglnepcabmaaDraw04
import Derived.Test.YtjigglnepcabmaaParseCard
import Derived.Test.YtjigglnepcabmaaCard
namespace Go.Proofs.Ytjigglnepcabmaa
open Go.RowKit

theorem card_ne : ∀ c : Fin 52, (cardTxt (c.1 : Int)).toList.isEmpty = false := by decide +kernel
theorem card_parse : ∀ c : Fin 52, parseC (cardTxt (c.1 : Int)) = (c.1 : Int) := by decide +kernel
theorem card_back {s : ByteArray} (h : parseC s ≠ -1) : cardTxt (parseC s) = s := by
  unfold parseC at h ⊢
  split
  · rename_i c hc
    have := List.find?_some hc
    simpa using this
  · rename_i hc
    rw [hc] at h
    exact absurd rfl h
theorem isRed_any (c : Int) (w : World) :
    Calls Try.prog 36 #[.int .i64 c] w fun e w' => e = .returned (.bool (suitOf c == 1 || suitOf c == 2)) ∧ w = w' := by
  by_cases h0 : 0 ≤ c
  · by_cases h1 : c ≤ 51
    · have e : suitOf c = c / 13 := by exact suit_in (isCard_yes ⟨h0, h1⟩)
      have hc : c / 13 = 0 ∨ c / 13 = 1 ∨ c / 13 = 2 ∨ c / 13 = 3 := by omega
      rw [e]; clear e
      rcases hc with hc | hc | hc | hc
      · go_enter Try.func36, Try.ntmps36
        go_wp2
        go_ret
        exact ⟨by rw [hc]; rfl, rfl⟩
      · go_enter Try.func36, Try.ntmps36
        go_wp2
        go_ret
        exact ⟨by rw [hc]; rfl, rfl⟩
      · go_enter Try.func36, Try.ntmps36
        go_wp2
        go_ret
        exact ⟨by rw [hc]; rfl, rfl⟩
      · go_enter Try.func36, Try.ntmps36
        go_wp2
        go_ret
        exact ⟨by rw [hc]; rfl, rfl⟩
    · have e : suitOf c = -1 := by exact suit_out (isCard_no (by omega))
      have hd : decide (c ≤ 51) = false := by simp; omega
      rw [e]; clear e
      go_enter Try.func36, Try.ntmps36
      go_wp2
      go_ret
      exact ⟨rfl, rfl⟩
  · have e : suitOf c = -1 := by exact suit_out (isCard_no (by omega))
    rw [e]; clear e
    go_enter Try.func36, Try.ntmps36
    go_wp2
    go_ret
    exact ⟨rfl, rfl⟩

set_option maxRecDepth 100000 in
set_option maxHeartbeats 4000000 in
theorem fnCards_walk (a0 : Option Addr) (len0 cap0 : Nat) (w : World) (hy : BytesB w.heap.size w a0 len0) :
    Calls Try.prog 5 #[.slice a0 len0 cap0] w fun e w' => e = .returned (.bool true) ∧ Below w.heap.size w w' := by
  by_cases hb : 1048576 < len0
  · go_enter Try.func5, Try.ntmps5
    go_wp2_with fail
    refine (big_t _ _ _ _ hb).mono ?_
    rintro e w' ⟨rfl, rfl⟩
    go_wp2_with fail
    go_ret
    exact ⟨rfl, Below.refl _ _⟩
  · have HY : Hid (∀ wx, Below w.heap.size w wx → BytesB wx.heap.size wx a0 len0) := Lib.hid (fun wx hb => (hy.below hb).mono hb.size)
    have hlen : len0 ≤ 1048576 := by omega
    go_enter Try.func5, Try.ntmps5
    go_wp2_with fail
    refine (big_f _ _ _ _ (by omega)).mono ?_
    rintro e w' ⟨rfl, rfl⟩
    go_wp2_with fail
    refine (drawCardText_any a0 len0 cap0 w (by omega) hy).mono ?_
    rintro e w1 ⟨⟨c, wc, rfl⟩, B⟩
    clear hy hb
    go_wp2_with fail
    refine (cardText_any c w1).mono ?_
    rintro e w2 ⟨rfl, B2⟩
    replace B := B.trans (B2.mono B.size)
    clear B2
    obtain ⟨s, hs⟩ : ∃ s, s = cardTxt c := ⟨_, rfl⟩
    rw [← hs]
    by_cases hc : 0 ≤ c ∧ c ≤ 51
    · obtain ⟨k, rfl⟩ := Int.eq_ofNat_of_zero_le hc.1
      have hk : k < 52 := by omega
      have hne : s.toList.isEmpty = false := by rw [hs]; exact card_ne ⟨k, hk⟩
      have Hp : Hid (parseC s = (k : Int)) := Lib.hid (by rw [hs]; exact card_parse ⟨k, hk⟩)
      have HI : Hid (isCard (k : Int) = true) := Lib.hid (isCard_yes hc)
      obtain ⟨S, hS⟩ : ∃ S, suitOf (k : Int) = S := ⟨_, rfl⟩
      obtain ⟨R, hR⟩ : ∃ R, rankOf (k : Int) = R := ⟨_, rfl⟩
      have hS1 : S = (k : Int) / 13 := by rw [← hS]; exact suit_in HI.out
      have hR1 : R = (k : Int) % 13 := by rw [← hR]; exact rank_in HI.out
      have hSb : 0 ≤ S ∧ S ≤ 3 := by omega
      have hRb : 0 ≤ R ∧ R ≤ 12 := by omega
      have hSR : S * 13 + R = (k : Int) := by omega
      have hq : (S * 13 + R != (k : Int)) = false := by simpa using hSR
      have HS := Lib.hid hS
      have HR := Lib.hid hR
      clear hs hS1 hR1 hS hR hSR wc
      go_wp2_with fail
      refine (isCard_r _ _ _ HI.out).mono ?_
      rintro e _w ⟨rfl, rfl⟩
      go_wp2_with fail
      refine (isCard_r _ _ _ HI.out).mono ?_
      rintro e _w ⟨rfl, rfl⟩
      go_wp2_with fail
      refine (parseCard_any s _).mono ?_
      rintro e _w ⟨rfl, rfl⟩
      rw [Hp.out]
      go_wp2_with fail
      refine (suitOf_r _ _ _ HS.out).mono ?_
      rintro e _w ⟨rfl, rfl⟩
      go_wp2_with fail
      refine (rankOf_r _ _ _ HR.out).mono ?_
      rintro e _w ⟨rfl, rfl⟩
      go_wp2_with fail
      refine (isCard_r _ _ _ HI.out).mono ?_
      rintro e _w ⟨rfl, rfl⟩
      go_wp2_with fail
      refine (drawParseCard_any a0 len0 cap0 _ hlen (HY.out _ B)).mono ?_
      rintro e w5 ⟨⟨t, rfl⟩, B5⟩
      replace B := B.trans (B5.mono B.size)
      clear B5
      go_wp2_with fail
      refine (parseCard_any t w5).mono ?_
      rintro e _w ⟨rfl, rfl⟩
      obtain ⟨K, hK⟩ : ∃ K, parseC t = K := ⟨_, rfl⟩
      rw [hK]
      go_wp2_with fail
      refine (drawIsRed_any a0 len0 cap0 _ hlen (HY.out _ B)).mono ?_
      rintro e w6 ⟨⟨r, wr, rfl⟩, B6⟩
      replace B := B.trans (B6.mono B.size)
      clear B6
      by_cases hm : K = -1
      · subst hm
        clear hK
        obtain ⟨U, hU⟩ : ∃ U, suitOf r = U := ⟨_, rfl⟩
        have HU := Lib.hid hU
        have HI2 := Lib.hid (isRed_any r)
        rw [hU] at HI2
        by_cases u1 : U = 1
        · subst u1
          clear hU
          go_wp2_with fail
          refine (HI2.out _).mono ?_
          rintro e _w ⟨rfl, rfl⟩
          go_wp2_with fail
          refine (suitOf_r _ _ _ HU.out).mono ?_
          rintro e _w ⟨rfl, rfl⟩
          go_wp2_with fail
          go_ret
          exact ⟨rfl, B⟩
        · have q1 : (U == 1) = false := by simpa using u1
          rw [q1] at HI2
          clear u1
          by_cases u2 : U = 2
          · subst u2
            clear hU
            go_wp2_with fail
            refine (HI2.out _).mono ?_
            rintro e _w ⟨rfl, rfl⟩
            go_wp2_with fail
            refine (suitOf_r _ _ _ HU.out).mono ?_
            rintro e _w ⟨rfl, rfl⟩
            go_wp2_with fail
            refine (suitOf_r _ _ _ HU.out).mono ?_
            rintro e _w ⟨rfl, rfl⟩
            go_wp2_with fail
            go_ret
            exact ⟨rfl, B⟩
          · have q2 : (U == 2) = false := by simpa using u2
            rw [q2] at HI2
            clear u2 hU
            go_wp2_with fail
            refine (HI2.out _).mono ?_
            rintro e _w ⟨rfl, rfl⟩
            go_wp2_with fail
            refine (suitOf_r _ _ _ HU.out).mono ?_
            rintro e _w ⟨rfl, rfl⟩
            go_wp2_with fail
            refine (suitOf_r _ _ _ HU.out).mono ?_
            rintro e _w ⟨rfl, rfl⟩
            go_wp2_with fail
            go_ret
            exact ⟨rfl, B⟩
      · have hq : (K == -1) = false := by simpa using hm
        have HT := Lib.hid (card_back (s := t) (by rw [hK]; exact hm))
        rw [hK] at HT
        clear hm hK
        go_wp2_with fail
        refine (cardText_any K w6).mono ?_
        rintro e w7 ⟨rfl, B7⟩
        rw [HT.out]
        replace B := B.trans (B7.mono B.size)
        clear B7
        obtain ⟨U, hU⟩ : ∃ U, suitOf r = U := ⟨_, rfl⟩
        have HU := Lib.hid hU
        have HI2 := Lib.hid (isRed_any r)
        rw [hU] at HI2
        by_cases u1 : U = 1
        · subst u1
          clear hU
          go_wp2_with fail
          refine (HI2.out _).mono ?_
          rintro e _w ⟨rfl, rfl⟩
          go_wp2_with fail
          refine (suitOf_r _ _ _ HU.out).mono ?_
          rintro e _w ⟨rfl, rfl⟩
          go_wp2_with fail
          go_ret
          exact ⟨rfl, B⟩
        · have q1 : (U == 1) = false := by simpa using u1
          rw [q1] at HI2
          clear u1
          by_cases u2 : U = 2
          · subst u2
            clear hU
            go_wp2_with fail
            refine (HI2.out _).mono ?_
            rintro e _w ⟨rfl, rfl⟩
            go_wp2_with fail
            refine (suitOf_r _ _ _ HU.out).mono ?_
            rintro e _w ⟨rfl, rfl⟩
            go_wp2_with fail
            refine (suitOf_r _ _ _ HU.out).mono ?_
            rintro e _w ⟨rfl, rfl⟩
            go_wp2_with fail
            go_ret
            exact ⟨rfl, B⟩
          · have q2 : (U == 2) = false := by simpa using u2
            rw [q2] at HI2
            clear u2 hU
            go_wp2_with fail
            refine (HI2.out _).mono ?_
            rintro e _w ⟨rfl, rfl⟩
            go_wp2_with fail
            refine (suitOf_r _ _ _ HU.out).mono ?_
            rintro e _w ⟨rfl, rfl⟩
            go_wp2_with fail
            refine (suitOf_r _ _ _ HU.out).mono ?_
            rintro e _w ⟨rfl, rfl⟩
            go_wp2_with fail
            go_ret
            exact ⟨rfl, B⟩
    · have HI : Hid (isCard c = false) := Lib.hid (isCard_no hc)
      have HS : Hid (suitOf c = -1) := Lib.hid (suit_out HI.out)
      have HR : Hid (rankOf c = -1) := Lib.hid (rank_out HI.out)
      have hs2 : s = ⟨#[]⟩ := by rw [hs]; exact cardTxt_out c hc
      subst hs2
      clear hs hc
      go_wp2_with fail
      refine (isCard_r _ _ _ HI.out).mono ?_
      rintro e _w ⟨rfl, rfl⟩
      go_wp2_with fail
      refine (isCard_r _ _ _ HI.out).mono ?_
      rintro e _w ⟨rfl, rfl⟩
      go_wp2_with fail
      refine (isCard_r _ _ _ HI.out).mono ?_
      rintro e _w ⟨rfl, rfl⟩
      go_wp2_with fail
      refine (suitOf_r _ _ _ HS.out).mono ?_
      rintro e _w ⟨rfl, rfl⟩
      go_wp2_with fail
      refine (rankOf_r _ _ _ HR.out).mono ?_
      rintro e _w ⟨rfl, rfl⟩
      go_wp2_with fail
      refine (drawParseCard_any a0 len0 cap0 _ hlen (HY.out _ B)).mono ?_
      rintro e w5 ⟨⟨t, rfl⟩, B5⟩
      replace B := B.trans (B5.mono B.size)
      clear B5
      go_wp2_with fail
      refine (parseCard_any t w5).mono ?_
      rintro e _w ⟨rfl, rfl⟩
      obtain ⟨K, hK⟩ : ∃ K, parseC t = K := ⟨_, rfl⟩
      rw [hK]
      go_wp2_with fail
      refine (drawIsRed_any a0 len0 cap0 _ hlen (HY.out _ B)).mono ?_
      rintro e w6 ⟨⟨r, wr, rfl⟩, B6⟩
      replace B := B.trans (B6.mono B.size)
      clear B6
      by_cases hm : K = -1
      · subst hm
        clear hK
        obtain ⟨U, hU⟩ : ∃ U, suitOf r = U := ⟨_, rfl⟩
        have HU := Lib.hid hU
        have HI2 := Lib.hid (isRed_any r)
        rw [hU] at HI2
        by_cases u1 : U = 1
        · subst u1
          clear hU
          go_wp2_with fail
          refine (HI2.out _).mono ?_
          rintro e _w ⟨rfl, rfl⟩
          go_wp2_with fail
          refine (suitOf_r _ _ _ HU.out).mono ?_
          rintro e _w ⟨rfl, rfl⟩
          go_wp2_with fail
          go_ret
          exact ⟨rfl, B⟩
        · have q1 : (U == 1) = false := by simpa using u1
          rw [q1] at HI2
          clear u1
          by_cases u2 : U = 2
          · subst u2
            clear hU
            go_wp2_with fail
            refine (HI2.out _).mono ?_
            rintro e _w ⟨rfl, rfl⟩
            go_wp2_with fail
            refine (suitOf_r _ _ _ HU.out).mono ?_
            rintro e _w ⟨rfl, rfl⟩
            go_wp2_with fail
            refine (suitOf_r _ _ _ HU.out).mono ?_
            rintro e _w ⟨rfl, rfl⟩
            go_wp2_with fail
            go_ret
            exact ⟨rfl, B⟩
          · have q2 : (U == 2) = false := by simpa using u2
            rw [q2] at HI2
            clear u2 hU
            go_wp2_with fail
            refine (HI2.out _).mono ?_
            rintro e _w ⟨rfl, rfl⟩
            go_wp2_with fail
            refine (suitOf_r _ _ _ HU.out).mono ?_
            rintro e _w ⟨rfl, rfl⟩
            go_wp2_with fail
            refine (suitOf_r _ _ _ HU.out).mono ?_
            rintro e _w ⟨rfl, rfl⟩
            go_wp2_with fail
            go_ret
            exact ⟨rfl, B⟩
      · have hq : (K == -1) = false := by simpa using hm
        have HT := Lib.hid (card_back (s := t) (by rw [hK]; exact hm))
        rw [hK] at HT
        clear hm hK
        go_wp2_with fail
        refine (cardText_any K w6).mono ?_
        rintro e w7 ⟨rfl, B7⟩
        rw [HT.out]
        replace B := B.trans (B7.mono B.size)
        clear B7
        obtain ⟨U, hU⟩ : ∃ U, suitOf r = U := ⟨_, rfl⟩
        have HU := Lib.hid hU
        have HI2 := Lib.hid (isRed_any r)
        rw [hU] at HI2
        by_cases u1 : U = 1
        · subst u1
          clear hU
          go_wp2_with fail
          refine (HI2.out _).mono ?_
          rintro e _w ⟨rfl, rfl⟩
          go_wp2_with fail
          refine (suitOf_r _ _ _ HU.out).mono ?_
          rintro e _w ⟨rfl, rfl⟩
          go_wp2_with fail
          go_ret
          exact ⟨rfl, B⟩
        · have q1 : (U == 1) = false := by simpa using u1
          rw [q1] at HI2
          clear u1
          by_cases u2 : U = 2
          · subst u2
            clear hU
            go_wp2_with fail
            refine (HI2.out _).mono ?_
            rintro e _w ⟨rfl, rfl⟩
            go_wp2_with fail
            refine (suitOf_r _ _ _ HU.out).mono ?_
            rintro e _w ⟨rfl, rfl⟩
            go_wp2_with fail
            refine (suitOf_r _ _ _ HU.out).mono ?_
            rintro e _w ⟨rfl, rfl⟩
            go_wp2_with fail
            go_ret
            exact ⟨rfl, B⟩
          · have q2 : (U == 2) = false := by simpa using u2
            rw [q2] at HI2
            clear u2 hU
            go_wp2_with fail
            refine (HI2.out _).mono ?_
            rintro e _w ⟨rfl, rfl⟩
            go_wp2_with fail
            refine (suitOf_r _ _ _ HU.out).mono ?_
            rintro e _w ⟨rfl, rfl⟩
            go_wp2_with fail
            refine (suitOf_r _ _ _ HU.out).mono ?_
            rintro e _w ⟨rfl, rfl⟩
            go_wp2_with fail
            go_ret
            exact ⟨rfl, B⟩
end Go.Proofs.Ytjigglnepcabmaa
