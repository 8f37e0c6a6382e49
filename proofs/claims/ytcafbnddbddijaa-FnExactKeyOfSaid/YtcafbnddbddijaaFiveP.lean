/-
  The hands of five, the program's: keyOfFive, KindOf.
-/
import Derived.Test.YtcafbnddbddijaaFiveQ
import Derived.Test.YtcafbnddbddijaaFiveU
import Derived.Test.YtcafbnddbddijaaFiveK
import Derived.Test.YtcafbnddbddijaaBits
namespace Go.Proofs.Ytcafbnddbddijaa
open Go.RowKit
set_option linter.unusedVariables false
set_option linter.unusedSimpArgs false

theorem rank_nat {x : Int} (h : isCard x = true) : rankOf x = (((x % 13).toNat : Nat) : Int) ∧ (x % 13).toNat < 13 := by
  have := isCard_t h
  rw [rank_in h]
  omega
theorem cnt_pos {zs : List Int} {x : Int} (hx : x ∈ zs) (hc : isCard x = true) : 0 < cntR zs (x % 13).toNat := by
  unfold cntR
  exact List.length_pos_of_mem (List.mem_filter.2 ⟨hx, by simpa using (rank_nat hc).1⟩)
theorem canon_len {zs : List Int} (hh : isHand zs = true) (h5 : zs.length = 5) : 2 ≤ (fiveCanon (cntV zs)).length ∧ (fiveCanon (cntV zs)).length ≤ 5 := by
  have hcd := hand_card hh
  have hin : ∀ x ∈ zs, (x % 13).toNat ∈ fiveCanon (cntV zs) := fun x hx => by
    have hc := hcd x hx
    have h1 := cnt_pos hx hc
    have h2 := (rank_nat hc).2
    rw [mem_canon, cntV_at _ h2]
    exact ⟨h2, h1, cntR_le4 hh _⟩
  constructor
  · refine Nat.lt_of_not_le fun hle => ?_
    have hall : ∃ r, ∀ x ∈ zs, (x % 13).toNat = r := by
      match hC : fiveCanon (cntV zs), hle with
      | [], _ => exact ⟨0, fun x hx => by have := hin x hx; rw [hC] at this; simp at this⟩
      | [r], _ => exact ⟨r, fun x hx => by have := hin x hx; rw [hC] at this; simpa using this⟩
    obtain ⟨r, hr⟩ := hall
    have e : cntR zs r = zs.length := by
      unfold cntR
      rw [List.filter_eq_self.2 fun x hx => by
        have h1 := (rank_nat (hcd x hx)).1
        have h2 := hr x hx
        rw [h1, h2]; simp]
    have := cntR_le4 hh r
    omega
  · have hs : fiveCanon (cntV zs) ⊆ zs.map fun x => (x % 13).toNat := fun r hr => by
      obtain ⟨h1, h2, -⟩ := (mem_canon _ r).1 hr
      rw [cntV_at _ h1] at h2
      obtain ⟨x, hx⟩ := List.exists_mem_of_length_pos (show 0 < (zs.filter fun x => decide (rankOf x = (r : Int))).length from h2)
      rw [List.mem_filter] at hx
      have hc := hcd x hx.1
      have e1 : rankOf x = (r : Int) := by simpa using hx.2
      have e2 := (rank_nat hc).1
      exact List.mem_map.2 ⟨x, hx.1, by omega⟩
    have := (canon_nodup (cntV zs)).length_le_of_subset hs
    rw [List.length_map, h5] at this
    exact this
def fiveK (zs : List Int) : Nat := fiveP (fiveCanon (cntV zs)) ((cntV zs).getD ((fiveCanon (cntV zs)).getD 0 0) 0) (oneSuit zs)
theorem canon_lt (n : List Nat) : ∀ x ∈ fiveCanon n, x < 13 := fun x hx => ((mem_canon n x).1 hx).1
theorem pack_bd {k : Nat} {R : List Nat} (hk : k ≤ 8) (hR : ∀ x ∈ R, x < 13) : fivePack k R < 9437184 := by
  rw [pack_eq]; exact packN_bd hk hR (Nat.le_refl 5)
theorem apart_bd {R : List Nat} (b : Bool) (hl : R.length = 5) (hR : ∀ x ∈ R, x < 13) : fiveApart R b < 9437184 := by
  have ht : ∀ x ∈ [(fiveTop R).1], x < 13 := fun x hx => by simp at hx; subst hx; exact top_lt hl hR
  unfold fiveApart
  split
  · exact pack_bd (by omega) ht
  · split
    · exact pack_bd (by omega) hR
    · split
      · exact pack_bd (by omega) ht
      · exact pack_bd (by omega) hR
theorem P2a {R : List Nat} {m : Nat} (b : Bool) (h : R.length = 2) (hm : m = 4) : fiveP R m b = fivePack 7 R := by unfold fiveP; rw [h, hm]; rfl
theorem beq_ne {a c : Nat} (h : a ≠ c) : Nat.beq a c = false := by
  cases e : Nat.beq a c with
  | false => rfl
  | true => exact absurd (Nat.eq_of_beq_eq_true e) h
theorem P2b {R : List Nat} {m : Nat} (b : Bool) (h : R.length = 2) (hm : m ≠ 4) : fiveP R m b = fivePack 6 R := by unfold fiveP; rw [h, beq_ne hm]; rfl
theorem P3a {R : List Nat} {m : Nat} (b : Bool) (h : R.length = 3) (hm : m = 3) : fiveP R m b = fivePack 3 R := by unfold fiveP; rw [h, hm]; rfl
theorem P3b {R : List Nat} {m : Nat} (b : Bool) (h : R.length = 3) (hm : m ≠ 3) : fiveP R m b = fivePack 2 R := by unfold fiveP; rw [h, beq_ne hm]; rfl
theorem P4 {R : List Nat} {m : Nat} (b : Bool) (h : R.length = 4) : fiveP R m b = fivePack 1 R := by unfold fiveP; rw [h]; rfl
theorem P5 {R : List Nat} {m : Nat} (b : Bool) (h : R.length = 5) : fiveP R m b = fiveApart R b := by unfold fiveP; rw [h]; rfl
theorem fiveK_bd {zs : List Int} (hh : isHand zs = true) (h5 : zs.length = 5) : fiveK zs < 9437184 := by
  unfold fiveK
  have hR := canon_lt (cntV zs)
  obtain ⟨h2, h3⟩ := canon_len hh h5
  unfold fiveP
  split
  · exact pack_bd (by omega) hR
  · split
    · exact pack_bd (by omega) hR
    · split
      · exact pack_bd (by omega) hR
      · split
        · exact pack_bd (by omega) hR
        · split
          · exact pack_bd (by omega) hR
          · rename_i c1 c2 c3 c4 c5
            have n2 : (fiveCanon (cntV zs)).length ≠ 2 := fun e => c2 (by rw [e]; rfl)
            have n3 : (fiveCanon (cntV zs)).length ≠ 3 := fun e => c4 (by rw [e]; rfl)
            have n4 : (fiveCanon (cntV zs)).length ≠ 4 := fun e => c5 (by rw [e]; rfl)
            exact apart_bd _ (by omega) hR
theorem keyM_head (n : List Nat) (b : Bool) : ∃ l, fiveKeyM n b = fiveKindM n b :: l := by
  unfold fiveKeyM
  split
  · rename_i h; rw [h]; exact ⟨_, rfl⟩
  · rename_i h; rw [h]; exact ⟨_, rfl⟩
  · exact ⟨_, rfl⟩
theorem fiveK_key {zs : List Int} (hh : isHand zs = true) (h5 : zs.length = 5) : fiveUnpack (fiveK zs) = fiveKeyM (cntV zs) (oneSuit zs) := fiveEqL_eq (hand_ok hh h5)
theorem fiveK_kind {zs : List Int} (hh : isHand zs = true) (h5 : zs.length = 5) : fiveK zs / 1048576 = fiveKindM (cntV zs) (oneSuit zs) := by
  obtain ⟨l, hl⟩ := keyM_head (cntV zs) (oneSuit zs)
  have h := fiveK_key hh h5
  rw [hl] at h
  unfold fiveUnpack at h
  exact (List.cons.inj h).1

set_option maxRecDepth 100000 in
set_option maxHeartbeats 2000000 in
theorem keyOfFive_no (v : Value) (zs : List Int) (b : Nat) (w : World) (h : RdAt .i64 w v zs b) (hl : zs.length ≤ 1048576) (hno : isHand zs = false ∨ zs.length ≠ 5) :
    Calls Try.prog 41 #[v] w fun e w' => e = .returned (.tuple #[.int .u32 0, .bool false]) ∧ Below w.heap.size w w' := by
  have HI := Lib.hid (isHand_any v zs b w h (by omega))
  obtain ⟨a, cap, rfl, -⟩ := id h
  obtain ⟨n, hn⟩ : ∃ n, n = zs.length := ⟨_, rfl⟩
  rw [← hn] at hl hno HI ⊢
  clear hn h
  by_cases h5 : n = 5
  · subst h5
    have hH : isHand zs = false := hno.resolve_right (by omega)
    rw [hH] at HI
    clear hno hH
    go_enter Try.func41, Try.ntmps41
    go_wp2_with fail
    refine HI.out.mono ?_
    rintro e w1 ⟨rfl, B1⟩
    go_wp2_with fail
    go_ret2
    exact ⟨rfl, B1⟩
  · have hq : ((n : Int) == 5) = false := by simp; omega
    have hq2 : ((n : Int) != 5) = true := by simp; omega
    clear h5 hno
    go_enter Try.func41, Try.ntmps41
    go_wp2_with fail
    go_ret2
    exact ⟨rfl, Below.refl _ _⟩

set_option maxRecDepth 100000 in
set_option maxHeartbeats 2000000 in
theorem keyOfFive_yes (v : Value) (zs : List Int) (b : Nat) (w : World) (h : RdAt .i64 w v zs b) (hh : isHand zs = true) (h5 : zs.length = 5) :
    Calls Try.prog 41 #[v] w fun e w' => e = .returned (.tuple #[.int .u32 (fiveK zs : Nat), .bool true]) ∧ Below w.heap.size w w' := by
  have HI := Lib.hid (isHand_any v zs b w h (by omega))
  have HR := Lib.hid h
  obtain ⟨c2, c5⟩ := canon_len hh h5
  have hRl := Lib.hid (canon_lt (cntV zs))
  rw [hh] at HI
  obtain ⟨K, hK⟩ : ∃ K, Hid (K = fiveK zs) := ⟨_, Lib.hid rfl⟩
  obtain ⟨R, hR⟩ : ∃ R, Hid (R = fiveCanon (cntV zs)) := ⟨_, Lib.hid rfl⟩
  obtain ⟨m, hm⟩ : ∃ m, Hid (m = (cntV zs).getD ((fiveCanon (cntV zs)).getD 0 0) 0) := ⟨_, Lib.hid rfl⟩
  obtain ⟨fl, hfl⟩ : ∃ fl, Hid (fl = oneSuit zs) := ⟨_, Lib.hid rfl⟩
  have hKP : Hid (K = fiveP R m fl) := Lib.hid (by rw [hK.out, hR.out, hm.out, hfl.out]; rfl)
  have HN : Hid (∀ W, Below w.heap.size w W → Calls Try.prog 62 #[v] W fun e w' => ∃ v' b', e = .returned (.tuple #[v', .int .i64 (m : Nat)]) ∧ RdAt .i64 w' v' (ofN R) b' ∧ Below W.heap.size W w') := Lib.hid fun W B => by
    rw [hm.out, hR.out]; exact ranks_any v zs b W (h.below B) h5 hh
  have HF : Hid (∀ W, Below w.heap.size w W → Calls Try.prog 65 #[v] W fun e w' => e = .returned (.bool fl) ∧ ∃ q, w' = W.drewN q) := Lib.hid fun W B => by
    rw [hfl.out]; exact oneSuit_q v zs b W (h.below B) h5
  rw [← hR.out] at c2 c5 hRl
  rw [← hK.out]
  obtain ⟨a, cap, rfl, -⟩ := id h
  rw [h5] at HI HN HF ⊢
  clear h hh
  go_enter Try.func41, Try.ntmps41
  go_wp2_with fail
  refine HI.out.mono ?_
  rintro e w1 ⟨rfl, B1⟩
  have HN1 := Lib.hid (HN.out w1 B1)
  go_wp2_with fail
  refine HN1.out.mono ?_
  rintro e w2 ⟨v2, b2, rfl, hrd, B2⟩
  have B12 := B1.trans (B2.mono B1.size)
  have HP : Hid (∀ k : Nat, k ≤ 8 → Calls Try.prog 63 #[.int .i64 k, v2] w2 fun e w' => e = .returned (.int .u32 (fivePack k R : Nat)) ∧ w2 = w') := Lib.hid fun k hk => packKey_any v2 R b2 k w2 hrd c5 hk hRl.out
  have HA : Hid (R.length = 5 → ∀ q, Calls Try.prog 64 #[v2, .bool fl] (w2.drewN q) fun e w' => e = .returned (.int .u32 (fiveApart R fl : Nat)) ∧ Below w2.heap.size (w2.drewN q) w') := Lib.hid fun hl q => keyOfApart_any v2 R b2 fl (w2.drewN q) (hrd.keep fun _ => rfl) hl hRl.out
  have HF2 := Lib.hid (HF.out w2 B12)
  have HBd := Lib.hid (fun q => B12.trans ((below_drewn w2 q).mono B12.size))
  obtain ⟨p2, cap2, rfl, -⟩ := id hrd
  obtain ⟨q, hq⟩ : ∃ q, R.length = q := ⟨_, rfl⟩
  rw [hq] at c2 c5
  rw [ofN_len, hq] at HP HA
  clear hrd HN1 HN HF HI B1 B2
  have hlen : (ofN R).length = q := by rw [ofN_len, hq]
  rw [hlen]
  clear hlen
  have hc : q = 2 ∨ q = 3 ∨ q = 4 ∨ q = 5 := by omega
  clear c2 c5
  rcases hc with rfl | rfl | rfl | rfl
  · by_cases hm4 : m = 4
    · have e : K = fivePack 7 R := by rw [hKP.out]; exact P2a fl hq hm4
      have HP7 := Lib.hid (HP.out 7 (by omega))
      have hmq : ((m : Int) == 4) = true := by simp; omega
      subst e
      clear hm4 hq
      go_wp2_with fail
      refine HP7.out.mono ?_
      rintro e w3 ⟨rfl, rfl⟩
      go_wp2_with fail
      go_ret2
      exact ⟨rfl, B12⟩
    · have e : K = fivePack 6 R := by rw [hKP.out]; exact P2b fl hq hm4
      have HP7 := Lib.hid (HP.out 6 (by omega))
      have hmq : ((m : Int) == 4) = false := by simp; omega
      subst e
      clear hm4 hq
      go_wp2_with fail
      refine HP7.out.mono ?_
      rintro e w3 ⟨rfl, rfl⟩
      go_wp2_with fail
      go_ret2
      exact ⟨rfl, B12⟩
  · by_cases hm4 : m = 3
    · have e : K = fivePack 3 R := by rw [hKP.out]; exact P3a fl hq hm4
      have HP7 := Lib.hid (HP.out 3 (by omega))
      have hmq : ((m : Int) == 3) = true := by simp; omega
      subst e
      clear hm4 hq
      go_wp2_with fail
      refine HP7.out.mono ?_
      rintro e w3 ⟨rfl, rfl⟩
      go_wp2_with fail
      go_ret2
      exact ⟨rfl, B12⟩
    · have e : K = fivePack 2 R := by rw [hKP.out]; exact P3b fl hq hm4
      have HP7 := Lib.hid (HP.out 2 (by omega))
      have hmq : ((m : Int) == 3) = false := by simp; omega
      subst e
      clear hm4 hq
      go_wp2_with fail
      refine HP7.out.mono ?_
      rintro e w3 ⟨rfl, rfl⟩
      go_wp2_with fail
      go_ret2
      exact ⟨rfl, B12⟩
  · have e : K = fivePack 1 R := by rw [hKP.out]; exact P4 fl hq
    have HP7 := Lib.hid (HP.out 1 (by omega))
    subst e
    clear hq
    go_wp2_with fail
    refine HP7.out.mono ?_
    rintro e w3 ⟨rfl, rfl⟩
    go_wp2_with fail
    go_ret2
    exact ⟨rfl, B12⟩
  · have e : K = fiveApart R fl := by rw [hKP.out]; exact P5 fl hq
    have HA5 := Lib.hid (HA.out rfl)
    subst e
    clear hq
    go_wp2_with fail
    refine HF2.out.mono ?_
    rintro e w3 ⟨rfl, q, rfl⟩
    go_wp2_with fail
    refine (HA5.out q).mono ?_
    rintro e w3 ⟨rfl, B4⟩
    go_wp2_with fail
    go_ret2
    exact ⟨rfl, (HBd.out q).trans (B4.mono B12.size)⟩

set_option maxRecDepth 100000 in
theorem kindOf_any (v : Value) (zs : List Int) (b : Nat) (w : World) (h : RdAt .i64 w v zs b) (hl : zs.length ≤ 1048576) :
    Calls Try.prog 21 #[v] w fun e w' => e = .returned (.int .i64 (kindI zs)) ∧ Below w.heap.size w w' := by
  by_cases hy : isHand zs = true ∧ zs.length = 5
  · obtain ⟨hh, h5⟩ := hy
    have HC := Lib.hid (keyOfFive_yes v zs b w h hh h5)
    have hb := fiveK_bd hh h5
    have HK := Lib.hid (fun W => kind5_any (fiveK zs) W (by omega))
    have Hr : Hid (kindI zs = ((fiveK zs / 1048576 : Nat) : Int)) := Lib.hid (by rw [kindI_yes hh h5, fiveK_kind hh h5])
    obtain ⟨a, cap, rfl, -⟩ := id h
    generalize fiveK zs = K at *
    clear h hl hb hh h5
    go_enter Try.func21, Try.ntmps21
    go_wp2_with fail
    refine HC.out.mono ?_
    rintro e w1 ⟨rfl, B1⟩
    go_wp2_with fail
    refine (HK.out w1).mono ?_
    rintro e w2 ⟨rfl, rfl⟩
    go_wp2_with fail
    go_ret
    exact ⟨by rw [Hr.out]; rfl, B1⟩
  · have hno : isHand zs = false ∨ zs.length ≠ 5 := by
      cases hh : isHand zs with
      | false => exact .inl rfl
      | true => exact .inr fun h5 => hy ⟨hh, h5⟩
    have HC := Lib.hid (keyOfFive_no v zs b w h hl hno)
    have Hr := Lib.hid (kindI_no hno)
    obtain ⟨a, cap, rfl, -⟩ := id h
    clear h hl hno hy
    go_enter Try.func21, Try.ntmps21
    go_wp2_with fail
    refine HC.out.mono ?_
    rintro e w1 ⟨rfl, B1⟩
    go_wp2_with fail
    go_ret
    exact ⟨by rw [Hr.out]; rfl, B1⟩
end Go.Proofs.Ytcafbnddbddijaa
