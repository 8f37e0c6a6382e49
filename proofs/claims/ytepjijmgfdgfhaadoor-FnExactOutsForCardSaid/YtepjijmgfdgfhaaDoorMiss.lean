/-
  Missing, both sides.
-/
import Derived.Test.YtepjijmgfdgfhaaDoorCards0
namespace Go.Proofs.YtepjijmgfdgfhaaDoor
open Go.RowKit
set_option linter.unusedVariables false
set_option linter.unusedSimpArgs false

def missing (zs : List Int) : List Int := ((List.range 52).filter (fun (j : Nat) => !decide ((j : Int) ∈ zs))).map (fun (j : Nat) => (j : Int))
def missN (s : Nat) : Nat := (BitVec.ofInt 64 ((4503599627370495 : Nat) : Int) &&& ~~~ BitVec.ofInt 64 (s : Int)).toNat
theorem missN_lt (s : Nat) : missN s < 2 ^ 52 := by
  unfold missN
  rw [BitVec.toNat_and]
  refine Nat.lt_of_le_of_lt Nat.and_le_left ?_
  decide
theorem miss_bits (s : Nat) : bits .andNot .u64 4503599627370495 (s : Int) = ((missN s : Nat) : Int) := by
  have h := missN_lt s
  show IntKind.u64.wrap ((BitVec.ofInt 64 ((4503599627370495 : Nat) : Int) &&& ~~~ BitVec.ofInt 64 (s : Int)).toNat : Int) = _
  show IntKind.u64.wrap ((missN s : Nat) : Int) = _
  rw [IntKind.wrap_u64]; omega
theorem missN_bit (s : Nat) (hs : s < 2 ^ 52) (j : Nat) (hj : j < 52) : (missN s).testBit j = !s.testBit j := by
  unfold missN
  rw [← BitVec.getLsbD, BitVec.getLsbD_and, BitVec.getLsbD_not]
  have h1 : (BitVec.ofInt 64 ((4503599627370495 : Nat) : Int)).getLsbD j = true := by
    rw [BitVec.ofInt_natCast, BitVec.getLsbD_ofNat]
    have : (4503599627370495 : Nat) = 2 ^ 52 - 1 := by decide
    rw [this, Nat.testBit_two_pow_sub_one]; simp; omega
  have h2 : (BitVec.ofInt 64 (s : Int)).getLsbD j = s.testBit j := by
    rw [BitVec.ofInt_natCast, BitVec.getLsbD_ofNat]; simp; omega
  rw [h1, h2]; simp; omega
theorem cards_miss (zs : List Int) : cardsN (missN (setN zs)) = missing zs := by
  unfold cardsN bitsOf missing
  congr 1
  apply List.filter_congr
  intro j hj
  simp at hj
  rw [missN_bit _ (setN_lt zs) j hj, setN_bit]
  have : isCard (j : Int) = true := by unfold isCard; simp; omega
  simp [this]
theorem missing_len (zs : List Int) : (missing zs).length ≤ 52 := by rw [← cards_miss]; exact cards_len _
set_option maxRecDepth 100000 in
theorem missing_any (v : Value) (zs : List Int) (b : Nat) (w : World) (h : RdAt .i64 w v zs b) (hl : zs.length ≤ 1099511627776) (hT : TabZ w) :
    Calls Tryd.prog 8 #[v] w fun e w' => ∃ v' b', e = .returned v' ∧ w.heap.size ≤ b' ∧ WrAt .i64 w' v' (missing zs) b' ∧ Below w.heap.size w w' := by
  have HS := Lib.hid (setOf_any v zs b w h hl)
  have hm := miss_bits (setN zs)
  have HC := Lib.hid (cards_any (missN (setN zs)) w (missN_lt _) hT)
  rw [cards_miss] at HC
  obtain ⟨a, cap, rfl, -⟩ := id h
  clear h hT
  generalize missN (setN zs) = m at *
  generalize setN zs = s at *
  generalize missing zs = M at *
  go_enter Tryd.func8, Tryd.ntmps8
  go_wp2_with fail
  refine HS.out.mono ?_
  rintro e _w ⟨rfl, rfl⟩
  go_wp2_with fail
  refine HC.out.mono ?_
  rintro e w1 ⟨v', b', rfl, hb, hw, B⟩
  have HW := Lib.hid hw
  clear hw
  go_wp2_with fail
  go_ret
  exact ⟨_, b', rfl, hb, HW.out, B⟩
theorem miss_take (zs : List Int) (k : Nat) : ((List.range (k + 1)).filter (fun (j : Nat) => !decide ((j : Int) ∈ zs))).map (fun (j : Nat) => (j : Int)) = ((List.range k).filter (fun (j : Nat) => !decide ((j : Int) ∈ zs))).map (fun (j : Nat) => (j : Int)) ++ if ((k : Int) ∈ zs) then [] else [(k : Int)] := by
  rw [List.range_succ, List.filter_append, List.map_append]
  congr 1
  by_cases h : (k : Int) ∈ zs <;> simp [h]
def missTo (zs : List Int) (k : Nat) : List Int := ((List.range k).filter (fun (j : Nat) => !decide ((j : Int) ∈ zs))).map (fun (j : Nat) => (j : Int))
set_option maxRecDepth 100000 in
set_option maxHeartbeats 1000000 in
theorem sMissing2_any (v : Value) (zs : List Int) (b : Nat) (w : World) (h : RdAt .i64 w v zs b) (hl : zs.length ≤ 1099511627776) :
    Calls Tryd.prog 6 #[v] w fun e w' => ∃ v' b', e = .returned v' ∧ w.heap.size ≤ b' ∧ WrAt .i64 w' v' (missing zs) b' ∧ Below w.heap.size w w' := by
  obtain ⟨i0, hi, hz0, hz1, hz2⟩ := info_parts info_i64
  have hown0 := World.ownsRow_lit (base := w.heap.size) (e := 3) (size := 1) w #[] 0 (Nat.le_refl _) (Nat.zero_le _) rfl
  have H0 : Hid ((w.alloc (.cells #[] 3)).ownsRow w.heap.size 3 1 (.slice (some ⟨w.heap.size, 0, none⟩) 0 0) (missTo zs 0).length ((missTo zs 0).map (Value.int .i64))) := Lib.hid (by simpa [missTo] using hown0)
  have HC := Lib.hid (fun wx (hb : Below w.heap.size w wx) (c : Int) => sHasCard_any v zs b c wx (h.below hb) hl)
  have HM := Lib.hid (fun k => miss_take zs k)
  have Hfin : Hid (missTo zs 52 = missing zs) := Lib.hid rfl
  obtain ⟨a, cap, rfl, -⟩ := id h
  clear h hown0
  go_enter Tryd.func6, Tryd.ntmps6
  go_wp2_with fail
  go_loopw [3, 4] (fun o i wr => ∃ k : Nat, k ≤ 52 ∧ i = .int .i64 k ∧ Below w.heap.size w wr ∧ Hid ((missTo zs k).length ≤ k) ∧ Hid (wr.ownsRow w.heap.size 3 1 o (missTo zs k).length ((missTo zs k).map (Value.int .i64)))) (fun _ i _ => 52 - (intOf i).toNat)
  case atStart => exact ⟨0, Nat.zero_le _, rfl, (Below.refl _ _).alloc (Nat.le_refl _) _, Lib.hid (by simp [missTo]), H0⟩
  case round =>
    clear H0
    obtain ⟨k, hk, rfl, B, hlen, hown⟩ := hrel
    by_cases hlt : k < 52
    · have hst : missTo zs (k + 1) = missTo zs k ++ if ((k : Int) ∈ zs) then [] else [(k : Int)] := HM.out k
      have HK := Lib.hid (HC.out wr B (k : Int))
      obtain ⟨po, co, eo⟩ := own_shape hown.out
      subst eo
      obtain ⟨F, hF⟩ : ∃ F, F = missTo zs k := ⟨_, rfl⟩
      have HFe := Lib.hid hF
      rw [← hF] at hst hlen hown ⊢
      clear hF
      have hlen1 := hlen.out
      cases hq : hasI zs (k : Int) with
      | true =>
        rw [hq] at HK
        have hin : (k : Int) ∈ zs := by unfold hasI at hq; simpa using hq
        rw [if_pos hin, List.append_nil] at hst
        have h1 : Hid ((missTo zs (k + 1)).length ≤ k + 1) := Lib.hid (by rw [hst]; omega)
        have h2 : Hid (wr.ownsRow w.heap.size 3 1 (.slice po F.length co) (missTo zs (k + 1)).length ((missTo zs (k + 1)).map (Value.int .i64))) := Lib.hid (by rw [hst]; exact hown.out)
        clear hst hin hq hown
        go_wp2_with fail
        refine HK.out.mono ?_
        rintro e _w ⟨rfl, rfl⟩
        go_wp2_with fail
        go_roundw
        case rel => exact ⟨k + 1, by omega, by go_num, B, h1, h2⟩
        case measure => simp [intOf]; omega
      | false =>
        rw [hq] at HK
        have hin : ¬ (k : Int) ∈ zs := by unfold hasI at hq; simpa using hq
        rw [if_neg hin] at hst
        have h1 : Hid ((missTo zs (k + 1)).length ≤ k + 1) := Lib.hid (by rw [hst, List.length_append]; simp; omega)
        have Hst := Lib.hid hst
        have hown0 := hown.out
        clear hst hin hq hown
        go_wp2_with fail
        refine HK.out.mono ?_
        rintro e _w ⟨rfl, rfl⟩
        go_wp2_with (at_builtin; refine wpList_append_own _ rfl _ _ 22 rfl w.heap.size 3 i0 (.int .i64 0) 1 8 Tryd.underlying22 hi hz0 hz1 hz2 rfl (by decide) _ _ _ rfl (hown0.alloc _) ⟨wr.heap.size, 0, none⟩ 1 1 [.int .i64 (k : Nat)] rfl rfl (cell_one_new _ _ _) (one_cell _ _) ?e3 ?e4 (by have := B.size; simp; omega) ?_)
        case e3 => unfold maxLen; omega
        case e4 => omega
        intro v2 w2 hown2 hgr2 _
        have hB2 : Below w.heap.size w w2 := (B.alloc B.size _).grown hgr2 (by have := B.size; simp; omega) (own_block hown0)
        have hown3 : Hid (w2.ownsRow w.heap.size 3 1 v2 (missTo zs (k + 1)).length ((missTo zs (k + 1)).map (Value.int .i64))) := Lib.hid (by
          rw [Hst.out, List.length_append, List.map_append]; exact hown2)
        clear hown2 hgr2 hown0
        go_wp2_with fail
        go_roundw
        case rel => exact ⟨k + 1, by omega, by go_num, hB2, h1, hown3⟩
        case measure => simp [intOf]; omega
    · obtain rfl : k = 52 := by omega
      have hfin : Hid (∀ v, wr.ownsRow w.heap.size 3 1 v (missTo zs 52).length ((missTo zs 52).map (Value.int .i64)) → ∃ b', w.heap.size ≤ b' ∧ WrAt .i64 wr v (missing zs) b') := Lib.hid (fun v hv => by
        rw [Hfin.out] at hv
        exact own_wr hv (by rw [← cards_miss]; exact cards_wf _))
      have h2 := Lib.hid (hfin.out _ hown.out)
      clear hown hfin
      go_wp2_with fail
      go_ret
      obtain ⟨b', h1, h3⟩ := h2.out
      exact ⟨_, b', rfl, h1, h3, B⟩
end Go.Proofs.YtepjijmgfdgfhaaDoor
