/-
  Patterns: the model's IsPattern.
-/
import Derived.Test.YtmfammgdcdlceaaDoorPat0
import Derived.Test.YtmfammgdcdlceaaDoorMarksI
import Derived.Test.YtmfammgdcdlceaaDoorIn
namespace Go.Proofs.YtmfammgdcdlceaaDoor
open Go.RowKit
set_option linter.unusedVariables false
set_option linter.unusedSimpArgs false

theorem cells_atP {w w1 : World} {zs : List Int} {a : Option Addr} {b : Nat} {n : Nat} (B : Below n w w1) (hb : zs ≠ [] → b < n)
    (hc : zs = [] ∨ ∃ off, a = some ⟨b, off, none⟩ ∧ ∀ j (hj : j < zs.length), w.cell? ⟨b, off + j, none⟩ = some (.int .i64 zs[j])) {k : Nat} (hk : k < zs.length) :
    ∃ off, a = some ⟨b, off, none⟩ ∧ w1.cell? ⟨b, off + k, none⟩ = some (.int .i64 (zs.getD k 0)) := by
  rcases hc with h0 | ⟨off, e, hc⟩
  · subst h0; simp at hk
  · refine ⟨off, e, ?_⟩
    rw [B.cell (hb (by intro e; subst e; simp at hk)), hc k hk]
    simp [List.getD, hk]
theorem leaf_any (s : Int) (w : World) (r : Bool) (hr : leaf s = r) :
    Calls Tryd.prog 106 #[.int .i64 s] w fun e w' => e = .returned (.bool r) ∧ w = w' := by
  rw [leaf_iff] at hr
  have H1 := Lib.hid (inM_any s 100 103 w _ rfl)
  have H2 := Lib.hid (inM_any s 200 212 w _ rfl)
  have H3 := Lib.hid (inM_any s 300 312 w _ rfl)
  by_cases h1 : 100 ≤ s ∧ s ≤ 103
  · rw [decide_eq_true h1] at H1
    obtain rfl : r = true := by rw [← hr]; simp [h1]
    clear hr h1
    go_enter Tryd.func106, Tryd.ntmps106
    go_wp2_with fail
    refine H1.out.mono ?_
    rintro e _w ⟨rfl, rfl⟩
    go_wp2_with fail
    go_ret
    exact ⟨rfl, rfl⟩
  rw [decide_eq_false h1] at H1
  by_cases h2 : 200 ≤ s ∧ s ≤ 212
  · rw [decide_eq_true h2] at H2
    obtain rfl : r = true := by rw [← hr]; simp [h2]
    clear hr h1 h2
    go_enter Tryd.func106, Tryd.ntmps106
    go_wp2_with fail
    refine H1.out.mono ?_
    rintro e _w ⟨rfl, rfl⟩
    go_wp2_with fail
    refine H2.out.mono ?_
    rintro e _w ⟨rfl, rfl⟩
    go_wp2_with fail
    go_ret
    exact ⟨rfl, rfl⟩
  rw [decide_eq_false h2] at H2
  by_cases h3 : 300 ≤ s ∧ s ≤ 312
  · rw [decide_eq_true h3] at H3
    obtain rfl : r = true := by rw [← hr]; simp [h3]
    clear hr h1 h2 h3
    go_enter Tryd.func106, Tryd.ntmps106
    go_wp2_with fail
    refine H1.out.mono ?_
    rintro e _w ⟨rfl, rfl⟩
    go_wp2_with fail
    refine H2.out.mono ?_
    rintro e _w ⟨rfl, rfl⟩
    go_wp2_with fail
    refine H3.out.mono ?_
    rintro e _w ⟨rfl, rfl⟩
    go_wp2_with fail
    go_ret
    exact ⟨rfl, rfl⟩
  rw [decide_eq_false h3] at H3
  have hq : (s == 400) = r := by rw [← hr]; simp [h1, h2, h3]; exact Bool.beq_eq_decide_eq s 400
  clear hr h1 h2 h3
  go_enter Tryd.func106, Tryd.ntmps106
  go_wp2_with fail
  refine H1.out.mono ?_
  rintro e _w ⟨rfl, rfl⟩
  go_wp2_with fail
  refine H2.out.mono ?_
  rintro e _w ⟨rfl, rfl⟩
  go_wp2_with fail
  refine H3.out.mono ?_
  rintro e _w ⟨rfl, rfl⟩
  go_wp2_with fail
  go_ret
  exact ⟨rfl, rfl⟩
theorem step_leafL {st : List (Int → Bool)} {s : Int} (h : leaf s = true) : ∃ st', stepP st s = some st' ∧ st'.length = st.length + 1 := by
  obtain ⟨f, hf⟩ := leaf_some s h
  exact ⟨_, step_leaf st s f hf, by simp⟩
theorem leaf_neg {s : Int} (h : s < 0) : leaf s = false := by unfold leaf; rw [leafF_neg s h]; rfl
set_option maxRecDepth 100000 in
set_option maxHeartbeats 2000000 in
theorem sIsPattern_any (v : Value) (zs : List Int) (b : Nat) (w : World) (h : RdAt .i64 w v zs b) (hl : zs.length ≤ 1099511627776) (r : Bool) (hr : isPat zs = r) :
    Calls Tryd.prog 96 #[v] w fun e w' => e = .returned (.bool r) ∧ w = w' := by
  have hlt0 := h.lt
  obtain ⟨a, cap, rfl, -, -, hcell⟩ := h
  have Hr := Lib.hid hr
  obtain ⟨n, hn⟩ : ∃ n, n = zs.length := ⟨_, rfl⟩
  have Hn := Lib.hid hn
  rw [← hn] at hl ⊢
  clear hn hr
  have HCl : Hid (∀ k, k < n → ∃ off, a = some ⟨b, off, none⟩ ∧ w.cell? ⟨b, off + k, none⟩ = some (.int .i64 (zs.getD k 0))) := Lib.hid (fun k hk => cells_atP (Below.refl w.heap.size w) hlt0 hcell (by rw [← Hn.out]; exact hk))
  clear hlt0 hcell
  go_enter Tryd.func96, Tryd.ntmps96
  go_wp2_with fail
  go_loop [3, 4, 11, 19, 29] (fun m i _ _ _ => ∃ (k : Nat) (st : List (Int → Bool)), k ≤ n ∧ i = .int .i64 k ∧ m = .int .i64 st.length ∧ st.length ≤ k ∧ Hid (workP [] (zs.take k) = some st)) (fun _ i _ _ _ => n - (intOf i).toNat)
  case atStart => exact ⟨0, [], Nat.zero_le _, rfl, rfl, Nat.zero_le _, Lib.hid rfl⟩
  case round =>
    obtain ⟨k, st, hk, rfl, rfl, hsl, hst⟩ := hrel
    by_cases hlt : k < n
    · have hkz : k < zs.length := by rw [← Hn.out]; exact hlt
      obtain ⟨off, ha, hc⟩ := HCl.out k hlt
      subst ha
      obtain ⟨s, hs⟩ : ∃ s, Hid (zs.getD k 0 = s) := ⟨_, Lib.hid rfl⟩
      rw [hs.out] at hc
      have hz : zs[k] = s := by rw [← hs.out]; simp [List.getD, hkz]
      have hnext := work_next zs k hkz st hst.out
      rw [hz] at hnext
      have hbad : stepP st s = none → r = false := fun e => by rw [← Hr.out]; exact pat_bad zs k hkz st hst.out (by rw [hz]; exact e)
      cases hlf : leaf s with
      | true =>
        have HL := Lib.hid (leaf_any s w _ hlf)
        obtain ⟨st', hs', hl'⟩ := step_leafL (st := st) hlf
        have hst2 : Hid (workP [] (zs.take (k + 1)) = some st') := Lib.hid (hnext.trans hs')
        have hm : (st'.length : Int) = (st.length : Int) + 1 := by omega
        have hl2 : st'.length ≤ k + 1 := by omega
        have Hm := Lib.hid hm
        clear hlf hnext hbad hs' hl' hz hm
        go_wp2_with fail
        refine HL.out.mono ?_
        rintro e _w ⟨rfl, rfl⟩
        go_wp2_with fail
        go_round
        case rel => exact ⟨k + 1, st', by omega, by go_num, by rw [Hm.out], hl2, hst2⟩
        case measure => simp [intOf]; omega
      | false =>
        have HL := Lib.hid (leaf_any s w _ hlf)
        by_cases h1 : s = -1
        · subst h1
          by_cases hn1 : 1 ≤ st.length
          · have hs' := step_not st hn1
            obtain ⟨st', hst'⟩ : ∃ st', st' = st.take (st.length - 1) ++ [notF (getF st (st.length - 1))] := ⟨_, rfl⟩
            have hl' : st'.length = st.length := by rw [hst']; simp; omega
            rw [← hst'] at hs'
            have hst2 : Hid (workP [] (zs.take (k + 1)) = some st') := Lib.hid (hnext.trans hs')
            have Hl := Lib.hid hl'
            have hd : decide (1 ≤ (st.length : Int)) = true := by simp; omega
            clear hlf hnext hbad hs' hl' hz hst'
            go_wp2_with fail
            refine HL.out.mono ?_
            rintro e _w ⟨rfl, rfl⟩
            go_wp2_with fail
            go_round
            case rel => exact ⟨k + 1, st', by omega, by go_num, by rw [Hl.out], by rw [Hl.out]; omega, hst2⟩
            case measure => simp [intOf]; omega
          · have hres := Lib.hid (hbad (step_bad st _ hlf (by omega) (by omega) (by omega)))
            have hd : decide (1 ≤ (st.length : Int)) = false := by simp; omega
            have h0 : st.length = 0 := by omega
            clear hlf hnext hbad hz
            go_wp2_with fail
            refine HL.out.mono ?_
            rintro e _w ⟨rfl, rfl⟩
            go_wp2_with fail
            go_ret
            exact ⟨by rw [hres.out]; rfl, rfl⟩
        · have hq1 : (s == -1) = false := by simpa using h1
          by_cases h23 : s = -2 ∨ s = -3
          · by_cases hn2 : 2 ≤ st.length
            · obtain ⟨st', hs', hl'⟩ : ∃ st', stepP st s = some st' ∧ st'.length = st.length - 1 := by
                rcases h23 with rfl | rfl
                · exact ⟨_, step_and st hn2, by simp; omega⟩
                · exact ⟨_, step_or st hn2, by simp; omega⟩
              have hst2 : Hid (workP [] (zs.take (k + 1)) = some st') := Lib.hid (hnext.trans hs')
              have hm : (st'.length : Int) = (st.length : Int) - 1 := by omega
              have hl2 : st'.length ≤ k + 1 := by omega
              have Hm := Lib.hid hm
              have hd : decide (2 ≤ (st.length : Int)) = true := by simp; omega
              clear hnext hbad hs' hl' hz hm
              rcases h23 with rfl | rfl
              · clear hlf
                go_wp2_with fail
                refine HL.out.mono ?_
                rintro e _w ⟨rfl, rfl⟩
                go_wp2_with fail
                go_round
                case rel => exact ⟨k + 1, st', by omega, by go_num, by rw [Hm.out], hl2, hst2⟩
                case measure => simp [intOf]; omega
              · clear hlf
                go_wp2_with fail
                refine HL.out.mono ?_
                rintro e _w ⟨rfl, rfl⟩
                go_wp2_with fail
                go_round
                case rel => exact ⟨k + 1, st', by omega, by go_num, by rw [Hm.out], hl2, hst2⟩
                case measure => simp [intOf]; omega
            · have hres := Lib.hid (hbad (step_bad st _ hlf (by omega) (by omega) (by omega)))
              have hd : decide (2 ≤ (st.length : Int)) = false := by simp; omega
              clear hnext hbad hz hlf
              rcases h23 with rfl | rfl
              · go_wp2_with fail
                refine HL.out.mono ?_
                rintro e _w ⟨rfl, rfl⟩
                go_wp2_with fail
                go_ret
                exact ⟨by rw [hres.out]; rfl, rfl⟩
              · go_wp2_with fail
                refine HL.out.mono ?_
                rintro e _w ⟨rfl, rfl⟩
                go_wp2_with fail
                go_ret
                exact ⟨by rw [hres.out]; rfl, rfl⟩
          · have hres := Lib.hid (hbad (step_bad st _ hlf (by omega) (by omega) (by omega)))
            have hq2 : (s == -2) = false := by simp; omega
            have hq3 : (s == -3) = false := by simp; omega
            clear hnext hbad hz hlf h23 h1
            go_wp2_with fail
            refine HL.out.mono ?_
            rintro e _w ⟨rfl, rfl⟩
            go_wp2_with fail
            go_ret
            exact ⟨by rw [hres.out]; rfl, rfl⟩
    · obtain rfl : k = n := by omega
      have hend := pat_end zs st (by rw [← hst.out, List.take_of_length_le (by rw [Hn.out]; exact Nat.le_refl _)])
      rw [Hr.out, ← Hn.out] at hend
      by_cases h1 : st.length = 1
      · have hq : ((st.length : Int) == 1) = true := by simp; omega
        have hres : Hid (r = decide (k ≤ 20)) := Lib.hid (by rw [hend, h1]; rfl)
        cases h20 : decide (k ≤ 20) with
        | true =>
          have hd : decide ((k : Int) ≤ 20) = true := by have := of_decide_eq_true h20; simp; omega
          have hr2 : Hid (r = true) := Lib.hid (by rw [hres.out, h20])
          clear hend h20 hres
          go_wp2_with fail
          go_ret
          exact ⟨by rw [hr2.out]; rfl, rfl⟩
        | false =>
          have hd : decide ((k : Int) ≤ 20) = false := by have := of_decide_eq_false h20; simp; omega
          have hr2 : Hid (r = false) := Lib.hid (by rw [hres.out, h20])
          clear hend h20 hres
          go_wp2_with fail
          go_ret
          exact ⟨by rw [hr2.out]; rfl, rfl⟩
      · have hq : ((st.length : Int) == 1) = false := by simp; omega
        have hres : Hid (r = false) := Lib.hid (by rw [hend, decide_eq_false h1]; rfl)
        clear hend h1
        go_wp2_with fail
        go_ret
        exact ⟨by rw [hres.out]; rfl, rfl⟩
end Go.Proofs.YtmfammgdcdlceaaDoor
