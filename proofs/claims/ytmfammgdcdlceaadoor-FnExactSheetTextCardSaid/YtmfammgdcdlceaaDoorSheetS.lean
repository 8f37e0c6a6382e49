/-
  Sheets, the model's side.
-/
import Derived.Test.YtmfammgdcdlceaaDoorSheet0
import Derived.Test.YtmfammgdcdlceaaDoorIntRows
namespace Go.Proofs.YtmfammgdcdlceaaDoor
open Go.RowKit
set_option linter.unusedVariables false
set_option linter.unusedSimpArgs false

set_option maxRecDepth 100000 in
set_option maxHeartbeats 1000000 in
theorem sIsSheet_any (p : Int) (v : Value) (zss : List (List Int)) (w : World) (h : RdRows .i64 w v zss) (hl : zss.length ≤ 4194304) (hl2 : sumLen zss ≤ 4194304) (r : Bool) (hr : isSheet p zss = r) :
    Calls Tryd.prog 31 #[.int .i64 p, v] w fun e w' => e = .returned (.bool r) ∧ w = w' := by
  have hrow := fun j (hj : j < zss.length) => h.row hj
  obtain ⟨a, cap, rfl, -, -⟩ := id h
  obtain ⟨n, hn⟩ : ∃ n, n = zss.length := ⟨_, rfl⟩
  have Hn := Lib.hid hn
  have Hrow := Lib.hid hrow
  have Hr := Lib.hid hr
  have Hsum : Hid (∀ j (hj : j < zss.length), zss[j].length ≤ 4194304) := Lib.hid (fun j hj => Nat.le_trans (len_le_sum zss hj) hl2)
  rw [← hn] at hl ⊢
  clear hn hrow h hr hl2
  go_enter Tryd.func31, Tryd.ntmps31
  go_wp2_with fail
  go_loop [5] (fun i => ∃ k : Nat, k ≤ n ∧ i = .int .i64 k ∧ Hid (∀ j (hj : j < zss.length), j < k → isRound p zss[j] = true)) (fun i => n - (intOf i).toNat)
  case atStart => exact ⟨0, Nat.zero_le _, rfl, Lib.hid (fun j _ hj => by omega)⟩
  case round =>
    obtain ⟨k, hk, rfl, hall⟩ := hrel
    by_cases hlt : k < n
    · have hz : k < zss.length := by rw [← Hn.out]; exact hlt
      obtain ⟨blk, off, cap', p', c, b, hv, hc, hrd, -⟩ := Hrow.out k hz
      have ha := (Value.slice.inj hv).1
      clear hv
      subst ha
      have hlk := Hsum.out k hz
      have HR := Lib.hid (sIsRound_any p _ (zss[k]'hz) b w hrd (by omega))
      clear hrd
      cases hq : isRound p (zss[k]'hz) with
      | false =>
        rw [hq] at HR
        have hf : Hid (r = false) := Lib.hid (by rw [← Hr.out]; exact sheet_bad k hz hq)
        clear hq
        generalize (zss[k]'hz).length = q at *
        go_wp2_with fail
        refine HR.out.mono ?_
        rintro e _w ⟨rfl, rfl⟩
        go_wp2_with fail
        go_ret
        exact ⟨by rw [hf.out]; rfl, rfl⟩
      | true =>
        rw [hq] at HR
        have hall2 : Hid (∀ j (hj : j < zss.length), j < k + 1 → isRound p zss[j] = true) := Lib.hid (fun j hj hjk => by
          by_cases e : j = k
          · subst e; exact hq
          · exact hall.out j hj (by omega))
        clear hq
        generalize (zss[k]'hz).length = q at *
        go_wp2_with fail
        refine HR.out.mono ?_
        rintro e _w ⟨rfl, rfl⟩
        go_wp2_with fail
        go_round
        case rel => exact ⟨k + 1, by omega, by go_num, hall2⟩
        case measure => simp [intOf]; omega
    · obtain rfl : k = n := by omega
      by_cases hp : 2 ≤ p ∧ p ≤ 6
      · have HI := Lib.hid (fun wx => inM_any p 2 6 wx true (by simpa using hp))
        by_cases h50 : k ≤ 50
        · have hf : Hid (r = true) := Lib.hid (by rw [← Hr.out]; exact sheet_yes hp (by rw [← Hn.out]; exact h50) (fun j hj => hall.out j hj (by rw [Hn.out]; exact hj)))
          have hd : decide ((k : Int) ≤ 50) = true := by simp; omega
          clear hp h50
          go_wp2_with fail
          refine (HI.out _).mono ?_
          rintro e _w ⟨rfl, rfl⟩
          go_wp2_with fail
          go_ret
          exact ⟨by rw [hf.out]; rfl, rfl⟩
        · have hf : Hid (r = false) := Lib.hid (by rw [← Hr.out]; exact sheet_n (by rw [← Hn.out]; exact h50))
          have hd : decide ((k : Int) ≤ 50) = false := by simp; omega
          clear hp h50
          go_wp2_with fail
          refine (HI.out _).mono ?_
          rintro e _w ⟨rfl, rfl⟩
          go_wp2_with fail
          go_ret
          exact ⟨by rw [hf.out]; rfl, rfl⟩
      · have HI := Lib.hid (fun wx => inM_any p 2 6 wx false (by simp only [decide_eq_false hp]))
        have hf : Hid (r = false) := Lib.hid (by rw [← Hr.out]; exact sheet_p hp)
        clear hp
        go_wp2_with fail
        refine (HI.out _).mono ?_
        rintro e _w ⟨rfl, rfl⟩
        go_wp2_with fail
        go_ret
        exact ⟨by rw [hf.out]; rfl, rfl⟩
set_option maxRecDepth 100000 in
set_option maxHeartbeats 1000000 in
theorem sTotalOf_any (p who : Int) (v : Value) (zss : List (List Int)) (w : World) (h : RdRows .i64 w v zss) (hl : zss.length ≤ 1048576) (hl2 : sumLen zss ≤ 1048576) :
    Calls Tryd.prog 33 #[.int .i64 p, v, .int .i64 who] w fun e w' => e = .returned (.int .i64 (totalOf p zss who)) ∧ w = w' := by
  have hs := sIsSheet_any p v zss w h (by omega) (by omega)
  have hrow := fun j (hj : j < zss.length) => h.row hj
  obtain ⟨a, cap, rfl, -, -⟩ := id h
  obtain ⟨n, hn⟩ : ∃ n, n = zss.length := ⟨_, rfl⟩
  have Hn := Lib.hid hn
  have Hrow := Lib.hid hrow
  obtain ⟨r, hr⟩ : ∃ r, r = totalOf p zss who := ⟨_, rfl⟩
  have Hr := Lib.hid hr
  rw [← hr]
  rw [← hn] at hl hs ⊢
  clear hrow h hr hl2
  cases hq : isSheet p zss with
  | false =>
    have HS := Lib.hid (hs false hq)
    have hf : Hid (r = 0) := Lib.hid (by rw [Hr.out]; unfold totalOf; rw [hq]; rfl)
    clear hs hq hn
    go_enter Tryd.func33, Tryd.ntmps33
    go_wp2_with fail
    refine wp_loop_rounds 1 ?_
    rw [rounds_succ]
    by_cases hn0 : 0 < n
    · go_wp2_with fail
      refine HS.out.mono ?_
      rintro e _w ⟨rfl, rfl⟩
      go_wp2_with fail
      go_ret
      exact ⟨by rw [hf.out]; rfl, rfl⟩
    · go_wp2_with fail
      go_ret
      exact ⟨by rw [hf.out]; rfl, rfl⟩
  | true =>
    have HS := Lib.hid (hs true hq)
    obtain ⟨⟨hp2, hp6⟩, h50, hall⟩ := sheet_ok hq
    by_cases hw : 0 ≤ who ∧ who ≤ p - 1
    · have HI := Lib.hid (fun wx => inM_any who 0 (p - 1) wx true (by simpa using hw))
      have hf : Hid (r = colSum zss who.toNat) := Lib.hid (by rw [Hr.out]; unfold totalOf whoIn; rw [hq, decide_eq_true hw]; rfl)
      obtain ⟨i, hi⟩ : ∃ i : Nat, (i : Int) = who := ⟨who.toNat, by omega⟩
      have hii : who.toNat = i := by omega
      rw [hii] at hf
      subst hi
      have hlens : Hid (∀ j (hj : j < zss.length), i < zss[j].length ∧ ∀ x ∈ zss[j], -1000 ≤ x ∧ x ≤ 1000) := Lib.hid (fun j hj => by
        have := isRound_all (all_at hall j hj); exact ⟨by have := this.2.1; omega, this.2.2.1⟩)
      have hbd : Hid (∀ k, -100000 ≤ colSum (zss.take k) i ∧ colSum (zss.take k) i ≤ 100000) := Lib.hid (fun k => by
        have h1 := colSum_bd p i (zss.take k) (all_take k (fun j hj _ => all_at hall j hj))
        rw [List.length_take] at h1; omega)
      clear hs hq hw hii hall hn
      go_enter Tryd.func33, Tryd.ntmps33
      go_wp2_with fail
      go_loop [7, 8] (fun o i' => ∃ (k : Nat) (x : Int), k ≤ n ∧ i' = .int .i64 k ∧ o = .int .i64 x ∧ Hid (x = colSum (zss.take k) i)) (fun _ i => n - (intOf i).toNat)
      case atStart => exact ⟨0, 0, Nat.zero_le _, rfl, rfl, Lib.hid rfl⟩
      case round =>
        obtain ⟨k, x, hk, rfl, rfl, hx⟩ := hrel
        by_cases hlt : k < n
        · have hz : k < zss.length := by rw [← Hn.out]; exact hlt
          obtain ⟨blk, off, cap', p', c, b, hv, hc, hrd, -⟩ := Hrow.out k hz
          have ha := (Value.slice.inj hv).1
          clear hv
          subst ha
          obtain ⟨hil, hib⟩ := hlens.out k hz
          obtain ⟨pa, ca, epa, -, -, hcell⟩ := hrd
          rcases hcell with h0 | ⟨off2, rfl, hc2⟩
          · rw [h0] at hil; simp at hil
          obtain ⟨rfl, rfl⟩ : p' = some ⟨b, off2, none⟩ ∧ c = ca := by simpa using epa
          obtain ⟨y, hy⟩ : ∃ y, y = (zss[k]'hz)[i] := ⟨_, rfl⟩
          have hc3 : w.cell? ⟨b, off2 + i, none⟩ = some (.int .i64 y) := by rw [hc2 i hil, hy]
          have hyb : -1000 ≤ y ∧ y ≤ 1000 := by rw [hy]; exact hib _ (List.getElem_mem hil)
          have hxb := hbd.out k
          rw [← hx.out] at hxb
          have hx2 : Hid (x + y = colSum (zss.take (k + 1)) i) := Lib.hid (by
            rw [colSum_take zss k i hz, ← hx.out, hy]; simp [List.getD, hil])
          clear hc2 hy hib epa
          generalize (zss[k]'hz).length = q at *
          have i1 : (i : Int) < (q : Int) := by omega
          go_wp2_with fail
          refine HS.out.mono ?_
          rintro e _w ⟨rfl, rfl⟩
          go_wp2_with fail
          refine (HI.out _).mono ?_
          rintro e _w ⟨rfl, rfl⟩
          go_wp2_with fail
          go_round
          case rel => exact ⟨k + 1, x + y, by omega, by go_num, by go_num, hx2⟩
          case measure => simp [intOf]; omega
        · obtain rfl : k = n := by omega
          have hx2 : Hid (r = x) := Lib.hid (by rw [hf.out, hx.out, List.take_of_length_le (by rw [Hn.out]; exact Nat.le_refl _)])
          go_wp2_with fail
          go_ret
          exact ⟨by rw [hx2.out]; rfl, rfl⟩
    · have HI := Lib.hid (fun wx => inM_any who 0 (p - 1) wx false (by simp only [decide_eq_false hw]))
      have hf : Hid (r = 0) := Lib.hid (by rw [Hr.out]; unfold totalOf whoIn; rw [decide_eq_false hw]; simp)
      clear hs hq hw hall hn
      go_enter Tryd.func33, Tryd.ntmps33
      go_wp2_with fail
      refine wp_loop_rounds 1 ?_
      rw [rounds_succ]
      by_cases hn0 : 0 < n
      · go_wp2_with fail
        refine HS.out.mono ?_
        rintro e _w ⟨rfl, rfl⟩
        go_wp2_with fail
        refine (HI.out _).mono ?_
        rintro e _w ⟨rfl, rfl⟩
        go_wp2_with fail
        go_ret
        exact ⟨by rw [hf.out]; rfl, rfl⟩
      · go_wp2_with fail
        go_ret
        exact ⟨by rw [hf.out]; rfl, rfl⟩
theorem wins_takeS (who : Nat) (zss : List (List Int)) (k : Nat) (h : k < zss.length) : ((zss.take (k + 1)).filter (won who)).length = ((zss.take k).filter (won who)).length + (if won who zss[k] = true then 1 else 0) := by
  rw [List.take_succ_eq_append_getElem h, List.filter_append, List.length_append]
  congr 1
  by_cases e : won who zss[k] = true <;> simp [e]
end Go.Proofs.YtmfammgdcdlceaaDoor
