/-
  Sheets, the model's side.
-/
import Derived.Test.YtiklogpfckfcnaaSheet0
import Derived.Test.YtiklogpfckfcnaaIntRows
namespace Go.Proofs.Ytiklogpfckfcnaa
open Go.RowKit
set_option linter.unusedVariables false
set_option linter.unusedSimpArgs false

set_option maxRecDepth 100000 in
set_option maxHeartbeats 1000000 in
theorem sIsSheet_any (p : Int) (v : Value) (zss : List (List Int)) (w : World) (h : RdRows .i64 w v zss) (hl : zss.length ≤ 4194304) (hl2 : sumLen zss ≤ 4194304) (r : Bool) (hr : isSheet p zss = r) :
    Calls Try.prog 10 #[.int .i64 p, v] w fun e w' => e = .returned (.bool r) ∧ w = w' := by
  have hrow := fun j (hj : j < zss.length) => h.row hj
  obtain ⟨a, cap, rfl, -, -⟩ := id h
  obtain ⟨n, hn⟩ : ∃ n, n = zss.length := ⟨_, rfl⟩
  have Hn := Lib.hid hn
  have Hrow := Lib.hid hrow
  have Hr := Lib.hid hr
  have Hsum : Hid (∀ j (hj : j < zss.length), zss[j].length ≤ 4194304) := Lib.hid (fun j hj => Nat.le_trans (len_le_sum zss hj) hl2)
  rw [← hn] at hl ⊢
  clear hn hrow h hr hl2
  go_enter Try.func10, Try.ntmps10
  go_wp2_with fail
  go_loop [5] (fun i => ∃ k : Nat, k ≤ n ∧ i = .int .i64 k ∧ Hid (∀ j (hj : j < zss.length), j < k → isRound p zss[j] = true)) (fun i => n - (intOf i).toNat)
  case atStart => exact ⟨0, Nat.zero_le _, rfl, Lib.hid (fun j _ hj => by omega)⟩
  case round =>
    obtain ⟨k, hk, rfl, hall⟩ := hrel
    by_cases hlt : k < n
    · have hz : k < zss.length := by rw [← Hn.out]; exact hlt
      obtain ⟨blk, off, cap', p', c, b, hv, hc, hrd, -⟩ := Hrow.out k hz
      have ha := (Value.slice.inj hv).1
      clear hv
      subst ha
      have hlk := Hsum.out k hz
      have HR := Lib.hid (sIsRound_any p _ (zss[k]'hz) b w hrd (by omega))
      clear hrd
      cases hq : isRound p (zss[k]'hz) with
      | false =>
        rw [hq] at HR
        have hf : Hid (r = false) := Lib.hid (by rw [← Hr.out]; exact sheet_bad k hz hq)
        clear hq
        generalize (zss[k]'hz).length = q at *
        go_wp2_with fail
        refine HR.out.mono ?_
        rintro e _w ⟨rfl, rfl⟩
        go_wp2_with fail
        go_ret
        exact ⟨by rw [hf.out]; rfl, rfl⟩
      | true =>
        rw [hq] at HR
        have hall2 : Hid (∀ j (hj : j < zss.length), j < k + 1 → isRound p zss[j] = true) := Lib.hid (fun j hj hjk => by
          by_cases e : j = k
          · subst e; exact hq
          · exact hall.out j hj (by omega))
        clear hq
        generalize (zss[k]'hz).length = q at *
        go_wp2_with fail
        refine HR.out.mono ?_
        rintro e _w ⟨rfl, rfl⟩
        go_wp2_with fail
        go_round
        case rel => exact ⟨k + 1, by omega, by go_num, hall2⟩
        case measure => simp [intOf]; omega
    · obtain rfl : k = n := by omega
      by_cases hp : 2 ≤ p ∧ p ≤ 6
      · have HI := Lib.hid (fun wx => inM_any p 2 6 wx true (by simpa using hp))
        by_cases h50 : k ≤ 50
        · have hf : Hid (r = true) := Lib.hid (by rw [← Hr.out]; exact sheet_yes hp (by rw [← Hn.out]; exact h50) (fun j hj => hall.out j hj (by rw [Hn.out]; exact hj)))
          have hd : decide ((k : Int) ≤ 50) = true := by simp; omega
          clear hp h50
          go_wp2_with fail
          refine (HI.out _).mono ?_
          rintro e _w ⟨rfl, rfl⟩
          go_wp2_with fail
          go_ret
          exact ⟨by rw [hf.out]; rfl, rfl⟩
        · have hf : Hid (r = false) := Lib.hid (by rw [← Hr.out]; exact sheet_n (by rw [← Hn.out]; exact h50))
          have hd : decide ((k : Int) ≤ 50) = false := by simp; omega
          clear hp h50
          go_wp2_with fail
          refine (HI.out _).mono ?_
          rintro e _w ⟨rfl, rfl⟩
          go_wp2_with fail
          go_ret
          exact ⟨by rw [hf.out]; rfl, rfl⟩
      · have HI := Lib.hid (fun wx => inM_any p 2 6 wx false (by simp only [decide_eq_false hp]))
        have hf : Hid (r = false) := Lib.hid (by rw [← Hr.out]; exact sheet_p hp)
        clear hp
        go_wp2_with fail
        refine (HI.out _).mono ?_
        rintro e _w ⟨rfl, rfl⟩
        go_wp2_with fail
        go_ret
        exact ⟨by rw [hf.out]; rfl, rfl⟩
set_option maxRecDepth 100000 in
set_option maxHeartbeats 1000000 in
theorem sTotalOf_any (p who : Int) (v : Value) (zss : List (List Int)) (w : World) (h : RdRows .i64 w v zss) (hl : zss.length ≤ 1048576) (hl2 : sumLen zss ≤ 1048576) :
    Calls Try.prog 14 #[.int .i64 p, v, .int .i64 who] w fun e w' => e = .returned (.int .i64 (totalOf p zss who)) ∧ w = w' := by
  have hs := sIsSheet_any p v zss w h (by omega) (by omega)
  have hrow := fun j (hj : j < zss.length) => h.row hj
  obtain ⟨a, cap, rfl, -, -⟩ := id h
  obtain ⟨n, hn⟩ : ∃ n, n = zss.length := ⟨_, rfl⟩
  have Hn := Lib.hid hn
  have Hrow := Lib.hid hrow
  obtain ⟨r, hr⟩ : ∃ r, r = totalOf p zss who := ⟨_, rfl⟩
  have Hr := Lib.hid hr
  rw [← hr]
  rw [← hn] at hl hs ⊢
  clear hrow h hr hl2
  cases hq : isSheet p zss with
  | false =>
    have HS := Lib.hid (hs false hq)
    have hf : Hid (r = 0) := Lib.hid (by rw [Hr.out]; unfold totalOf; rw [hq]; rfl)
    clear hs hq hn
    go_enter Try.func14, Try.ntmps14
    go_wp2_with fail
    refine wp_loop_rounds 1 ?_
    rw [rounds_succ]
    by_cases hn0 : 0 < n
    · go_wp2_with fail
      refine HS.out.mono ?_
      rintro e _w ⟨rfl, rfl⟩
      go_wp2_with fail
      go_ret
      exact ⟨by rw [hf.out]; rfl, rfl⟩
    · go_wp2_with fail
      go_ret
      exact ⟨by rw [hf.out]; rfl, rfl⟩
  | true =>
    have HS := Lib.hid (hs true hq)
    obtain ⟨⟨hp2, hp6⟩, h50, hall⟩ := sheet_ok hq
    by_cases hw : 0 ≤ who ∧ who ≤ p - 1
    · have HI := Lib.hid (fun wx => inM_any who 0 (p - 1) wx true (by simpa using hw))
      have hf : Hid (r = colSum zss who.toNat) := Lib.hid (by rw [Hr.out]; unfold totalOf whoIn; rw [hq, decide_eq_true hw]; rfl)
      obtain ⟨i, hi⟩ : ∃ i : Nat, (i : Int) = who := ⟨who.toNat, by omega⟩
      have hii : who.toNat = i := by omega
      rw [hii] at hf
      subst hi
      have hlens : Hid (∀ j (hj : j < zss.length), i < zss[j].length ∧ ∀ x ∈ zss[j], -1000 ≤ x ∧ x ≤ 1000) := Lib.hid (fun j hj => by
        have := isRound_all (all_at hall j hj); exact ⟨by have := this.2.1; omega, this.2.2.1⟩)
      have hbd : Hid (∀ k, -100000 ≤ colSum (zss.take k) i ∧ colSum (zss.take k) i ≤ 100000) := Lib.hid (fun k => by
        have h1 := colSum_bd p i (zss.take k) (all_take k (fun j hj _ => all_at hall j hj))
        rw [List.length_take] at h1; omega)
      clear hs hq hw hii hall hn
      go_enter Try.func14, Try.ntmps14
      go_wp2_with fail
      go_loop [7, 8] (fun o i' => ∃ (k : Nat) (x : Int), k ≤ n ∧ i' = .int .i64 k ∧ o = .int .i64 x ∧ Hid (x = colSum (zss.take k) i)) (fun _ i => n - (intOf i).toNat)
      case atStart => exact ⟨0, 0, Nat.zero_le _, rfl, rfl, Lib.hid rfl⟩
      case round =>
        obtain ⟨k, x, hk, rfl, rfl, hx⟩ := hrel
        by_cases hlt : k < n
        · have hz : k < zss.length := by rw [← Hn.out]; exact hlt
          obtain ⟨blk, off, cap', p', c, b, hv, hc, hrd, -⟩ := Hrow.out k hz
          have ha := (Value.slice.inj hv).1
          clear hv
          subst ha
          obtain ⟨hil, hib⟩ := hlens.out k hz
          obtain ⟨pa, ca, epa, -, -, hcell⟩ := hrd
          rcases hcell with h0 | ⟨off2, rfl, hc2⟩
          · rw [h0] at hil; simp at hil
          obtain ⟨rfl, rfl⟩ : p' = some ⟨b, off2, none⟩ ∧ c = ca := by simpa using epa
          obtain ⟨y, hy⟩ : ∃ y, y = (zss[k]'hz)[i] := ⟨_, rfl⟩
          have hc3 : w.cell? ⟨b, off2 + i, none⟩ = some (.int .i64 y) := by rw [hc2 i hil, hy]
          have hyb : -1000 ≤ y ∧ y ≤ 1000 := by rw [hy]; exact hib _ (List.getElem_mem hil)
          have hxb := hbd.out k
          rw [← hx.out] at hxb
          have hx2 : Hid (x + y = colSum (zss.take (k + 1)) i) := Lib.hid (by
            rw [colSum_take zss k i hz, ← hx.out, hy]; simp [List.getD, hil])
          clear hc2 hy hib epa
          generalize (zss[k]'hz).length = q at *
          have i1 : (i : Int) < (q : Int) := by omega
          go_wp2_with fail
          refine HS.out.mono ?_
          rintro e _w ⟨rfl, rfl⟩
          go_wp2_with fail
          refine (HI.out _).mono ?_
          rintro e _w ⟨rfl, rfl⟩
          go_wp2_with fail
          go_round
          case rel => exact ⟨k + 1, x + y, by omega, by go_num, by go_num, hx2⟩
          case measure => simp [intOf]; omega
        · obtain rfl : k = n := by omega
          have hx2 : Hid (r = x) := Lib.hid (by rw [hf.out, hx.out, List.take_of_length_le (by rw [Hn.out]; exact Nat.le_refl _)])
          go_wp2_with fail
          go_ret
          exact ⟨by rw [hx2.out]; rfl, rfl⟩
    · have HI := Lib.hid (fun wx => inM_any who 0 (p - 1) wx false (by simp only [decide_eq_false hw]))
      have hf : Hid (r = 0) := Lib.hid (by rw [Hr.out]; unfold totalOf whoIn; rw [decide_eq_false hw]; simp)
      clear hs hq hw hall hn
      go_enter Try.func14, Try.ntmps14
      go_wp2_with fail
      refine wp_loop_rounds 1 ?_
      rw [rounds_succ]
      by_cases hn0 : 0 < n
      · go_wp2_with fail
        refine HS.out.mono ?_
        rintro e _w ⟨rfl, rfl⟩
        go_wp2_with fail
        refine (HI.out _).mono ?_
        rintro e _w ⟨rfl, rfl⟩
        go_wp2_with fail
        go_ret
        exact ⟨by rw [hf.out]; rfl, rfl⟩
      · go_wp2_with fail
        go_ret
        exact ⟨by rw [hf.out]; rfl, rfl⟩
set_option maxRecDepth 100000 in
set_option maxHeartbeats 1000000 in
theorem sAheadIn_any (p : Int) (v : Value) (zss : List (List Int)) (w : World) (h : RdRows .i64 w v zss) (hl : zss.length ≤ 1048576) (hl2 : sumLen zss ≤ 1048576) :
    Calls Try.prog 16 #[.int .i64 p, v] w fun e w' => e = .returned (.int .i64 (aheadIn p zss)) ∧ w = w' := by
  have hs := sIsSheet_any p v zss w h (by omega) (by omega)
  have HT := Lib.hid (fun who => sTotalOf_any p who v zss w h hl hl2)
  obtain ⟨a, cap, rfl, -, -⟩ := id h
  obtain ⟨r, hr⟩ : ∃ r, r = aheadIn p zss := ⟨_, rfl⟩
  have Hr := Lib.hid hr
  rw [← hr]
  clear h hr
  cases hq : isSheet p zss with
  | false =>
    have HS := Lib.hid (hs false hq)
    have hf : Hid (r = -1) := Lib.hid (by rw [Hr.out]; unfold aheadIn; rw [hq]; rfl)
    clear hs hq
    go_enter Try.func16, Try.ntmps16
    go_wp2_with fail
    refine HS.out.mono ?_
    rintro e _w ⟨rfl, rfl⟩
    go_wp2_with fail
    go_ret
    exact ⟨by rw [hf.out]; rfl, rfl⟩
  | true =>
    have HS := Lib.hid (hs true hq)
    obtain ⟨⟨hp2, hp6⟩, h50, hall⟩ := sheet_ok hq
    obtain ⟨n, hn⟩ : ∃ n : Nat, (n : Int) = p := ⟨p.toNat, by omega⟩
    have hf : Hid (r = (aheadN (colSum zss) n : Nat)) := Lib.hid (by rw [Hr.out]; unfold aheadIn; rw [hq]; subst hn; rfl)
    have HK : Hid (∀ k : Nat, k < n → totalOf p zss (k : Int) = colSum zss k) := Lib.hid (fun k hk => by
      unfold totalOf whoIn
      rw [hq, decide_eq_true (show (0 : Int) ≤ (k : Int) ∧ (k : Int) ≤ p - 1 by omega)]
      show colSum zss ((k : Int).toNat) = _
      rw [Int.toNat_natCast])
    have Hs : Hid (∀ k, aheadN (colSum zss) (k + 1) = if colSum zss k > colSum zss (aheadN (colSum zss) k) then k else aheadN (colSum zss) k) := Lib.hid (fun k => rfl)
    have Hb : Hid (∀ k, 1 ≤ k → aheadN (colSum zss) k < k) := Lib.hid (fun k hk => aheadN_lt (colSum zss) k hk)
    have H1 : Hid (aheadN (colSum zss) 1 = 0) := Lib.hid (aheadN_one _)
    subst hn
    clear hs hq hl hl2 hall
    generalize aheadN (colSum zss) = G at *
    go_enter Try.func16, Try.ntmps16
    go_wp2_with fail
    refine HS.out.mono ?_
    rintro e _w ⟨rfl, rfl⟩
    go_wp2_with fail
    go_loop [5, 6] (fun o i => ∃ k x : Nat, 1 ≤ k ∧ k ≤ n ∧ i = .int .i64 k ∧ o = .int .i64 x ∧ Hid (x = G k)) (fun _ i => n - (intOf i).toNat)
    case atStart => exact ⟨1, 0, Nat.le_refl _, by omega, rfl, rfl, Lib.hid H1.out.symm⟩
    case round =>
      obtain ⟨k, x, hk1, hk, rfl, rfl, hx⟩ := hrel
      by_cases hlt : k < n
      · have hxk : x < k := by rw [hx.out]; exact Hb.out k hk1
        have h1 := HT.out (k : Int)
        have h2 := HT.out (x : Int)
        rw [HK.out k hlt] at h1
        rw [HK.out x (by omega)] at h2
        have h1 := Lib.hid h1
        have h2 := Lib.hid h2
        have hst := Hs.out k
        rw [← hx.out] at hst
        generalize colSum zss k = yk at *
        generalize colSum zss x = yx at *
        by_cases hgt : yk > yx
        · have hn1 : Hid (k = G (k + 1)) := Lib.hid (by rw [hst, if_pos hgt])
          have hd : decide (yk > yx) = true := by simpa using hgt
          clear hst
          go_wp2_with fail
          refine h1.out.mono ?_
          rintro e _w ⟨rfl, rfl⟩
          go_wp2_with fail
          refine h2.out.mono ?_
          rintro e _w ⟨rfl, rfl⟩
          go_wp2_with fail
          go_round
          case rel => exact ⟨k + 1, k, by omega, by omega, by go_num, rfl, hn1⟩
          case measure => simp [intOf]; omega
        · have hn1 : Hid (x = G (k + 1)) := Lib.hid (by rw [hst, if_neg hgt])
          have hd : decide (yk > yx) = false := by simpa using hgt
          clear hst
          go_wp2_with fail
          refine h1.out.mono ?_
          rintro e _w ⟨rfl, rfl⟩
          go_wp2_with fail
          refine h2.out.mono ?_
          rintro e _w ⟨rfl, rfl⟩
          go_wp2_with fail
          go_round
          case rel => exact ⟨k + 1, x, by omega, by omega, by go_num, rfl, hn1⟩
          case measure => simp [intOf]; omega
      · obtain rfl : k = n := by omega
        have hfin : Hid (r = (x : Nat)) := Lib.hid (by rw [hf.out, hx.out])
        go_wp2_with fail
        go_ret
        exact ⟨by rw [hfin.out]; rfl, rfl⟩
theorem wins_takeS (who : Nat) (zss : List (List Int)) (k : Nat) (h : k < zss.length) : ((zss.take (k + 1)).filter (won who)).length = ((zss.take k).filter (won who)).length + (if won who zss[k] = true then 1 else 0) := by
  rw [List.take_succ_eq_append_getElem h, List.filter_append, List.length_append]
  congr 1
  by_cases e : won who zss[k] = true <;> simp [e]
set_option maxRecDepth 100000 in
set_option maxHeartbeats 1000000 in
theorem sWinsOf_any (p who : Int) (v : Value) (zss : List (List Int)) (w : World) (h : RdRows .i64 w v zss) (hl : zss.length ≤ 1048576) (hl2 : sumLen zss ≤ 1048576) :
    Calls Try.prog 23 #[.int .i64 p, v, .int .i64 who] w fun e w' => e = .returned (.int .i64 (winsOf p zss who : Nat)) ∧ w = w' := by
  have hs := sIsSheet_any p v zss w h (by omega) (by omega)
  have hrow := fun j (hj : j < zss.length) => h.row hj
  obtain ⟨a, cap, rfl, -, -⟩ := id h
  obtain ⟨n, hn⟩ : ∃ n, n = zss.length := ⟨_, rfl⟩
  have Hn := Lib.hid hn
  have Hrow := Lib.hid hrow
  obtain ⟨r, hr⟩ : ∃ r, r = winsOf p zss who := ⟨_, rfl⟩
  have Hr := Lib.hid hr
  rw [← hr]
  rw [← hn] at hl hs ⊢
  clear hrow h hr hl2
  cases hq : isSheet p zss with
  | false =>
    have HS := Lib.hid (hs false hq)
    have hf : Hid (r = 0) := Lib.hid (by rw [Hr.out]; unfold winsOf; rw [hq]; rfl)
    clear hs hq hn
    go_enter Try.func23, Try.ntmps23
    go_wp2_with fail
    refine wp_loop_rounds 1 ?_
    rw [rounds_succ]
    by_cases hn0 : 0 < n
    · go_wp2_with fail
      refine HS.out.mono ?_
      rintro e _w ⟨rfl, rfl⟩
      go_wp2_with fail
      go_ret
      exact ⟨by rw [hf.out]; rfl, rfl⟩
    · go_wp2_with fail
      go_ret
      exact ⟨by rw [hf.out]; rfl, rfl⟩
  | true =>
    have HS := Lib.hid (hs true hq)
    obtain ⟨⟨hp2, hp6⟩, h50, hall⟩ := sheet_ok hq
    by_cases hw : 0 ≤ who ∧ who ≤ p - 1
    · have HI := Lib.hid (fun wx => inM_any who 0 (p - 1) wx true (by simpa using hw))
      have hf : Hid (r = (zss.filter (won who.toNat)).length) := Lib.hid (by rw [Hr.out]; unfold winsOf whoIn; rw [hq, decide_eq_true hw]; rfl)
      obtain ⟨i, hi⟩ : ∃ i : Nat, (i : Int) = who := ⟨who.toNat, by omega⟩
      have hii : who.toNat = i := by omega
      rw [hii] at hf
      subst hi
      have hlens : Hid (∀ j (hj : j < zss.length), i < zss[j].length) := Lib.hid (fun j hj => by
        have := isRound_all (all_at hall j hj); have := this.2.1; omega)
      have Hst := Lib.hid (wins_takeS i zss)
      clear hs hq hw hii hall hn
      go_enter Try.func23, Try.ntmps23
      go_wp2_with fail
      go_loop [7, 8] (fun o i' => ∃ (k x : Nat), k ≤ n ∧ i' = .int .i64 k ∧ o = .int .i64 x ∧ x ≤ k ∧ Hid (x = ((zss.take k).filter (won i)).length)) (fun _ i => n - (intOf i).toNat)
      case atStart => exact ⟨0, 0, Nat.zero_le _, rfl, rfl, Nat.le_refl _, Lib.hid rfl⟩
      case round =>
        obtain ⟨k, x, hk, rfl, rfl, hxk, hx⟩ := hrel
        by_cases hlt : k < n
        · have hz : k < zss.length := by rw [← Hn.out]; exact hlt
          obtain ⟨blk, off, cap', p', c, b, hv, hc, hrd, -⟩ := Hrow.out k hz
          have ha := (Value.slice.inj hv).1
          clear hv
          subst ha
          have hil := hlens.out k hz
          obtain ⟨pa, ca, epa, -, -, hcell⟩ := hrd
          rcases hcell with h0 | ⟨off2, rfl, hc2⟩
          · rw [h0] at hil; simp at hil
          obtain ⟨rfl, rfl⟩ : p' = some ⟨b, off2, none⟩ ∧ c = ca := by simpa using epa
          obtain ⟨y, hy⟩ : ∃ y, y = (zss[k]'hz)[i] := ⟨_, rfl⟩
          have hc3 : w.cell? ⟨b, off2 + i, none⟩ = some (.int .i64 y) := by rw [hc2 i hil, hy]
          have hwy : won i (zss[k]'hz) = decide (y > 0) := by unfold won; rw [hy]; simp [List.getD, hil]
          have hst := Hst.out k hz
          rw [← hx.out, hwy] at hst
          clear hc2 hy epa hwy
          generalize (zss[k]'hz).length = q at *
          have i1 : (i : Int) < (q : Int) := by omega
          by_cases hy0 : y > 0
          · have hx2 : Hid (x + 1 = ((zss.take (k + 1)).filter (won i)).length) := Lib.hid (by rw [hst, decide_eq_true hy0]; rfl)
            have hd : decide (y > 0) = true := by simpa using hy0
            clear hst
            go_wp2_with fail
            refine HS.out.mono ?_
            rintro e _w ⟨rfl, rfl⟩
            go_wp2_with fail
            refine (HI.out _).mono ?_
            rintro e _w ⟨rfl, rfl⟩
            go_wp2_with fail
            go_round
            case rel => exact ⟨k + 1, x + 1, by omega, by go_num, by go_num, by omega, hx2⟩
            case measure => simp [intOf]; omega
          · have hx2 : Hid (x = ((zss.take (k + 1)).filter (won i)).length) := Lib.hid (by rw [hst, decide_eq_false hy0]; rfl)
            have hd : decide (y > 0) = false := by simpa using hy0
            clear hst
            go_wp2_with fail
            refine HS.out.mono ?_
            rintro e _w ⟨rfl, rfl⟩
            go_wp2_with fail
            refine (HI.out _).mono ?_
            rintro e _w ⟨rfl, rfl⟩
            go_wp2_with fail
            go_round
            case rel => exact ⟨k + 1, x, by omega, by go_num, by go_num, by omega, hx2⟩
            case measure => simp [intOf]; omega
        · obtain rfl : k = n := by omega
          have hx2 : Hid (r = x) := Lib.hid (by rw [hf.out, hx.out, List.take_of_length_le (by rw [Hn.out]; exact Nat.le_refl _)])
          go_wp2_with fail
          go_ret
          exact ⟨by rw [hx2.out]; rfl, rfl⟩
    · have HI := Lib.hid (fun wx => inM_any who 0 (p - 1) wx false (by simp only [decide_eq_false hw]))
      have hf : Hid (r = 0) := Lib.hid (by rw [Hr.out]; unfold winsOf whoIn; rw [decide_eq_false hw]; simp)
      clear hs hq hw hall hn
      go_enter Try.func23, Try.ntmps23
      go_wp2_with fail
      refine wp_loop_rounds 1 ?_
      rw [rounds_succ]
      by_cases hn0 : 0 < n
      · go_wp2_with fail
        refine HS.out.mono ?_
        rintro e _w ⟨rfl, rfl⟩
        go_wp2_with fail
        refine (HI.out _).mono ?_
        rintro e _w ⟨rfl, rfl⟩
        go_wp2_with fail
        go_ret
        exact ⟨by rw [hf.out]; rfl, rfl⟩
      · go_wp2_with fail
        go_ret
        exact ⟨by rw [hf.out]; rfl, rfl⟩
end Go.Proofs.Ytiklogpfckfcnaa
