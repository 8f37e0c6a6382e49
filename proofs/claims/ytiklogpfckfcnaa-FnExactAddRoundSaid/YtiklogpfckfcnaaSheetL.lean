/-
  Sheets, the program's side: IsSheet, TotalOf, AheadIn, WinsOf.
-/
import Derived.Test.YtiklogpfckfcnaaSheetK
import Derived.Shelf.Abstract
namespace Go.Proofs.Ytiklogpfckfcnaa
open Go.RowKit
set_option linter.unusedVariables false
set_option linter.unusedSimpArgs false

set_option maxRecDepth 100000 in
theorem isSheet_any (p : Int) (v : Value) (zss : List (List Int)) (w : World) (h : RdRows .i64 w v zss) (hl : zss.length ≤ 4194304) (hl2 : sumLen zss ≤ 4194304) (r : Bool) (hr : isSheet p zss = r) :
    Calls Try.prog 12 #[.int .i64 p, v] w fun e w' => e = .returned (.bool r) ∧ Below w.heap.size w w' := by
  have HW := Lib.hid (writeDown_any p v zss w h hl hl2)
  obtain ⟨a, cap, rfl, -, -⟩ := id h
  clear h
  have Hr := Lib.hid hr
  clear hr
  go_enter Try.func12, Try.ntmps12
  go_wp2_with fail
  refine HW.out.mono ?_
  rintro e w1 ⟨u, rfl, hu, hB⟩
  rcases hu with ⟨hs, g, n, -, rfl, -⟩ | ⟨hs, rfl⟩
  · obtain rfl : true = r := by rw [← Hr.out, hs]
    have T := Lib.hid (ta_cols (.slice (some ⟨g, 0, none⟩) n n) w1)
    have T0 := T.out
    clear hs
    go_wp2_with fail
    go_ret
    exact ⟨rfl, hB⟩
  · obtain rfl : false = r := by rw [← Hr.out, hs]
    have T0 := ta_cols_no (.agg #[]) w1
    clear hs
    go_wp2_with fail
    go_ret
    exact ⟨rfl, hB⟩
set_option maxRecDepth 100000 in
theorem totalOf_any (p who : Int) (v : Value) (zss : List (List Int)) (w : World) (h : RdRows .i64 w v zss) (hl : zss.length ≤ 1048576) (hl2 : sumLen zss ≤ 1048576) :
    Calls Try.prog 15 #[.int .i64 p, v, .int .i64 who] w fun e w' => e = .returned (.int .i64 (totalOf p zss who)) ∧ Below w.heap.size w w' := by
  have HW := Lib.hid (writeDown_any p v zss w h (by omega) (by omega))
  obtain ⟨a, cap, rfl, -, -⟩ := id h
  clear h
  obtain ⟨r, hr⟩ : ∃ r, r = totalOf p zss who := ⟨_, rfl⟩
  have Hr := Lib.hid hr
  rw [← hr]
  clear hr
  go_enter Try.func15, Try.ntmps15
  go_wp2_with fail
  refine HW.out.mono ?_
  rintro e w1 ⟨u, rfl, hu, hB⟩
  rcases hu with ⟨hs, g, n, hn, rfl, hC⟩ | ⟨hs, rfl⟩
  · have T0 := ta_cols (.slice (some ⟨g, 0, none⟩) n n) w1
    obtain ⟨⟨hp2, hp6⟩, h50, -⟩ := sheet_ok hs
    by_cases hw : 0 ≤ who ∧ who ≤ p - 1
    · have HI := Lib.hid (fun wx => inR_any who 0 (p - 1) wx true (by simpa using hw))
      have hf : Hid (r = colSum zss who.toNat) := Lib.hid (by rw [Hr.out]; unfold totalOf whoIn; rw [hs, decide_eq_true hw]; rfl)
      obtain ⟨i, hi⟩ : ∃ i : Nat, (i : Int) = who := ⟨who.toNat, by omega⟩
      have hii : who.toNat = i := by omega
      rw [hii] at hf
      subst hi hn
      have HT := Lib.hid (total_any w.heap.size g n zss.length 0 (colSum zss) i n w1 hC (by omega) (by omega) (by omega))
      clear hs hw hC hii
      go_wp2_with fail
      refine (HI.out _).mono ?_
      rintro e _w ⟨rfl, rfl⟩
      go_wp2_with fail
      refine HT.out.mono ?_
      rintro e w2 ⟨rfl, B2⟩
      have B3 := hB.trans (B2.mono hB.size)
      go_wp2_with fail
      go_ret
      exact ⟨by rw [hf.out]; rfl, B3⟩
    · have HI := Lib.hid (fun wx => inR_any who 0 (p - 1) wx false (by simp only [decide_eq_false hw]))
      have hf : Hid (r = 0) := Lib.hid (by rw [Hr.out]; unfold totalOf whoIn; rw [decide_eq_false hw]; simp)
      subst hn
      clear hs hw hC
      go_wp2_with fail
      refine (HI.out _).mono ?_
      rintro e _w ⟨rfl, rfl⟩
      go_wp2_with fail
      go_ret
      exact ⟨by rw [hf.out]; rfl, hB⟩
  · have T0 := ta_cols_no (.agg #[]) w1
    have hf : Hid (r = 0) := Lib.hid (by rw [Hr.out]; unfold totalOf; rw [hs]; rfl)
    clear hs
    go_wp2_with fail
    go_ret
    exact ⟨by rw [hf.out]; rfl, hB⟩
set_option maxRecDepth 100000 in
set_option maxHeartbeats 1000000 in
theorem aheadIn_any (p : Int) (v : Value) (zss : List (List Int)) (w : World) (h : RdRows .i64 w v zss) (hl : zss.length ≤ 1048576) (hl2 : sumLen zss ≤ 1048576) :
    Calls Try.prog 17 #[.int .i64 p, v] w fun e w' => e = .returned (.int .i64 (aheadIn p zss)) ∧ Below w.heap.size w w' := by
  have HW := Lib.hid (writeDown_any p v zss w h (by omega) (by omega))
  obtain ⟨a, cap, rfl, -, -⟩ := id h
  clear h
  obtain ⟨r, hr⟩ : ∃ r, r = aheadIn p zss := ⟨_, rfl⟩
  have Hr := Lib.hid hr
  rw [← hr]
  clear hr
  go_enter Try.func17, Try.ntmps17
  go_wp2_with fail
  refine HW.out.mono ?_
  rintro e w1 ⟨u, rfl, hu, hB⟩
  rcases hu with ⟨hs, g, n, hn, rfl, hC⟩ | ⟨hs, rfl⟩
  · have T0 := ta_cols (.slice (some ⟨g, 0, none⟩) n n) w1
    obtain ⟨⟨hp2, hp6⟩, h50, -⟩ := sheet_ok hs
    have hf : Hid (r = (aheadN (colSum zss) n : Nat)) := Lib.hid (by rw [Hr.out]; unfold aheadIn; rw [hs]; subst hn; rfl)
    subst hn
    have HT := Lib.hid (fun wx (bx : Below w1.heap.size w1 wx) i (hi : i < n) => total_any w.heap.size g n zss.length 0 (colSum zss) i n wx (hC.below bx) hi (by omega) (by omega))
    have Hs : Hid (∀ k, aheadN (colSum zss) (k + 1) = if colSum zss k > colSum zss (aheadN (colSum zss) k) then k else aheadN (colSum zss) k) := Lib.hid (fun k => rfl)
    have Hb : Hid (∀ k, k ≤ n → aheadN (colSum zss) k < n) := Lib.hid (fun k hk => by
      cases k with
      | zero => show 0 < n; omega
      | succ k => have := aheadN_lt (colSum zss) (k + 1) (by omega); omega)
    have H0 : Hid (aheadN (colSum zss) 0 = 0) := Lib.hid rfl
    clear hs hC hl hl2
    generalize aheadN (colSum zss) = G at *
    go_wp2_with fail
    go_loopw [7, 8, 20] (fun o _ i wr => ∃ k x : Nat, k ≤ n ∧ i = .int .i64 k ∧ o = .int .i64 x ∧ Hid (x = G k) ∧ Below w1.heap.size w1 wr) (fun _ _ i _ => n - (intOf i).toNat)
    case atStart => exact ⟨0, 0, Nat.zero_le _, rfl, rfl, Lib.hid H0.out.symm, Below.refl _ _⟩
    case round =>
      obtain ⟨k, x, hk, rfl, rfl, hx, hBr⟩ := hrel
      by_cases hlt : k < n
      · have hxn : x < n := by rw [hx.out]; exact Hb.out k hk
        have h1 := Lib.hid (HT.out wr hBr k hlt)
        have h2 := Lib.hid (fun wx (bx : Below wr.heap.size wr wx) => HT.out wx (hBr.trans (bx.mono hBr.size)) x hxn)
        have hst := Hs.out k
        rw [← hx.out] at hst
        generalize colSum zss k = yk at *
        generalize colSum zss x = yx at *
        by_cases hgt : yk > yx
        · have hn1 : Hid (k = G (k + 1)) := Lib.hid (by rw [hst, if_pos hgt])
          have hd : decide (yk > yx) = true := by simpa using hgt
          clear hst
          go_wp2_with fail
          refine h1.out.mono ?_
          rintro e w2 ⟨rfl, B2⟩
          have h2' := Lib.hid (h2.out w2 B2)
          go_wp2_with fail
          refine h2'.out.mono ?_
          rintro e w3 ⟨rfl, B3⟩
          have B4 := B2.trans (B3.mono B2.size)
          have B5 := hBr.trans (B4.mono hBr.size)
          go_wp2_with fail
          go_roundw
          case rel => exact ⟨k + 1, k, by omega, by go_num, rfl, hn1, B5⟩
          case measure => simp [intOf]; omega
        · have hn1 : Hid (x = G (k + 1)) := Lib.hid (by rw [hst, if_neg hgt])
          have hd : decide (yk > yx) = false := by simpa using hgt
          clear hst
          go_wp2_with fail
          refine h1.out.mono ?_
          rintro e w2 ⟨rfl, B2⟩
          have h2' := Lib.hid (h2.out w2 B2)
          go_wp2_with fail
          refine h2'.out.mono ?_
          rintro e w3 ⟨rfl, B3⟩
          have B4 := B2.trans (B3.mono B2.size)
          have B5 := hBr.trans (B4.mono hBr.size)
          go_wp2_with fail
          go_roundw
          case rel => exact ⟨k + 1, x, by omega, by go_num, rfl, hn1, B5⟩
          case measure => simp [intOf]; omega
      · obtain rfl : k = n := by omega
        have hfin : Hid (r = (x : Nat)) := Lib.hid (by rw [hf.out, hx.out])
        have B5 := hB.trans (hBr.mono hB.size)
        go_wp2_with fail
        go_ret
        exact ⟨by rw [hfin.out]; rfl, B5⟩
  · have T0 := ta_cols_no (.agg #[]) w1
    have hf : Hid (r = -1) := Lib.hid (by rw [Hr.out]; unfold aheadIn; rw [hs]; rfl)
    clear hs
    go_wp2_with fail
    go_ret
    exact ⟨by rw [hf.out]; rfl, hB⟩
set_option maxRecDepth 100000 in
theorem wins1_any (q : Nat) (who : Nat) (v : Value) (zs : List Int) (b : Nat) (w : World) (h : RdAt .i64 w v zs b) (hw : who < zs.length) (hl : zs.length ≤ 1048576) (hq : w.cell? ⟨q, 0, none⟩ = some (.int .i64 who)) :
    Calls Try.prog 45 #[v, .pointer (some ⟨q, 0, none⟩)] w fun e w' => e = .returned (.bool (won who zs)) ∧ w = w' := by
  obtain ⟨a, cap, rfl, -, hwf, hcell⟩ := h
  rcases hcell with h0 | ⟨off, rfl, hc⟩
  · subst h0; simp at hw
  obtain ⟨y, hy⟩ : ∃ y, y = zs[who] := ⟨_, rfl⟩
  have hc1 : w.cell? ⟨b, off + who, none⟩ = some (.int .i64 y) := by rw [hc who hw, hy]
  have hr : Hid (won who zs = decide (y > 0)) := Lib.hid (by unfold won; rw [hy]; simp [List.getD, hw])
  generalize won who zs = r at *
  clear hc hy
  generalize zs.length = n at *
  have i0 : (0 : Int) ≤ (who : Int) := by omega
  have i1 : (who : Int) < (n : Int) := by omega
  obtain rfl : r = decide (y > 0) := hr.out
  go_enter Try.func45, Try.ntmps45
  go_wp2_with fail
  go_ret
  exact ⟨rfl, rfl⟩
theorem wins_take (who : Nat) (zss : List (List Int)) (k : Nat) (h : k < zss.length) : ((zss.take (k + 1)).filter (won who)).length = ((zss.take k).filter (won who)).length + (if won who zss[k] = true then 1 else 0) := by
  rw [List.take_succ_eq_append_getElem h, List.filter_append, List.length_append]
  congr 1
  by_cases e : won who zss[k] = true <;> simp [e]
set_option maxRecDepth 100000 in
set_option maxHeartbeats 1000000 in
theorem countRows_any (q who : Nat) (v : Value) (zss : List (List Int)) (w : World) (h : RdRows .i64 w v zss) (hl : zss.length ≤ 1048576) (hl2 : sumLen zss ≤ 1048576) (hw : ∀ j (hj : j < zss.length), who < zss[j].length) (hq : w.cell? ⟨q, 0, none⟩ = some (.int .i64 who)) :
    Calls Try.prog 44 #[v, .func (.func 45) #[] #[.pointer (some ⟨q, 0, none⟩)]] w fun e w' => e = .returned (.int .i64 ((zss.filter (won who)).length : Nat)) ∧ w = w' := by
  have hrow := fun j (hj : j < zss.length) => h.row hj
  obtain ⟨a, cap, rfl, -, -⟩ := id h
  obtain ⟨n, hn⟩ : ∃ n, n = zss.length := ⟨_, rfl⟩
  have Hn := Lib.hid hn
  have Hrow := Lib.hid hrow
  have Hw := Lib.hid hw
  have Hsum : Hid (∀ j (hj : j < zss.length), zss[j].length ≤ 1048576) := Lib.hid (fun j hj => Nat.le_trans (len_le_sum zss hj) hl2)
  have HC := Lib.hid (fun v zs b h h1 h2 => wins1_any q who v zs b w h h1 h2 hq)
  have Hst := Lib.hid (wins_take who zss)
  obtain ⟨r, hr⟩ : ∃ r, r = (zss.filter (won who)).length := ⟨_, rfl⟩
  have Hr := Lib.hid hr
  rw [← hn] at hl ⊢
  rw [← hr]
  clear hn hrow h hw hq hr hl2
  go_enter Try.func44, Try.ntmps44
  go_wp2_with fail
  go_loop [5, 7, 10] (fun o _ i => ∃ k x : Nat, k ≤ n ∧ i = .int .i64 k ∧ o = .int .i64 x ∧ x ≤ k ∧ Hid (x = ((zss.take k).filter (won who)).length)) (fun _ _ i => n - (intOf i).toNat)
  case atStart => exact ⟨0, 0, Nat.zero_le _, rfl, rfl, Nat.le_refl _, Lib.hid rfl⟩
  case round =>
    obtain ⟨k, x, hk, rfl, rfl, hxk, hx⟩ := hrel
    by_cases hlt : k < n
    · have hz : k < zss.length := by rw [← Hn.out]; exact hlt
      obtain ⟨blk, off, cap', p, c, b, hv, hc, hrd, -⟩ := Hrow.out k hz
      have ha := (Value.slice.inj hv).1
      clear hv
      subst ha
      have hst := Hst.out k hz
      rw [← hx.out] at hst
      have HK := Lib.hid (HC.out _ _ b hrd (Hw.out k hz) (Hsum.out k hz))
      clear hrd
      generalize (zss[k]'hz).length = m at *
      generalize won who (zss[k]'hz) = y at *
      cases y with
      | true =>
        have hx2 : Hid (x + 1 = ((zss.take (k + 1)).filter (won who)).length) := Lib.hid (by rw [hst]; rfl)
        clear hst
        go_wp2_with fail
        refine HK.out.mono ?_
        rintro e _w ⟨rfl, rfl⟩
        go_wp2_with fail
        go_round
        case rel => exact ⟨k + 1, x + 1, by omega, by go_num, by go_num, by omega, hx2⟩
        case measure => simp [intOf]; omega
      | false =>
        have hx2 : Hid (x = ((zss.take (k + 1)).filter (won who)).length) := Lib.hid (by rw [hst]; rfl)
        clear hst
        go_wp2_with fail
        refine HK.out.mono ?_
        rintro e _w ⟨rfl, rfl⟩
        go_wp2_with fail
        go_round
        case rel => exact ⟨k + 1, x, by omega, by go_num, by go_num, by omega, hx2⟩
        case measure => simp [intOf]; omega
    · obtain rfl : k = n := by omega
      have hx2 : Hid (x = r) := Lib.hid (by rw [hx.out, Hr.out, List.take_of_length_le (by rw [Hn.out]; exact Nat.le_refl _)])
      go_wp2_with fail
      go_ret
      exact ⟨by rw [← hx2.out]; rfl, rfl⟩
set_option maxRecDepth 100000 in
set_option maxHeartbeats 1000000 in
theorem winsOf_any (p who : Int) (v : Value) (zss : List (List Int)) (w : World) (h : RdRows .i64 w v zss) (hl : zss.length ≤ 1048576) (hl2 : sumLen zss ≤ 1048576) :
    Calls Try.prog 24 #[.int .i64 p, v, .int .i64 who] w fun e w' => e = .returned (.int .i64 (winsOf p zss who : Nat)) ∧ Below w.heap.size w w' := by
  obtain ⟨r, hr⟩ : ∃ r, r = winsOf p zss who := ⟨_, rfl⟩
  have Hr := Lib.hid hr
  rw [← hr]
  clear hr
  obtain ⟨a, cap, hv, -, -⟩ := id h
  have b0 : Below w.heap.size w (w.alloc (.cells #[.int .i64 who] 3)) := (Below.refl _ _).alloc (Nat.le_refl _) _
  have hs := isSheet_any p v zss _ (h.below b0) (by omega) (by omega)
  have g0 : (w.alloc (.cells #[.int .i64 who] 3)).heap[w.heap.size]? = some (.cells #[.int .i64 who] 3 (0, 0)) := heap_alloc_new _ _
  have HC : Hid (∀ wx, Below (w.alloc (.cells #[.int .i64 who] 3)).heap.size (w.alloc (.cells #[.int .i64 who] 3)) wx → wx.cell? ⟨w.heap.size, 0, none⟩ = some (.int .i64 who) ∧ RdRows .i64 wx v zss) := Lib.hid (fun wx bx => by
    have := (bx.block _ (by simp)).trans g0
    exact ⟨by simp [World.cell?, this], h.below (b0.trans (bx.mono b0.size))⟩)
  have hB0 := Lib.hid b0
  clear b0 g0 h
  subst hv
  cases hq : isSheet p zss with
  | false =>
    have HS := Lib.hid (hs false hq)
    have hf : Hid (r = 0) := Lib.hid (by rw [Hr.out]; unfold winsOf; rw [hq]; rfl)
    clear hs hq
    go_enter Try.func24, Try.ntmps24
    go_wp2_with fail
    refine HS.out.mono ?_
    rintro e w1 ⟨rfl, B1⟩
    have B2 := hB0.out.trans (B1.mono hB0.out.size)
    go_wp2_with fail
    go_ret
    exact ⟨by rw [hf.out]; rfl, B2⟩
  | true =>
    have HS := Lib.hid (hs true hq)
    obtain ⟨⟨hp2, hp6⟩, -, hall⟩ := sheet_ok hq
    by_cases hw : 0 ≤ who ∧ who ≤ p - 1
    · have HI := Lib.hid (fun wx => inR_any who 0 (p - 1) wx true (by simpa using hw))
      have hf : Hid (r = (zss.filter (won who.toNat)).length) := Lib.hid (by rw [Hr.out]; unfold winsOf whoIn; rw [hq, decide_eq_true hw]; rfl)
      obtain ⟨i, hi⟩ : ∃ i : Nat, (i : Int) = who := ⟨who.toNat, by omega⟩
      have hii : who.toNat = i := by omega
      rw [hii] at hf
      subst hi
      have hlens : Hid (∀ j (hj : j < zss.length), i < zss[j].length) := Lib.hid (fun j hj => by
        have := (isRound_all (all_at hall j hj)).2.1; omega)
      clear hs hq hw hii hall
      go_enter Try.func24, Try.ntmps24
      go_wp2_with fail
      refine HS.out.mono ?_
      rintro e w1 ⟨rfl, B1⟩
      obtain ⟨hc, hrd⟩ := HC.out w1 B1
      have HK := Lib.hid (countRows_any w.heap.size i _ zss w1 hrd hl hl2 hlens.out hc)
      have B2 := hB0.out.trans (B1.mono hB0.out.size)
      clear hrd
      go_wp2_with fail
      refine (HI.out _).mono ?_
      rintro e _w ⟨rfl, rfl⟩
      go_wp2_with fail
      refine HK.out.mono ?_
      rintro e _w ⟨rfl, rfl⟩
      go_wp2_with fail
      go_ret
      exact ⟨by rw [hf.out]; rfl, B2⟩
    · have HI := Lib.hid (fun wx => inR_any who 0 (p - 1) wx false (by simp only [decide_eq_false hw]))
      have hf : Hid (r = 0) := Lib.hid (by rw [Hr.out]; unfold winsOf whoIn; rw [decide_eq_false hw]; simp)
      clear hs hq hw hall
      go_enter Try.func24, Try.ntmps24
      go_wp2_with fail
      refine HS.out.mono ?_
      rintro e w1 ⟨rfl, B1⟩
      obtain ⟨hc, hrd⟩ := HC.out w1 B1
      have B2 := hB0.out.trans (B1.mono hB0.out.size)
      clear hrd
      go_wp2_with fail
      refine (HI.out _).mono ?_
      rintro e _w ⟨rfl, rfl⟩
      go_wp2_with fail
      go_ret
      exact ⟨by rw [hf.out]; rfl, B2⟩
end Go.Proofs.Ytiklogpfckfcnaa
