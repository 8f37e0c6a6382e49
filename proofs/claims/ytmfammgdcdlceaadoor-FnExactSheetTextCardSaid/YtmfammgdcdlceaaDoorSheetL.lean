/-
  Sheets, the program's side: IsSheet, TotalOf, AheadIn, WinsOf.
-/
import Derived.Test.YtmfammgdcdlceaaDoorSheetK
import Derived.Shelf.Abstract
namespace Go.Proofs.YtmfammgdcdlceaaDoor
open Go.RowKit
set_option linter.unusedVariables false
set_option linter.unusedSimpArgs false

set_option maxRecDepth 100000 in
theorem isSheet_any (p : Int) (v : Value) (zss : List (List Int)) (w : World) (h : RdRows .i64 w v zss) (hl : zss.length ≤ 4194304) (hl2 : sumLen zss ≤ 4194304) (r : Bool) (hr : isSheet p zss = r) :
    Calls Tryd.prog 35 #[.int .i64 p, v] w fun e w' => e = .returned (.bool r) ∧ Below w.heap.size w w' := by
  have HW := Lib.hid (writeDown_any p v zss w h hl hl2)
  obtain ⟨a, cap, rfl, -, -⟩ := id h
  clear h
  have Hr := Lib.hid hr
  clear hr
  go_enter Tryd.func35, Tryd.ntmps35
  go_wp2_with fail
  refine HW.out.mono ?_
  rintro e w1 ⟨u, rfl, hu, hB⟩
  rcases hu with ⟨hs, g, n, -, rfl, -⟩ | ⟨hs, rfl⟩
  · obtain rfl : true = r := by rw [← Hr.out, hs]
    have T := Lib.hid (ta_cols (.slice (some ⟨g, 0, none⟩) n n) w1)
    have T0 := T.out
    clear hs
    go_wp2_with fail
    go_ret
    exact ⟨rfl, hB⟩
  · obtain rfl : false = r := by rw [← Hr.out, hs]
    have T0 := ta_cols_no (.agg #[]) w1
    clear hs
    go_wp2_with fail
    go_ret
    exact ⟨rfl, hB⟩
set_option maxRecDepth 100000 in
theorem totalOf_any (p who : Int) (v : Value) (zss : List (List Int)) (w : World) (h : RdRows .i64 w v zss) (hl : zss.length ≤ 1048576) (hl2 : sumLen zss ≤ 1048576) :
    Calls Tryd.prog 37 #[.int .i64 p, v, .int .i64 who] w fun e w' => e = .returned (.int .i64 (totalOf p zss who)) ∧ Below w.heap.size w w' := by
  have HW := Lib.hid (writeDown_any p v zss w h (by omega) (by omega))
  obtain ⟨a, cap, rfl, -, -⟩ := id h
  clear h
  obtain ⟨r, hr⟩ : ∃ r, r = totalOf p zss who := ⟨_, rfl⟩
  have Hr := Lib.hid hr
  rw [← hr]
  clear hr
  go_enter Tryd.func37, Tryd.ntmps37
  go_wp2_with fail
  refine HW.out.mono ?_
  rintro e w1 ⟨u, rfl, hu, hB⟩
  rcases hu with ⟨hs, g, n, hn, rfl, hC⟩ | ⟨hs, rfl⟩
  · have T0 := ta_cols (.slice (some ⟨g, 0, none⟩) n n) w1
    obtain ⟨⟨hp2, hp6⟩, h50, -⟩ := sheet_ok hs
    by_cases hw : 0 ≤ who ∧ who ≤ p - 1
    · have HI := Lib.hid (fun wx => inR_any who 0 (p - 1) wx true (by simpa using hw))
      have hf : Hid (r = colSum zss who.toNat) := Lib.hid (by rw [Hr.out]; unfold totalOf whoIn; rw [hs, decide_eq_true hw]; rfl)
      obtain ⟨i, hi⟩ : ∃ i : Nat, (i : Int) = who := ⟨who.toNat, by omega⟩
      have hii : who.toNat = i := by omega
      rw [hii] at hf
      subst hi hn
      have HT := Lib.hid (total_any w.heap.size g n zss.length 0 (colSum zss) i n w1 hC (by omega) (by omega) (by omega))
      clear hs hw hC hii
      go_wp2_with fail
      refine (HI.out _).mono ?_
      rintro e _w ⟨rfl, rfl⟩
      go_wp2_with fail
      refine HT.out.mono ?_
      rintro e w2 ⟨rfl, B2⟩
      have B3 := hB.trans (B2.mono hB.size)
      go_wp2_with fail
      go_ret
      exact ⟨by rw [hf.out]; rfl, B3⟩
    · have HI := Lib.hid (fun wx => inR_any who 0 (p - 1) wx false (by simp only [decide_eq_false hw]))
      have hf : Hid (r = 0) := Lib.hid (by rw [Hr.out]; unfold totalOf whoIn; rw [decide_eq_false hw]; simp)
      subst hn
      clear hs hw hC
      go_wp2_with fail
      refine (HI.out _).mono ?_
      rintro e _w ⟨rfl, rfl⟩
      go_wp2_with fail
      go_ret
      exact ⟨by rw [hf.out]; rfl, hB⟩
  · have T0 := ta_cols_no (.agg #[]) w1
    have hf : Hid (r = 0) := Lib.hid (by rw [Hr.out]; unfold totalOf; rw [hs]; rfl)
    clear hs
    go_wp2_with fail
    go_ret
    exact ⟨by rw [hf.out]; rfl, hB⟩
theorem wins_take (who : Nat) (zss : List (List Int)) (k : Nat) (h : k < zss.length) : ((zss.take (k + 1)).filter (won who)).length = ((zss.take k).filter (won who)).length + (if won who zss[k] = true then 1 else 0) := by
  rw [List.take_succ_eq_append_getElem h, List.filter_append, List.length_append]
  congr 1
  by_cases e : won who zss[k] = true <;> simp [e]
end Go.Proofs.YtmfammgdcdlceaaDoor
