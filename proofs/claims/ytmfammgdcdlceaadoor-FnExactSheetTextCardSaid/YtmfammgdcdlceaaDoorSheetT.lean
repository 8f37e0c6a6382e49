/-
  SheetText, both sides.
-/
import Derived.Test.YtmfammgdcdlceaaDoorCallsT
import Derived.Test.YtmfammgdcdlceaaDoorSheetL
import Derived.Test.YtmfammgdcdlceaaDoorSheetS
namespace Go.Proofs.YtmfammgdcdlceaaDoor
open Go.RowKit
set_option linter.unusedVariables false
set_option linter.unusedSimpArgs false

def totL (p : Int) (zss : List (List Int)) : List Int := (List.range p.toNat).map fun (i : Nat) => totalOf p zss i
theorem totL_n (p : Int) (zss : List (List Int)) : (totL p zss).length = p.toNat := by simp [totL]
theorem totL_at (p : Int) (zss : List (List Int)) (k : Nat) (h : k < (totL p zss).length) : (totL p zss)[k] = totalOf p zss k := by simp [totL]
theorem tot_bd (p who : Int) (zss : List (List Int)) : -50000 ≤ totalOf p zss who ∧ totalOf p zss who ≤ 50000 := by
  unfold totalOf
  by_cases h : isSheet p zss = true
  · obtain ⟨-, h1, h2⟩ := sheet_ok h
    have := colSum_bd p who.toNat zss h2
    split <;> omega
  · have : isSheet p zss = false := by simpa using h
    rw [this]; simp
theorem tot_wf (p who : Int) (zss : List (List Int)) : (Lit.int .i64 (totalOf p zss who)).wf = true := WalkArith.wf_i64 (by have := tot_bd p who zss; omega)
theorem totL_jlen (p : Int) (zss : List (List Int)) (hp : p ≤ 6) : jlen [32] (mapL Lib.itoa (totL p zss)) ≤ 30000000 := mapL_jlen (fun x hx => by
  obtain ⟨i, -, rfl⟩ := List.mem_map.1 hx
  exact itoaL_len (tot_wf _ _ _)) (by rw [totL_n]; omega) [32] (by decide)
def sheetTxt (p : Int) (zss : List (List Int)) : ByteArray := if isSheet p zss = true then ⟨(jl [32] (mapL Lib.itoa (totL p zss))).toArray⟩ else ⟨#[]⟩
theorem sheetTxt_no {p : Int} {zss : List (List Int)} (h : isSheet p zss = false) : sheetTxt p zss = ⟨#[]⟩ := by unfold sheetTxt; rw [if_neg (by rw [h]; decide)]
theorem sheetTxt_yes {p : Int} {zss : List (List Int)} (h : isSheet p zss = true) : sheetTxt p zss = ⟨(jl [32] (mapL Lib.itoa (totL p zss))).toArray⟩ := if_pos h
set_option maxRecDepth 100000 in
set_option maxHeartbeats 2000000 in
theorem sSheetText_any (p : Int) (v : Value) (zss : List (List Int)) (w : World) (h : RdRows .i64 w v zss) (hl : zss.length ≤ 1048576) (hl2 : sumLen zss ≤ 1048576) :
    Calls Tryd.prog 9 #[.int .i64 p, v] w fun e w' => e = .returned (.string (sheetTxt p zss)) ∧ Below w.heap.size w w' := by
  cases hs : isSheet p zss with
  | false =>
    have HS := Lib.hid (sIsSheet_any p v zss w h (by omega) (by omega) false hs)
    have HT := Lib.hid (sheetTxt_no hs)
    clear hs h
    go_enter Tryd.func9, Tryd.ntmps9
    go_wp2_with fail
    refine HS.out.mono ?_
    rintro e _w ⟨rfl, rfl⟩
    go_wp2_with fail
    go_ret
    exact ⟨by rw [HT.out]; rfl, Below.refl _ _⟩
  | true =>
    have HS := Lib.hid (sIsSheet_any p v zss w h (by omega) (by omega) true hs)
    have HTot := Lib.hid (fun wx (hb : Below w.heap.size w wx) who => sTotalOf_any p who v zss wx (h.below hb) hl hl2)
    have HT := Lib.hid (sheetTxt_yes hs)
    obtain ⟨hp, -, -⟩ := sheet_ok hs
    obtain ⟨n, rfl⟩ := Int.eq_ofNat_of_zero_le (show 0 ≤ p by omega)
    have HJ := Lib.hid (totL_jlen (n : Int) zss hp.2)
    have Hn : Hid ((totL (n : Int) zss).length = n) := Lib.hid (by rw [totL_n]; rfl)
    have hn6 : n ≤ 6 := by omega
    clear hs h hp hl hl2
    go_enter Tryd.func9, Tryd.ntmps9
    go_wp2_with fail
    refine HS.out.mono ?_
    rintro e _w ⟨rfl, rfl⟩
    clear HS
    go_wp2_with fail
    go_loopw [5, 6] (fun s i wr => ∃ k : Nat, k ≤ n ∧ i = .int .i64 k ∧ Below w.heap.size w wr ∧ s = .string ⟨(jl [32] ((mapL Lib.itoa (totL (n : Int) zss)).take k)).toArray⟩) (fun _ i _ => n - (intOf i).toNat)
    case atStart => exact ⟨0, Nat.zero_le _, rfl, Below.refl _ _, rfl⟩
    case round =>
      obtain ⟨k, hk, rfl, hb2, rfl⟩ := hrel
      by_cases hlt : k < n
      · have hzl : k < (totL (n : Int) zss).length := by rw [Hn.out]; exact hlt
        have hstep := jl_take [32] (mapL Lib.itoa (totL (n : Int) zss)) k (by rw [mapL_n]; exact hzl)
        have hel : (mapL Lib.itoa (totL (n : Int) zss))[k]'(by rw [mapL_n]; exact hzl) = Lib.itoa (totalOf n zss k) := by rw [← totL_at n zss k hzl]; simp [mapL]
        rw [hel] at hstep
        have hfl := Nat.le_trans (jl_take_len [32] (mapL Lib.itoa (totL (n : Int) zss)) k) HJ.out
        have hyl := itoaL_len (tot_wf (n : Int) k zss)
        have HC1 := Lib.hid (HTot.out wr hb2 (k : Int))
        have HC := Lib.hid (sFormatInt_any (totalOf (n : Int) zss k) wr (tot_wf _ _ _))
        clear hel
        generalize totalOf (n : Int) zss k = y at *
        generalize Lib.itoa y = Y at *
        by_cases hk0 : k = 0
        · subst hk0
          rw [if_pos rfl] at hstep
          have e0 : jl [32] ((mapL Lib.itoa (totL (n : Int) zss)).take 0) = [] := rfl
          rw [e0]
          have HF := Lib.hid hstep
          clear hstep hfl e0
          have hadd : ∀ wq, (Op.stringOp .add ⟨#[]⟩ ⟨Y.toArray⟩).run Tryd.prog wq = .ok (.string ⟨Y.toArray⟩) wq := fun wq => addL_run wq [] Y (by simp; omega)
          go_wp2_with fail
          refine HC1.out.mono ?_
          rintro e _w ⟨rfl, rfl⟩
          go_wp2_with fail
          refine HC.out.mono ?_
          rintro e w3 ⟨rfl, b3⟩
          have B3 := hb2.trans (b3.mono hb2.size)
          clear b3
          go_wp2_with fail
          go_roundw
          case rel => exact ⟨1, by omega, by go_num, B3, by rw [show jl [32] ((mapL Lib.itoa (totL (n : Int) zss)).take 1) = Y from HF.out]⟩
          case measure => simp [intOf]; omega
        · rw [if_neg hk0] at hstep
          have HF := Lib.hid hstep
          have hkq : (0 : Int) < (k : Int) := by omega
          clear hstep
          generalize jl [32] ((mapL Lib.itoa (totL (n : Int) zss)).take k) = F at *
          have hadd0 : ∀ wq, (Op.stringOp .add ⟨F.toArray⟩ ⟨#[32]⟩).run Tryd.prog wq = .ok (.string ⟨(F ++ [32]).toArray⟩) wq := fun wq => addL_run wq F [32] (by simp; omega)
          have hadd : ∀ wq, (Op.stringOp .add ⟨(F ++ [32]).toArray⟩ ⟨Y.toArray⟩).run Tryd.prog wq = .ok (.string ⟨(F ++ [32] ++ Y).toArray⟩) wq := fun wq => addL_run wq (F ++ [32]) Y (by simp; omega)
          go_wp2_with fail
          refine HC1.out.mono ?_
          rintro e _w ⟨rfl, rfl⟩
          go_wp2_with fail
          refine HC.out.mono ?_
          rintro e w3 ⟨rfl, b3⟩
          have B3 := hb2.trans (b3.mono hb2.size)
          clear b3
          go_wp2_with fail
          go_roundw
          case rel => exact ⟨k + 1, by omega, by go_num, B3, by rw [HF.out]; simp⟩
          case measure => simp [intOf]; omega
      · obtain rfl : k = n := by omega
        have e : (mapL Lib.itoa (totL (k : Int) zss)).take k = mapL Lib.itoa (totL (k : Int) zss) := List.take_of_length_le (by rw [mapL_n, Hn.out]; exact Nat.le_refl _)
        rw [e]
        clear e
        go_wp2_with fail
        go_ret
        exact ⟨by rw [HT.out]; rfl, hb2⟩
set_option maxRecDepth 100000 in
set_option maxHeartbeats 2000000 in
theorem sheetText_any (p : Int) (v : Value) (zss : List (List Int)) (w : World) (h : RdRows .i64 w v zss) (hl : zss.length ≤ 1048576) (hl2 : sumLen zss ≤ 1048576) (hP : Pow w) :
    Calls Tryd.prog 11 #[.int .i64 p, v] w fun e w' => e = .returned (.string (sheetTxt p zss)) ∧ Below w.heap.size w w' := by
  obtain ⟨i0, hi, hz0, hz1, hz2⟩ := info_parts info_str
  have HP := Lib.hid hP
  clear hP
  cases hs : isSheet p zss with
  | false =>
    have HS := Lib.hid (isSheet_any p v zss w h (by omega) (by omega) false hs)
    have HT := Lib.hid (sheetTxt_no hs)
    clear hs h
    go_enter Tryd.func11, Tryd.ntmps11
    go_wp2_with fail
    refine HS.out.mono ?_
    rintro e w1 ⟨rfl, b1⟩
    go_wp2_with fail
    go_ret
    exact ⟨by rw [HT.out]; rfl, b1⟩
  | true =>
    have HS := Lib.hid (isSheet_any p v zss w h (by omega) (by omega) true hs)
    have HTot := Lib.hid (fun wx (hb : Below w.heap.size w wx) who => totalOf_any p who v zss wx (h.below hb) hl hl2)
    have HT := Lib.hid (sheetTxt_yes hs)
    obtain ⟨hp, -, -⟩ := sheet_ok hs
    obtain ⟨n, rfl⟩ := Int.eq_ofNat_of_zero_le (show 0 ≤ p by omega)
    have HJ := Lib.hid (totL_jlen (n : Int) zss hp.2)
    have Hn : Hid ((totL (n : Int) zss).length = n) := Lib.hid (by rw [totL_n]; rfl)
    have hn6 : n ≤ 6 := by omega
    have hn0 : 2 ≤ n := by omega
    clear hs h hp hl hl2
    go_enter Tryd.func11, Tryd.ntmps11
    go_wp2_with fail
    refine HS.out.mono ?_
    rintro e w1 ⟨rfl, b1⟩
    have hsz1 := b1.size
    have B0 : Below w.heap.size w (w1.alloc (.cells #[] 9)) := b1.alloc b1.size _
    have hown0 := World.ownsRow_lit (base := w.heap.size) (e := 9) (size := 1) w1 #[] 0 b1.size (Nat.zero_le _) rfl
    clear HS b1
    go_wp2_with fail
    go_loopw [5, 6, 14] (fun o _ i wr => ∃ k : Nat, k ≤ n ∧ i = .int .i64 k ∧ Below w.heap.size w wr ∧ wr.ownsRow w.heap.size 9 1 o k ((mapL Lib.itoa ((totL (n : Int) zss).take k)).map strV)) (fun _ _ i _ => n - (intOf i).toNat)
    case atStart => exact ⟨0, Nat.zero_le _, rfl, B0, hown0⟩
    case round =>
      clear hown0 B0 hsz1
      obtain ⟨k, hk, rfl, hb2, hown⟩ := hrel
      by_cases hlt : k < n
      · have hzl : k < (totL (n : Int) zss).length := by rw [Hn.out]; exact hlt
        have HT := Lib.hid (mapL_take Lib.itoa (totL (n : Int) zss) k hzl)
        rw [totL_at] at HT
        have HC1 := Lib.hid (HTot.out wr hb2 (k : Int))
        have hwf := tot_wf (n : Int) (k : Int) zss
        have HPw := Lib.hid (HP.out.below hb2 (Nat.le_refl _))
        generalize totalOf (n : Int) zss k = y at *
        generalize hF : (mapL Lib.itoa ((totL (n : Int) zss).take k)) = F at hown HT
        clear hF hzl
        go_wp2_with fail
        refine HC1.out.mono ?_
        rintro e w3 ⟨rfl, b3⟩
        have hown3 := own_below hown b3
        have B3 := hb2.trans (b3.mono hb2.size)
        have HC := Lib.hid (formatInt_any y w3 hwf (HPw.out.below b3 (Nat.le_refl _)))
        generalize Lib.itoa y = Y at *
        clear hown hb2 b3 HC1 hwf HPw
        go_wp2_with fail
        refine HC.out.mono ?_
        rintro e w2 ⟨rfl, b2⟩
        have hown := own_below hown3 b2
        have B2 := B3.trans (b2.mono B3.size)
        have hsz := B2.size
        clear hown3 B3 b2 HC
        go_wp2_with (at_builtin; refine wpList_append_own _ rfl _ _ 64 rfl w.heap.size 9 i0 (.string ⟨#[]⟩) 1 16 Tryd.underlying64 hi hz0 hz1 hz2 rfl (by decide) _ _ _ rfl (hown.alloc _) ⟨w2.heap.size, 0, none⟩ 1 1 [.string ⟨Y.toArray⟩] rfl rfl (one_word w2 Y _) (one_word1 Y) ?c3 ?c4 ?c5 ?_)
        case c3 => unfold maxLen; omega
        case c4 => omega
        case c5 => simp; omega
        intro v' w4 hown' hgrow _
        have hb3 : Below w.heap.size w w4 := (B2.alloc hsz _).grown hgrow (by simp; omega) (own_block hown)
        have e3 : (mapL Lib.itoa ((totL (n : Int) zss).take (k + 1))).map strV = F.map strV ++ [strV Y] := by rw [HT.out]; simp
        have hown4 : w4.ownsRow w.heap.size 9 1 v' (k + 1) ((mapL Lib.itoa ((totL (n : Int) zss).take (k + 1))).map strV) := by rw [e3]; exact hown'
        clear hown' hgrow hown HT e3 B2
        go_wp2_with fail
        go_roundw
        case rel => exact ⟨k + 1, by omega, by go_num, hb3, hown4⟩
        case measure => simp [intOf]; omega
      · obtain rfl : k = n := by omega
        have e : (totL (k : Int) zss).take k = totL (k : Int) zss := List.take_of_length_le (by rw [Hn.out]; exact Nat.le_refl _)
        rw [e] at hown
        have e2 : k = (mapL Lib.itoa (totL (k : Int) zss)).length := by rw [mapL_n]; exact Hn.out.symm
        obtain ⟨pv, cv, ev⟩ := own_shape hown
        subst ev
        obtain ⟨q, hpv, hwd⟩ : ∃ q, pv = some ⟨q, 0, none⟩ ∧ WordsAt wr q (mapL Lib.itoa (totL (k : Int) zss)) := by
          generalize (mapL Lib.itoa (totL (k : Int) zss)) = LS at *
          rw [e2] at hown
          obtain ⟨q, c, e3, hw, -⟩ := own_words hown (by intro e4; rw [e4] at e2; simp at e2; omega)
          exact ⟨q, (Value.slice.inj e3).1, hw⟩
        subst hpv
        have bA : Below wr.heap.size wr (wr.alloc (.cells #[.slice none 0 0] 67)) := (Below.refl _ _).alloc (Nat.le_refl _) _
        have HPW := putWords_any w.heap.size wr.heap.size q cv [] (mapL Lib.itoa (totL (k : Int) zss)) _ (BWr.fresh hb2.size) (hwd.kept (StrKept.of_below bA)) (by rw [← e2]; omega) (by simp; have := HJ.out; omega) (Nat.le_trans hb2.size bA.size)
        have HPW2 : Hid (Calls Tryd.prog 38 #[.pointer (some ⟨wr.heap.size, 0, none⟩), .slice (some ⟨q, 0, none⟩) k cv] (wr.alloc (.cells #[.slice none 0 0] 67)) fun e w' => e = .returned (.tuple #[]) ∧ BWr w' w.heap.size wr.heap.size ([] ++ jl [32] (mapL Lib.itoa (totL (k : Int) zss))) ∧ Below w.heap.size (wr.alloc (.cells #[.slice none 0 0] 67)) w' ∧ StrKept (wr.alloc (.cells #[.slice none 0 0] 67)) w') := Lib.hid (by
          generalize (mapL Lib.itoa (totL (k : Int) zss)) = LS at *
          rw [e2]; exact HPW)
        have HB := Lib.hid (hb2.trans (bA.mono hb2.size))
        clear hown e e2 hwd bA hb2 HPW
        go_wp2_with fail
        refine HPW2.out.mono ?_
        rintro e w3 ⟨rfl, hbw, b3, -⟩
        have B3 := HB.out.trans b3
        obtain ⟨-, v3, hg3, hown3⟩ := hbw
        have hcv := own_conv hown3
        have k3 := cellsB hg3
        rw [List.nil_append] at hcv
        clear hown3 b3 HB HPW2 hg3
        go_wp2_with fail
        go_ret
        exact ⟨by rw [HT.out]; rfl, B3⟩
end Go.Proofs.YtmfammgdcdlceaaDoor
