/-
  CallsText and FormatNumbers, both sides.
-/
import Derived.Test.YtmfammgdcdlceaaDoorByteW
import Derived.Test.YtmfammgdcdlceaaDoorView
import Derived.Test.YtmfammgdcdlceaaDoorItoa
import Derived.Laws.BytesArg
namespace Go.Proofs.YtmfammgdcdlceaaDoor
open Go.RowKit
set_option linter.unusedVariables false
set_option linter.unusedSimpArgs false

def callL (c : Int) : List UInt8 := if c = 0 then [112] else Lib.itoa c
theorem callL_0 : callL 0 = [112] := rfl
theorem callL_n {c : Int} (h : c ≠ 0) : callL c = Lib.itoa c := if_neg h
def mapL (f : Int → List UInt8) (zs : List Int) : List (List UInt8) := zs.map f
theorem mapL_n (f : Int → List UInt8) (zs : List Int) : (mapL f zs).length = zs.length := by simp [mapL]
theorem mapL_take (f : Int → List UInt8) (zs : List Int) (k : Nat) (h : k < zs.length) : mapL f (zs.take (k + 1)) = mapL f (zs.take k) ++ [f zs[k]] := by
  unfold mapL
  rw [List.take_succ_eq_append_getElem h, List.map_append]
  rfl
theorem mapL_jlen {f : Int → List UInt8} {zs : List Int} (hf : ∀ x ∈ zs, (f x).length ≤ 20) (hl : zs.length ≤ 1048576) (sep : List UInt8) (hs : sep.length ≤ 1) : jlen sep (mapL f zs) ≤ 30000000 := by
  have h1 : Lib.lens (mapL f zs) ≤ 20 * (mapL f zs).length := lens_le (fun l hx => by
    obtain ⟨x, hx2, rfl⟩ := List.mem_map.1 hx
    exact hf x hx2)
  unfold jlen
  rw [mapL_n] at *
  have := Nat.mul_le_mul_right zs.length hs
  omega
theorem callL_len {x : Int} (h : (Lit.int .i64 x).wf = true) : (callL x).length ≤ 20 := by
  have b := bounds_i64 h
  unfold callL; split
  · simp
  · exact itoa_len x (by omega) (by omega)
theorem itoaL_len {x : Int} (h : (Lit.int .i64 x).wf = true) : (Lib.itoa x).length ≤ 20 := by
  have b := bounds_i64 h
  exact itoa_len x (by omega) (by omega)
def callsTxt (zs : List Int) : ByteArray := lineT [32] (mapL callL zs)
def numsTxt (zs : List Int) : ByteArray := lineT [32] (mapL Lib.itoa zs)
theorem own_conv {w : World} {B : Nat} {v : Value} {l : List UInt8} (h : w.ownsRow B 5 1 v l.length (Lib.byteCells l)) : (convert 65 9 v).run Tryd.prog w = .ok (.string ⟨l.toArray⟩) w := by
  have hcell := h
  obtain ⟨h1, h2⟩ := h
  rcases h2 with ⟨rfl, h0⟩ | ⟨g, cap, cur, rfl, hg, hh, hnc, hcm, hcs, htake⟩
  · have : l = [] := List.eq_nil_of_length_eq_zero h0
    subst this
    exact run_convert_bytes_nil w _ _ Tryd.underlying65 Tryd.underlying5 _ _ _ Tryd.underlying9
  · refine run_convert_bytes_back w _ _ 5 _ cap l Tryd.underlying65 Tryd.underlying5 Tryd.underlying9 (fun j hj => ?_)
    have e0 : (⟨g, 0, none⟩ : Addr).add j = ⟨g, j, none⟩ := by simp [Addr.add]; intro h; exact h.symm
    rw [e0, hcell.cellAt j (by simpa [Lib.byteCells] using hj)]
    simp [Lib.byteCells, hj]
set_option maxRecDepth 100000 in
set_option maxHeartbeats 1000000 in
theorem sNumbers_any (v : Value) (zs : List Int) (b : Nat) (w : World) (h : RdAt .i64 w v zs b) (hl : zs.length ≤ 1048576) :
    Calls Tryd.prog 41 #[v] w fun e w' => ∃ v', e = .returned v' ∧ w'.ownsRow w.heap.size 9 1 v' zs.length ((mapL Lib.itoa zs).map strV) ∧ Below w.heap.size w w' := by
  obtain ⟨i0, hi, hz0, hz1, hz2⟩ := info_parts info_str
  obtain ⟨a, cap, rfl, -, hwf, hcell⟩ := h
  obtain ⟨n, hn⟩ : ∃ n, n = zs.length := ⟨_, rfl⟩
  have Hn := Lib.hid hn
  rw [← hn] at hl ⊢
  clear hn
  go_enter Tryd.func41, Tryd.ntmps41
  go_wp2_with fail
  have hown0 := World.ownsRow_lit (base := w.heap.size) (e := 9) (size := 1) w #[] 0 (Nat.le_refl _) (Nat.zero_le _) rfl
  go_loopw [3, 4] (fun o i wr => ∃ k : Nat, k ≤ n ∧ i = .int .i64 k ∧ Below w.heap.size w wr ∧ wr.ownsRow w.heap.size 9 1 o k ((mapL Lib.itoa (zs.take k)).map strV)) (fun _ i _ => n - (intOf i).toNat)
  case atStart => exact ⟨0, Nat.zero_le _, rfl, (Below.refl _ _).alloc (Nat.le_refl _) _, hown0⟩
  case round =>
    clear hown0
    obtain ⟨k, hk, rfl, hb2, hown⟩ := hrel
    by_cases hlt : k < n
    · have hzl : k < zs.length := by rw [← Hn.out]; exact hlt
      rcases hcell with h0 | ⟨off, rfl, hc⟩
      · subst h0; simp at hzl
      obtain ⟨y, hy⟩ : ∃ y, y = zs[k] := ⟨_, rfl⟩
      have hc1 : wr.cell? ⟨b, off + k, none⟩ = some (.int .i64 y) := by
        have h1 := hc k hzl
        rw [hb2.cell (World.block_lt_of_cell? _ _ h1), h1, hy]
      have hyw : (Lit.int .i64 y).wf = true := by rw [hy]; exact hwf _ (List.getElem_mem hzl)
      have HT := Lib.hid (mapL_take Lib.itoa zs k hzl)
      rw [← hy] at HT
      clear hc hy
      generalize hF : (mapL Lib.itoa (zs.take k)) = F at hown HT
      clear hF
      have HC := Lib.hid (sFormatInt_any y wr hyw)
      obtain ⟨Y, hY⟩ : ∃ Y, Y = Lib.itoa y := ⟨_, rfl⟩
      rw [← hY] at HC HT
      clear hyw hY
      go_wp2_with fail
      refine HC.out.mono ?_
      rintro e w2 ⟨rfl, b2⟩
      have hown := own_below hown b2
      have B2 := hb2.trans (b2.mono hb2.size)
      have hsz := B2.size
      clear hb2 b2 HC hc1
      go_wp2_with (at_builtin; refine wpList_append_own _ rfl _ _ 64 rfl w.heap.size 9 i0 (.string ⟨#[]⟩) 1 16 Tryd.underlying64 hi hz0 hz1 hz2 rfl (by decide) _ _ _ rfl (hown.alloc _) ⟨w2.heap.size, 0, none⟩ 1 1 [.string ⟨Y.toArray⟩] rfl rfl (one_word w2 Y _) (one_word1 Y) ?c3 ?c4 ?c5 ?_)
      case c3 => unfold maxLen; omega
      case c4 => omega
      case c5 => simp; omega
      intro v' w1 hown' hgrow _
      have hb3 : Below w.heap.size w w1 := (B2.alloc hsz _).grown hgrow (by simp; omega) (own_block hown)
      have e3 : (mapL Lib.itoa (zs.take (k + 1))).map strV = F.map strV ++ [strV Y] := by rw [HT.out]; simp
      have hown4 : w1.ownsRow w.heap.size 9 1 v' (k + 1) ((mapL Lib.itoa (zs.take (k + 1))).map strV) := by rw [e3]; exact hown'
      clear hown' hgrow hown HT e3 B2
      go_wp2_with fail
      go_roundw
      case rel => exact ⟨k + 1, by omega, by go_num, hb3, hown4⟩
      case measure => simp [intOf]; omega
    · obtain rfl : k = n := by omega
      have e : zs.take k = zs := List.take_of_length_le (by rw [Hn.out]; exact Nat.le_refl _)
      rw [e] at hown
      have Hown := Lib.hid hown
      clear hown e hcell
      go_wp2_with fail
      go_ret
      exact ⟨_, rfl, Hown.out, hb2⟩
set_option maxRecDepth 100000 in
theorem sFormatNumbers_any (v : Value) (zs : List Int) (b : Nat) (w : World) (h : RdAt .i64 w v zs b) (hl : zs.length ≤ 1048576) :
    Calls Tryd.prog 58 #[v] w fun e w' => e = .returned (.string (numsTxt zs)) ∧ Below w.heap.size w w' := by
  have HJ := Lib.hid (mapL_jlen (f := Lib.itoa) (fun x hx => itoaL_len (h.wf x hx)) hl [32] (by decide))
  have HC := Lib.hid (sNumbers_any v zs b w h hl)
  have Hel : Hid (∀ l ∈ mapL Lib.itoa zs, l.length ≤ 1099511627776) := Lib.hid (fun l hx => by
    obtain ⟨x, hx2, rfl⟩ := List.mem_map.1 hx
    have := itoaL_len (h.wf x hx2); omega)
  clear h
  go_enter Tryd.func58, Tryd.ntmps58
  go_wp2_with fail
  refine HC.out.mono ?_
  rintro e w1 ⟨v', rfl, hown, b1⟩
  rw [show zs.length = (mapL Lib.itoa zs).length from (mapL_n _ _).symm] at hown
  obtain ⟨q, hrd⟩ := own_str hown
  have HD := Lib.hid (sJoin_any v' (mapL Lib.itoa zs) q [32] w1 hrd (by rw [mapL_n]; omega) (by have := HJ.out; omega) (by decide) Hel.out)
  clear hown hrd HC
  go_wp2_with fail
  refine HD.out.mono ?_
  rintro e _w ⟨rfl, rfl⟩
  go_wp2_with fail
  go_ret
  exact ⟨rfl, b1⟩
set_option maxRecDepth 100000 in
set_option maxHeartbeats 1000000 in
theorem putNumbers_any (B g b : Nat) (ls : List (List UInt8)) (v : Value) (zs : List Int) (w : World) (h : VW w B g ls) (hz : ∀ wx, Below B w wx → RdAt .i64 wx v zs b) (hx : ls.length ≤ 100000000) (hl : zs.length ≤ 1048576) (hB : B ≤ w.heap.size) (hP : ∀ wx, Below B w wx → Pow wx) :
    Calls Tryd.prog 42 #[.pointer (some ⟨g, 0, none⟩), v] w fun e w' => e = .returned (.tuple #[]) ∧ VW w' B g (ls ++ mapL Lib.itoa zs) ∧ Below B w w' := by
  have Hz := Lib.hid hz
  have HP := Lib.hid hP
  obtain ⟨a, cap, rfl, -, hwf, hcell⟩ := hz w (Below.refl _ _)
  obtain ⟨n, hn⟩ : ∃ n, n = zs.length := ⟨_, rfl⟩
  have Hn := Lib.hid hn
  rw [← hn] at hl ⊢
  have Hv := Lib.hid hn
  rw [← hn] at Hz
  clear hn hP hz
  have H0 : Hid (VW w B g (ls ++ mapL Lib.itoa (zs.take 0))) := Lib.hid (by simpa [mapL] using h)
  clear h
  go_enter Tryd.func42, Tryd.ntmps42
  go_wp2_with fail
  go_loopw [5, 8] (fun _ i wr => ∃ k : Nat, k ≤ n ∧ i = .int .i64 k ∧ Hid (VW wr B g (ls ++ mapL Lib.itoa (zs.take k))) ∧ Below B w wr) (fun _ i _ => n - (intOf i).toNat)
  case atStart => exact ⟨0, Nat.zero_le _, rfl, H0, Below.refl _ _⟩
  case round =>
    clear H0
    obtain ⟨k, hk, rfl, hvw, hb2⟩ := hrel
    by_cases hlt : k < n
    · have hzl : k < zs.length := by rw [← Hn.out]; exact hlt
      rcases hcell with h0 | ⟨off, rfl, hc⟩
      · subst h0; simp at hzl
      obtain ⟨y, hy⟩ : ∃ y, y = zs[k] := ⟨_, rfl⟩
      have hc1 : wr.cell? ⟨b, off + k, none⟩ = some (.int .i64 y) := by
        rcases (Hz.out wr hb2).open with ⟨h00, -⟩ | ⟨-, off2, c2, hv, -, hc2⟩
        · rw [h00] at hzl; simp at hzl
        · have e := (Value.slice.inj hv).1
          have e := Option.some.inj e
          injection e with _ e2 _
          subst e2
          rw [hc2 k hzl, hy]
      have hyw : (Lit.int .i64 y).wf = true := by rw [hy]; exact hwf _ (List.getElem_mem hzl)
      have HT : Hid (ls ++ mapL Lib.itoa (zs.take (k + 1)) = (ls ++ mapL Lib.itoa (zs.take k)) ++ [Lib.itoa y]) := Lib.hid (by rw [hy, mapL_take Lib.itoa zs k hzl, List.append_assoc])
      have hFl : (ls ++ mapL Lib.itoa (zs.take k)).length ≤ 110000000 := by
        rw [List.length_append, mapL_n, List.length_take]; omega
      clear hc hy
      generalize (ls ++ mapL Lib.itoa (zs.take k)) = F at *
      have HC := Lib.hid (formatInt_any y wr hyw (HP.out wr hb2))
      generalize Lib.itoa y = Y at *
      have hBr := Nat.le_trans hB hb2.size
      clear hyw
      go_wp2_with fail
      refine HC.out.mono ?_
      rintro e w2 ⟨rfl, b2⟩
      have hvw2 := hvw.out.below b2
      have B2 := hb2.trans (b2.mono hBr)
      have bA : Below w2.heap.size w2 (w2.alloc (.cells #[.string ⟨Y.toArray⟩] 9)) := (Below.refl _ _).alloc (Nat.le_refl _) _
      have hB2 := Nat.le_trans hB B2.size
      have HPt := Lib.hid (put1_any B g w2.heap.size F Y _ (hvw2.below bA) (by rw [World.cell?_alloc_new]; rfl) (by omega) (Nat.le_trans hB2 bA.size))
      have HB := Lib.hid (B2.trans (bA.mono hB2))
      clear hvw hb2 b2 HC hc1 hvw2 B2 bA
      go_wp2_with fail
      refine HPt.out.mono ?_
      rintro e w3 ⟨rfl, hv3, b3⟩
      have B3 := HB.out.trans b3
      rw [← HT.out] at hv3
      replace hv3 := Lib.hid hv3
      clear b3 HPt HB
      go_wp2_with fail
      go_roundw
      case rel => exact ⟨k + 1, by omega, by go_num, hv3, B3⟩
      case measure => simp [intOf]; omega
    · obtain rfl : k = n := by omega
      have e : zs.take k = zs := List.take_of_length_le (by rw [Hn.out]; exact Nat.le_refl _)
      rw [e] at hvw
      clear e
      go_wp2_with fail
      exact bodyPost_end (v := .tuple #[]) (by first | rfl | simp [results, go_sem]) rfl ⟨rfl, hvw.out, hb2⟩
set_option maxRecDepth 100000 in
theorem formatNumbers_any (v : Value) (zs : List Int) (b : Nat) (w : World) (h : RdAt .i64 w v zs b) (hl : zs.length ≤ 1048576) (hP : Pow w) :
    Calls Tryd.prog 59 #[v] w fun e w' => e = .returned (.string (numsTxt zs)) ∧ Below w.heap.size w w' := by
  have HJ := Lib.hid (mapL_jlen (f := Lib.itoa) (fun x hx => itoaL_len (h.wf x hx)) hl [32] (by decide))
  obtain ⟨W0, hW0⟩ : ∃ W, W = w.alloc (.cells #[.slice none 0 0] 73) := ⟨_, rfl⟩
  have B0 : Below w.heap.size w W0 := by rw [hW0]; exact (Below.refl _ _).alloc (Nat.le_refl _) _
  have V0 : VW W0 w.heap.size w.heap.size [] := by rw [hW0]; exact VW.fresh w
  have HC := Lib.hid (putNumbers_any w.heap.size w.heap.size b [] v zs W0 V0 (fun wx hb => h.below (B0.trans hb)) (by simp) hl B0.size (fun wx hb => hP.below (B0.trans hb) (Nat.le_refl _)))
  have HW := Lib.hid hW0
  have HB := Lib.hid B0
  have Hl := Lib.hid hl
  clear h hP hW0 V0 B0 hl
  go_enter Tryd.func59, Tryd.ntmps59
  go_wp2_with fail
  rw [← HW.out]
  refine HC.out.mono ?_
  rintro e w1 ⟨rfl, hv, b1⟩
  have B1 := HB.out.trans b1
  rw [List.nil_append] at hv
  have HL := Lib.hid (line_any w.heap.size w.heap.size (mapL Lib.itoa zs) w1 hv (by rw [mapL_n]; have := Hl.out; omega) (by have := HJ.out; omega) B1.size)
  clear hv b1 HC HB
  go_wp2_with fail
  refine HL.out.mono ?_
  rintro e w2 ⟨rfl, b2⟩
  have B2 := B1.trans b2
  go_wp2_with fail
  go_ret
  exact ⟨rfl, B2⟩
end Go.Proofs.YtmfammgdcdlceaaDoor
