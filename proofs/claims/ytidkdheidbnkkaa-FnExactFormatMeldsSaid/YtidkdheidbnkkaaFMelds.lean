/-
  FormatMelds, both sides.
-/
import Derived.Test.YtidkdheidbnkkaaView
import Derived.Test.YtidkdheidbnkkaaHandTS
import Derived.Test.YtidkdheidbnkkaaHandTI
import Derived.Test.YtidkdheidbnkkaaIntRows
namespace Go.Proofs.Ytidkdheidbnkkaa
open Go.RowKit
set_option linter.unusedVariables false
set_option linter.unusedSimpArgs false

def handL (zs : List Int) : List UInt8 := (handTxt zs).data.toList
def handsL (zss : List (List Int)) : List (List UInt8) := zss.map handL
theorem handL_v (zs : List Int) : Value.string (handTxt zs) = strV (handL zs) := (strV_of _).symm
theorem handL_len (zs : List Int) : (handL zs).length ≤ 2 * zs.length + 1 := by
  unfold handL handTxt dashed
  split
  · simp
  · have := allL_len cardL (fun c => (cardL_len c).2) zs
    simp; omega
theorem handsL_take (zss : List (List Int)) (k : Nat) (h : k < zss.length) : handsL (zss.take (k + 1)) = handsL (zss.take k) ++ [handL zss[k]] := by
  unfold handsL
  rw [List.take_succ_eq_append_getElem h, List.map_append]
  rfl
theorem handsL_lens : ∀ zss : List (List Int), Lib.lens (handsL zss) ≤ 2 * sumLen zss + zss.length
  | [] => by simp [handsL, Lib.lens]
  | z :: r => by
    have h1 := handL_len z
    have h2 := handsL_lens r
    have e : Lib.lens (handsL (z :: r)) = (handL z).length + Lib.lens (handsL r) := by simp [handsL, Lib.lens]
    have e2 : sumLen (z :: r) = z.length + sumLen r := by simp [sumLen]
    rw [e, e2, List.length_cons]; omega
theorem handsL_n (zss : List (List Int)) : (handsL zss).length = zss.length := by simp [handsL]
theorem handsL_jlen (zss : List (List Int)) (hl : zss.length ≤ 1048576) (hl2 : sumLen zss ≤ 1048576) : jlen [32] (handsL zss) ≤ 1099511627776 := by
  have := handsL_lens zss
  unfold jlen
  rw [handsL_n]
  simp; omega
def fmtMelds (zss : List (List Int)) : ByteArray := lineT [32] (handsL zss)
set_option maxRecDepth 100000 in
set_option maxHeartbeats 1000000 in
theorem sFormatMelds_any (v : Value) (zss : List (List Int)) (w : World) (h : RdRows .i64 w v zss) (hl : zss.length ≤ 1048576) (hl2 : sumLen zss ≤ 1048576) :
    Calls Try.prog 16 #[v] w fun e w' => e = .returned (.string (fmtMelds zss)) ∧ Below w.heap.size w w' := by
  obtain ⟨i0, hi, hz0, hz1, hz2⟩ := info_parts info_str
  have Hrow := Lib.hid (fun wx (hb : Below w.heap.size w wx) j (hj : j < zss.length) => (h.below hb).row hj)
  have Hel := Lib.hid (fun j (hj : j < zss.length) => Nat.le_trans (len_le_sum zss hj) hl2)
  have HJ := Lib.hid (handsL_jlen zss hl hl2)
  obtain ⟨a, cap, rfl, -, -⟩ := id h
  obtain ⟨n, hn⟩ : ∃ n, n = zss.length := ⟨_, rfl⟩
  have Hn := Lib.hid hn
  rw [← hn] at hl ⊢
  clear hn h hl2
  go_enter Try.func16, Try.ntmps16
  go_wp2_with fail
  have hown0 := World.ownsRow_lit (base := w.heap.size) (e := 9) (size := 1) w #[] 0 (Nat.le_refl _) (Nat.zero_le _) rfl
  go_loopw [3, 4] (fun o i wr => ∃ k : Nat, k ≤ n ∧ i = .int .i64 k ∧ Below w.heap.size w wr ∧ wr.ownsRow w.heap.size 9 1 o k ((handsL (zss.take k)).map strV)) (fun _ i _ => n - (intOf i).toNat)
  case atStart => exact ⟨0, Nat.zero_le _, rfl, (Below.refl _ _).alloc (Nat.le_refl _) _, hown0⟩
  case round =>
    clear hown0
    obtain ⟨k, hk, rfl, hb2, hown⟩ := hrel
    by_cases hlt : k < n
    · have hzl : k < zss.length := by rw [← Hn.out]; exact hlt
      obtain ⟨blk, off, cap', p, c, b, hv, hc, hrd, -⟩ := Hrow.out wr hb2 k hzl
      have ha := (Value.slice.inj hv).1
      clear hv
      subst ha
      obtain ⟨z, hz⟩ : ∃ z, z = zss[k]'hzl := ⟨_, rfl⟩
      have hlen := Hel.out k hzl
      have HT := Lib.hid (handsL_take zss k hzl)
      rw [← hz] at hc hrd hlen HT
      have HC := Lib.hid (sHandText_any _ z b wr hrd hlen)
      obtain ⟨m, hm⟩ : ∃ m, m = z.length := ⟨_, rfl⟩
      rw [← hm] at hc HC
      clear hrd hm hz
      generalize hF : (handsL (zss.take k)) = F at hown HT
      clear hF
      go_wp2_with fail
      refine HC.out.mono ?_
      rintro e w2 ⟨rfl, b2⟩
      have hown2 := own_below hown b2
      have B2 := hb2.trans (b2.mono hb2.size)
      clear hown hb2 b2 HC hc
      have hsz := B2.size
      go_wp2_with (at_builtin; refine wpList_append_own _ rfl _ _ 50 rfl w.heap.size 9 i0 (.string ⟨#[]⟩) 1 16 Try.underlying50 hi hz0 hz1 hz2 rfl (by decide) _ _ _ rfl (hown2.alloc _) ⟨w2.heap.size, 0, none⟩ 1 1 [.string (handTxt z)] rfl rfl (by rw [handL_v]; exact one_word w2 (handL z) _) (by rw [handL_v]; exact one_word1 _) ?c3 ?c4 ?c5 ?_)
      case c3 => unfold maxLen; omega
      case c4 => omega
      case c5 => simp; omega
      intro v' w1 hown' hgrow _
      have hb3 : Below w.heap.size w w1 := (B2.alloc hsz _).grown hgrow (by simp; omega) (own_block hown2)
      have e3 : (handsL (zss.take (k + 1))).map strV = F.map strV ++ [.string (handTxt z)] := by rw [HT.out, handL_v]; simp
      rw [← e3] at hown'
      clear hgrow hown2 B2 HT e3
      go_wp2_with fail
      go_roundw
      case rel => exact ⟨k + 1, by omega, by go_num, hb3, hown'⟩
      case measure => simp [intOf]; omega
    · obtain rfl : k = n := by omega
      have e : zss.take k = zss := List.take_of_length_le (by rw [Hn.out]; exact Nat.le_refl _)
      rw [e] at hown
      have e2 : k = (handsL zss).length := by rw [handsL_n]; exact Hn.out
      obtain ⟨pv, cv, ev⟩ := own_shape hown
      subst ev
      have hs : ∃ b, RdStr wr (.slice pv k cv) (handsL zss) b := by
        rw [e2] at hown ⊢
        exact own_str hown
      obtain ⟨b, hrd⟩ := hs
      have HC := Lib.hid (sJoin_any _ (handsL zss) b [32] wr hrd (by rw [← e2]; omega) HJ.out (by decide) (fun l hl => Nat.le_trans (elem_le_lens hl) (by have := HJ.out; unfold jlen at this; omega)))
      clear hown e hrd e2
      go_wp2_with fail
      refine HC.out.mono ?_
      rintro e _w ⟨rfl, rfl⟩
      go_wp2_with fail
      go_ret
      exact ⟨rfl, hb2⟩
set_option maxRecDepth 100000 in
set_option maxHeartbeats 1000000 in
theorem formatMelds_any (v : Value) (zss : List (List Int)) (w : World) (h : RdRows .i64 w v zss) (hl : zss.length ≤ 1048576) (hl2 : sumLen zss ≤ 1048576) :
    Calls Try.prog 18 #[v] w fun e w' => e = .returned (.string (fmtMelds zss)) ∧ Below w.heap.size w w' := by
  have Hrow := Lib.hid (fun wx (hb : Below w.heap.size w wx) j (hj : j < zss.length) => (h.below hb).row hj)
  have Hel := Lib.hid (fun j (hj : j < zss.length) => Nat.le_trans (len_le_sum zss hj) hl2)
  have HJ := Lib.hid (handsL_jlen zss hl hl2)
  obtain ⟨a, cap, rfl, -, -⟩ := id h
  obtain ⟨n, hn⟩ : ∃ n, n = zss.length := ⟨_, rfl⟩
  have Hn := Lib.hid hn
  rw [← hn] at hl ⊢
  clear hn h hl2
  obtain ⟨W0, hW0⟩ : ∃ W, W = w.alloc (.cells #[.slice none 0 0] 53) := ⟨_, rfl⟩
  have V0 : Hid (VW W0 w.heap.size w.heap.size []) := Lib.hid (by rw [hW0]; exact VW.fresh w)
  have B0 : Below w.heap.size w W0 := by rw [hW0]; exact (Below.refl _ _).alloc (Nat.le_refl _) _
  have HW := Lib.hid hW0
  clear hW0
  go_enter Try.func18, Try.ntmps18
  go_wp2_with fail
  rw [← HW.out]
  go_loopw [5, 8] (fun _ i wr => ∃ k : Nat, k ≤ n ∧ i = .int .i64 k ∧ Below w.heap.size w wr ∧ Hid (VW wr w.heap.size w.heap.size (handsL (zss.take k)))) (fun _ i _ => n - (intOf i).toNat)
  case atStart => exact ⟨0, Nat.zero_le _, rfl, B0, V0⟩
  case round =>
    clear V0 B0
    obtain ⟨k, hk, rfl, hb2, hvw⟩ := hrel
    by_cases hlt : k < n
    · have hzl : k < zss.length := by rw [← Hn.out]; exact hlt
      obtain ⟨blk, off, cap', p, c, b, hv, hc, hrd, -⟩ := Hrow.out wr hb2 k hzl
      have ha := (Value.slice.inj hv).1
      clear hv
      subst ha
      obtain ⟨z, hz⟩ : ∃ z, z = zss[k]'hzl := ⟨_, rfl⟩
      have hlen := Hel.out k hzl
      have HT := Lib.hid (handsL_take zss k hzl)
      rw [← hz] at hc hrd hlen HT
      have HC := Lib.hid (handText_any _ z b wr hrd hlen)
      have HFl : Hid ((handsL (zss.take k)).length ≤ 1048576) := Lib.hid (by rw [handsL_n, List.length_take]; omega)
      obtain ⟨m, hm⟩ : ∃ m, m = z.length := ⟨_, rfl⟩
      rw [← hm] at hc HC
      clear hrd hm hz
      generalize hF : (handsL (zss.take k)) = F at hvw HT HFl
      clear hF
      go_wp2_with fail
      refine HC.out.mono ?_
      rintro e w2 ⟨rfl, b2⟩
      have hvw2 := hvw.out.below b2
      have B2 := hb2.trans (b2.mono hb2.size)
      have bA : Below w2.heap.size w2 (w2.alloc (.cells #[.string (handTxt z)] 9)) := (Below.refl _ _).alloc (Nat.le_refl _) _
      have HP := Lib.hid (put1_any w.heap.size w.heap.size w2.heap.size F (handL z) _ (hvw2.below bA) (by rw [World.cell?_alloc_new, ← handL_v]; rfl) (by have := HFl.out; omega) (Nat.le_trans B2.size bA.size))
      have HB := Lib.hid (B2.trans (bA.mono B2.size))
      clear hvw hb2 b2 HC hc hvw2 B2 bA
      go_wp2_with fail
      refine HP.out.mono ?_
      rintro e w3 ⟨rfl, hv3, b3⟩
      have B3 := HB.out.trans b3
      rw [← HT.out] at hv3
      replace hv3 := Lib.hid hv3
      clear b3 HP HB
      go_wp2_with fail
      go_roundw
      case rel => exact ⟨k + 1, by omega, by go_num, B3, hv3⟩
      case measure => simp [intOf]; omega
    · obtain rfl : k = n := by omega
      have e : zss.take k = zss := List.take_of_length_le (by rw [Hn.out]; exact Nat.le_refl _)
      rw [e] at hvw
      have HC := Lib.hid (line_any w.heap.size w.heap.size (handsL zss) wr hvw.out (by rw [handsL_n, ← Hn.out]; omega) HJ.out hb2.size)
      clear e hvw
      go_wp2_with fail
      refine HC.out.mono ?_
      rintro e w3 ⟨rfl, b3⟩
      have B3 := hb2.trans b3
      go_wp2_with fail
      go_ret
      exact ⟨rfl, B3⟩
end Go.Proofs.Ytidkdheidbnkkaa
