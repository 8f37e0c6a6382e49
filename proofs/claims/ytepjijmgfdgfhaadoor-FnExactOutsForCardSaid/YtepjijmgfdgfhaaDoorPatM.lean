/-
  Cards that match a pattern: the program's side.
-/
import Derived.Test.YtepjijmgfdgfhaaDoorPatG
import Derived.Test.YtepjijmgfdgfhaaDoorDeck
import Derived.ArgAppend
namespace Go.Proofs.YtepjijmgfdgfhaaDoor
open Go.RowKit
set_option linter.unusedVariables false
set_option linter.unusedSimpArgs false

/-- Whether a card matches. -/
def matchB (p : List Int) (c : Int) : Bool := isPat p && (isCard c && patF p c)
def matchL (p l : List Int) : List Int := l.filter (matchB p)
def cntM (p l : List Int) : Int := (matchL p l).length
def matchSet (p : List Int) : List Int := matchL p deck
theorem matchL_len (p l : List Int) : (matchL p l).length ≤ l.length := List.length_filter_le _ _
theorem matchSet_len (p : List Int) : (matchSet p).length ≤ 52 := by have := matchL_len p deck; rw [show deck.length = 52 from by show (marksI 0 52).length = 52; rw [marksI_length]] at this; exact this
theorem matchL_take (p l : List Int) (k : Nat) (h : k < l.length) : matchL p (l.take (k + 1)) = matchL p (l.take k) ++ if matchB p (l.getD k 0) = true then [l.getD k 0] else [] := by
  unfold matchL
  rw [List.take_succ_eq_append_getElem h, List.filter_append]
  congr 1
  have : l.getD k 0 = l[k] := by simp [List.getD, h]
  rw [this]
  by_cases e : matchB p l[k] = true <;> simp [e]
theorem matchL_none {p : List Int} (h : isPat p = false) (l : List Int) : matchL p l = [] := by
  unfold matchL
  rw [List.filter_eq_nil_iff]
  intro x hx
  unfold matchB; rw [h]; simp
theorem own_baseM {w : World} {B B' : Nat} {E : TypeId} {size n : Nat} {v : Value} {xs : List Value} (h : w.ownsRow B E size v n xs) (hb : B' ≤ B) : w.ownsRow B' E size v n xs := by
  obtain ⟨h1, h2⟩ := h
  refine ⟨h1, h2.imp id ?_⟩
  rintro ⟨g, cap, cur, e, hg, r⟩
  exact ⟨g, cap, cur, e, Nat.le_trans hb hg, r⟩
/-- The row of the cards that match: empty as it was laid, or laid since. -/
def RowM (w0 w1 : Nat) (wr : World) (o : Value) (xs : List Int) : Prop :=
  (o = .slice (some ⟨w0, 0, none⟩) 0 0 ∧ xs = [] ∧ wr.ownsRow w0 3 1 o 0 []) ∨ wr.ownsRow w1 3 1 o xs.length (xs.map (Value.int .i64))
theorem RowM.below {w0 w1 : Nat} {wr wx : World} {o : Value} {xs : List Int} (h : RowM w0 w1 wr o xs) (b : Below wr.heap.size wr wx) : RowM w0 w1 wx o xs := by
  rcases h with ⟨h1, h2, h3⟩ | h
  · exact .inl ⟨h1, h2, own_below h3 b⟩
  · exact .inr (own_below h b)
theorem RowM.wr {w0 w1 : Nat} {wr : World} {o : Value} {xs : List Int} (h : RowM w0 w1 wr o xs) (h01 : w0 ≤ w1) (hw : ∀ n ∈ xs, (Lit.int .i64 n).wf = true) : ∃ b', w0 ≤ b' ∧ WrAt .i64 wr o xs b' := by
  rcases h with ⟨h1, rfl, h3⟩ | h
  · exact own_wr (zs := []) h3 (fun n hn => by simp at hn)
  · obtain ⟨b', hb, hr⟩ := own_wr h hw
    exact ⟨b', by omega, hr⟩
set_option maxRecDepth 100000 in
set_option maxHeartbeats 2000000 in
theorem matching_any (vp vl : Value) (p zs : List Int) (bp b : Nat) (w : World) (hp : RdAt .i64 w vp p bp) (h : RdAt .i64 w vl zs b) (hpl : p.length ≤ 1048576) (hl : zs.length ≤ 1048576) (hG : Grps w) :
    Calls Tryd.prog 32 #[vp, vl] w fun e w' => ∃ v' b', e = .returned v' ∧ w.heap.size ≤ b' ∧ WrAt .i64 w' v' (matchL p zs) b' ∧ Below w.heap.size w w' := by
  obtain ⟨i0, hi, hz0, hz1, hz2⟩ := info_parts info_i64
  have HM : Hid (∀ wx, Below w.heap.size w wx → Calls Tryd.prog 38 #[vp] wx fun e w' => (∃ f, e = .returned (.tuple #[f, .bool (isPat p)]) ∧ (isPat p = true → Means wx.heap.size w' f (patF p))) ∧ Below wx.heap.size wx w') := Lib.hid (fun wx bx => matcherOf_any vp p bp wx (hp.below bx) (by omega) (hG.below bx))
  have hlt0 := h.lt
  have hwf := Lib.hid h.wf
  obtain ⟨a, cap, rfl, -, -, hcell⟩ := h
  obtain ⟨n, hn⟩ : ∃ n, n = zs.length := ⟨_, rfl⟩
  have Hn := Lib.hid hn
  rw [← hn] at hl ⊢
  clear hn
  have HCl : Hid (∀ wx, Below w.heap.size w wx → ∀ k, k < n → ∃ off, a = some ⟨b, off, none⟩ ∧ wx.cell? ⟨b, off + k, none⟩ = some (.int .i64 (zs.getD k 0))) := Lib.hid (fun wx hb k hk => by
    have hk : k < zs.length := by rw [← Hn.out]; exact hk
    rcases hcell with h0 | ⟨off, e, hc⟩
    · subst h0; simp at hk
    · refine ⟨off, e, ?_⟩
      rw [hb.cell (hlt0 (by intro e; subst e; simp at hk)), hc k hk]
      simp [List.getD, hk])
  clear hcell hlt0 hG hpl hp
  have hown0 := World.ownsRow_lit (base := w.heap.size) (e := 3) (size := 1) w #[] 0 (Nat.le_refl _) (Nat.zero_le _) rfl
  have B0 : Below w.heap.size w (w.alloc (.cells #[] 3)) := (Below.refl _ _).alloc (Nat.le_refl _) _
  have HB0 := Lib.hid B0
  have HO0 := Lib.hid hown0
  clear B0 hown0
  cases hpt : isPat p with
  | false =>
    have hres : Hid (matchL p zs = []) := Lib.hid (matchL_none hpt zs)
    rw [hpt] at HM
    clear hpt
    go_enter Tryd.func32, Tryd.ntmps32
    go_wp2_with fail
    refine (HM.out _ HB0.out).mono ?_
    rintro e w1 ⟨⟨f, rfl, -⟩, B1⟩
    have B2 := HB0.out.trans (B1.mono HB0.out.size)
    have hown1 := own_below HO0.out B1
    have HW := Lib.hid (own_wr (k := .i64) (zs := []) hown1 (fun x hx => by cases hx))
    clear hown1 B1
    go_wp2_with fail
    go_ret
    obtain ⟨b2, hb2', hw2⟩ := HW.out
    rw [hres.out]
    exact ⟨_, b2, rfl, hb2', hw2, B2⟩
  | true =>
    have Hpt := Lib.hid hpt
    rw [hpt] at HM
    clear hpt
    go_enter Tryd.func32, Tryd.ntmps32
    go_wp2_with fail
    refine (HM.out _ HB0.out).mono ?_
    rintro e w1 ⟨⟨f, rfl, hmf⟩, B1⟩
    have Bw1 := HB0.out.trans (B1.mono HB0.out.size)
    have hown1 := own_below HO0.out B1
    have hm1 := hmf trivial
    obtain ⟨fn, caps, rfl, hE, hMc⟩ := hm1
    have HMc := Lib.hid hMc
    unfold Enters at hE
    clear hMc hmf B1
    go_wp2_with fail
    go_loopw [5, 9, 10, 11, 23] (fun o _ _ _ i wr => ∃ k : Nat, k ≤ n ∧ i = .int .i64 k ∧ Below w.heap.size w wr ∧ Below w1.heap.size w1 wr ∧ Hid (RowM w.heap.size w1.heap.size wr o (matchL p (zs.take k)))) (fun _ _ _ _ i _ => n - (intOf i).toNat)
    case atStart => exact ⟨0, Nat.zero_le _, rfl, Bw1, Below.refl _ _, Lib.hid (.inl ⟨rfl, rfl, hown1⟩)⟩
    case round =>
      obtain ⟨k, hk, rfl, B, Bf, hown⟩ := hrel
      by_cases hlt : k < n
      · have hkz : k < zs.length := by rw [← Hn.out]; exact hlt
        obtain ⟨off, ha, hc⟩ := HCl.out wr B k hlt
        subst ha
        obtain ⟨y, hy⟩ : ∃ y, Hid (zs.getD k 0 = y) := ⟨_, Lib.hid rfl⟩
        rw [hy.out] at hc
        have hstep := matchL_take p zs k hkz
        rw [hy.out] at hstep
        have hml : (matchL p (zs.take k)).length ≤ n := Nat.le_trans (matchL_len p (zs.take k)) (by rw [List.length_take, Hn.out]; omega)
        cases hcd : isCard y with
        | false =>
          have hrel2 : Hid (matchL p (zs.take (k + 1)) = matchL p (zs.take k)) := Lib.hid (by rw [hstep]; unfold matchB; rw [Hpt.out, hcd]; simp)
          have HC := Lib.hid (cardOf_out y wr hcd)
          clear hcd hstep
          go_wp2_with fail
          refine HC.out.mono ?_
          rintro e _w ⟨rfl, rfl⟩
          go_wp2_with fail
          go_roundw
          case rel => exact ⟨k + 1, by omega, by go_num, B, Bf, by rw [hrel2.out]; exact hown⟩
          case measure => simp [intOf]; omega
        | true =>
          have HC := Lib.hid (cardOf_in y wr hcd)
          obtain ⟨y0, y1⟩ := isCard_t hcd
          have HF := Lib.hid (HMc.out wr (Below.keeps Bf) y y0 y1)
          cases hpf : patF p y with
          | false =>
            have hrel2 : Hid (matchL p (zs.take (k + 1)) = matchL p (zs.take k)) := Lib.hid (by rw [hstep]; unfold matchB; rw [Hpt.out, hcd, hpf]; simp)
            rw [hpf] at HF
            clear hcd hstep hpf
            go_wp2_with fail
            refine HC.out.mono ?_
            rintro e _w ⟨rfl, rfl⟩
            go_wp2_with fail
            refine HF.out.mono ?_
            rintro e w2 ⟨rfl, B2⟩
            have B3 := B.trans (B2.mono B.size)
            have Bf3 := Bf.trans (B2.mono Bf.size)
            have hown2 := Lib.hid (hown.out.below B2)
            clear hown
            go_wp2_with fail
            go_roundw
            case rel => exact ⟨k + 1, by omega, by go_num, B3, Bf3, by rw [hrel2.out]; exact hown2⟩
            case measure => simp [intOf]; omega
          | true =>
            have hrel2 : Hid (matchL p (zs.take (k + 1)) = matchL p (zs.take k) ++ [y]) := Lib.hid (by rw [hstep]; unfold matchB; rw [Hpt.out, hcd, hpf]; simp)
            rw [hpf] at HF
            clear hcd hstep hpf
            generalize matchL p (zs.take k) = FF at *
            go_wp2_with fail
            refine HC.out.mono ?_
            rintro e _w ⟨rfl, rfl⟩
            go_wp2_with fail
            refine HF.out.mono ?_
            rintro e w2 ⟨rfl, B2⟩
            have B3 := B.trans (B2.mono B.size)
            have Bf3 := Bf.trans (B2.mono Bf.size)
            have hown2 := hown.out.below B2
            have hsz := B3.size
            have hszf := Bf3.size
            have h01 := Bw1.size
            clear hown B2
            rcases hown2 with ⟨rfl, rfl, h3⟩ | hown2
            · clear h3
              go_wp2_with (at_builtin; refine wpList_append_grows _ rfl _ _ 22 rfl 3 i0 (.int .i64 0) 1 8 Tryd.underlying22 hi hz0 hz1 hz2 rfl (by decide) (some ⟨w.heap.size, 0, none⟩) 0 0 [] rfl (fun e => by cases e) rfl (fun _ _ j u h => by simp at h) ⟨w2.heap.size, 0, none⟩ 1 1 [.int .i64 y] rfl rfl ?c1 ?c2 (by omega) ?c3 (by omega) ?_)
              case c1 => exact cell_one_new _ _ _
              case c2 => intro u hu; simp at hu; subst hu; rfl
              case c3 => unfold maxLen; omega
              intro v' w3 hown' hgrow
              have hb3 : Below w.heap.size w w3 := (B3.alloc hsz _).grown hgrow (by simp; omega) (fun k hk => by cases hk)
              have hbf3 : Below w1.heap.size w1 w3 := (Bf3.alloc hszf _).grown hgrow (by simp; omega) (fun k hk => by cases hk)
              have hown3 : w3.ownsRow w1.heap.size 3 1 v' ([] ++ [y] : List Int).length (([] ++ [y] : List Int).map (Value.int .i64)) := own_baseM hown' (by first | omega | (simp; omega))
              have hrow := Lib.hid (show RowM w.heap.size w1.heap.size w3 v' ([] ++ [y]) from .inr hown3)
              clear hown' hgrow hown3
              go_wp2_with fail
              go_roundw
              case rel => exact ⟨k + 1, by omega, by go_num, hb3, hbf3, by rw [hrel2.out]; exact hrow⟩
              case measure => simp [intOf]; omega
            · go_wp2_with (at_builtin; refine wpList_append_own _ rfl _ _ 22 rfl w1.heap.size 3 i0 (.int .i64 0) 1 8 Tryd.underlying22 hi hz0 hz1 hz2 rfl (by decide) _ _ _ rfl (hown2.alloc _) ⟨w2.heap.size, 0, none⟩ 1 1 [.int .i64 y] rfl rfl ?c1 ?c2 ?c3 ?c4 ?c5 ?_)
              case c1 => exact cell_one_new _ _ _
              case c2 => intro u hu; simp at hu; subst hu; rfl
              case c3 => unfold maxLen; omega
              case c4 => omega
              case c5 => simp; omega
              intro v' w3 hown' hgrow _
              have hb3 : Below w.heap.size w w3 := (B3.alloc hsz _).grown hgrow (by simp; omega) (fun k hk => Nat.le_trans h01 (own_block hown2 k hk))
              have hbf3 : Below w1.heap.size w1 w3 := (Bf3.alloc hszf _).grown hgrow (by simp; omega) (own_block hown2)
              have hrow := Lib.hid (show RowM w.heap.size w1.heap.size w3 v' (FF ++ [y]) from .inr (own_snoc hown'))
              clear hown' hgrow hown2
              go_wp2_with fail
              go_roundw
              case rel => exact ⟨k + 1, by omega, by go_num, hb3, hbf3, by rw [hrel2.out]; exact hrow⟩
              case measure => simp [intOf]; omega
      · obtain rfl : k = n := by omega
        have he : Hid (matchL p (zs.take k) = matchL p zs) := Lib.hid (by rw [List.take_of_length_le (by rw [Hn.out]; exact Nat.le_refl _)])
        rw [he.out] at hown
        have HW := Lib.hid (hown.out.wr Bw1.size (fun x hx => hwf.out x (List.mem_filter.1 hx).1))
        clear hown
        go_wp2_with fail
        go_ret
        obtain ⟨b2, hb2', hw2⟩ := HW.out
        exact ⟨_, b2, rfl, hb2', hw2, B⟩
set_option maxRecDepth 100000 in
theorem countMatches_any (vp vl : Value) (p zs : List Int) (bp b : Nat) (w : World) (hp : RdAt .i64 w vp p bp) (h : RdAt .i64 w vl zs b) (hpl : p.length ≤ 1048576) (hl : zs.length ≤ 1048576) (hG : Grps w) :
    Calls Tryd.prog 26 #[vp, vl] w fun e w' => e = .returned (.int .i64 (cntM p zs)) ∧ Below w.heap.size w w' := by
  have HM := Lib.hid (matching_any vp vl p zs bp b w hp h hpl hl hG)
  clear hp h hG
  go_enter Tryd.func26, Tryd.ntmps26
  go_wp2_with fail
  refine HM.out.mono ?_
  rintro e w1 ⟨v', b', rfl, -, hw, B⟩
  obtain ⟨a, cap, rfl, -⟩ := id hw
  clear hw
  go_wp2_with fail
  go_ret
  exact ⟨rfl, B⟩
end Go.Proofs.YtepjijmgfdgfhaaDoor
