/-
  Choices by contract, both sides.
-/
import Derived.Test.YtjigglnepcabmaaMay
import Derived.Test.YtjigglnepcabmaaSortS
import Derived.Maps.AppendAt
namespace Go.Proofs.Ytjigglnepcabmaa
open Go.RowKit

def choicesI (h t : List Int) : List Int := (sortI h).filter (mayPlay h t)
theorem choices_none {h t : List Int} (e : isHand h = false) : choicesI h t = [] := by
  unfold choicesI; rw [List.filter_eq_nil_iff]; intro x _; simp [may_0 e]
theorem filter_take {f : Int → Bool} (zs : List Int) (k : Nat) (h : k < zs.length) : (zs.take (k + 1)).filter f = (zs.take k).filter f ++ if f zs[k] then [zs[k]] else [] := by
  rw [List.take_succ_eq_append_getElem h, List.filter_append]
  congr 1
  cases e : f zs[k] <;> simp [e]
theorem choices_le (h t : List Int) : (choicesI h t).length ≤ h.length := by
  have := List.length_filter_le (mayPlay h t) (sortI h)
  unfold choicesI
  rw [sortI_len] at this; exact this

set_option maxRecDepth 100000 in
set_option maxHeartbeats 4000000 in
theorem sChoices_any (v : Value) (zs : List Int) (b : Nat) (v2 : Value) (ts : List Int) (b2 : Nat) (w : World) (h : RdAt .i64 w v zs b) (h2 : RdAt .i64 w v2 ts b2) (hl : zs.length ≤ 1048576) (hl2 : ts.length ≤ 1099511627776) :
    Calls Try.prog 50 #[v, v2] w fun e w' => ∃ v' b', e = .returned v' ∧ w.heap.size ≤ b' ∧ WrAt .i64 w' v' (choicesI zs ts) b' ∧ Below w.heap.size w w' := by
  obtain ⟨i0, hi, hz0, hz1, hz2⟩ := info_parts info_i64
  have HM : Hid (∀ wx c, Below w.heap.size w wx → Calls Try.prog 48 #[v, v2, .int .i64 c] wx fun e w' => e = .returned (.bool (mayPlay zs ts c)) ∧ Below wx.heap.size wx w') := Lib.hid (fun wx c hb => sMayPlay_any v zs b v2 ts b2 c wx (h.below hb) (h2.below hb) (by omega) hl2)
  have HS : Hid (∀ wx, Below w.heap.size w wx → Calls Try.prog 92 #[v] wx fun e w' => ∃ v' b', e = .returned v' ∧ wx.heap.size ≤ b' ∧ WrAt .i64 w' v' (sortI zs) b' ∧ Below wx.heap.size wx w') := Lib.hid (fun wx hb => sSorted_any v zs b wx (h.below hb) (by omega))
  have hown0 := World.ownsRow_lit (base := w.heap.size) (e := 3) (size := 1) w #[] 0 (Nat.le_refl _) (Nat.zero_le _) rfl
  have hB0 : Below w.heap.size w (w.alloc (.cells #[] 3)) := (Below.refl _ _).alloc (Nat.le_refl _) _
  obtain ⟨cs, hcs⟩ : ∃ cs, cs = choicesI zs ts := ⟨_, rfl⟩
  have Hcs := Lib.hid hcs
  have hle := sortI_len zs
  obtain ⟨p0, cap0, rfl, -⟩ := id h
  obtain ⟨p2, cap2, rfl, -⟩ := id h2
  rw [← hcs]
  have B := hB0
  have hown1 := hown0
  have HB9 : Hid (w.heap.size < (w.alloc (.cells #[] 3)).heap.size) := Lib.hid (by simp)
  clear h h2 hcs hB0 hown0
  go_enter Try.func50, Try.ntmps50
  go_wp2_with fail
  refine (HS.out _ B).mono ?_
  rintro e w2 ⟨v3, b3, rfl, hb3, hw3, B3⟩
  have hb9 : Hid (w.heap.size < b3) := Lib.hid (Nat.lt_of_lt_of_le HB9.out hb3)
  have hsw := hw3.rd.wf
  have hrd3 := hw3.rd
  replace hown1 := own_below hown1 B3
  replace B := B.trans (B3.mono B.size)
  obtain ⟨ss, hss⟩ : ∃ ss, ss = sortI zs := ⟨_, rfl⟩
  have Hss := Lib.hid hss
  rw [← hss] at hrd3 hsw hle
  obtain ⟨p3, cap3, rfl, -⟩ := id hrd3
  obtain ⟨n, hn⟩ : ∃ n, n = ss.length := ⟨_, rfl⟩
  have Hn := Lib.hid hn
  have hnl : n ≤ 1048576 := by omega
  have Hf : Hid (cs = ss.filter (mayPlay zs ts)) := Lib.hid (by rw [Hcs.out, hss]; rfl)
  rw [← hn] at hrd3 ⊢
  have hne0 : Hid (∀ g, (Value.slice (some ⟨w.heap.size, 0, none⟩) 0 0).ownBlock = some g → g ≠ b3) := Lib.hid (fun g hg => by
    simp [Value.ownBlock] at hg
    have hb9 := hb9.out
    omega)
  clear hw3 B3 hss hn HS
  go_wp2_with fail
  go_loopw [5, 7] (fun o i wr => ∃ k : Nat, k ≤ n ∧ i = .int .i64 k ∧ RdAt .i64 wr (.slice p3 n cap3) ss b3 ∧ Hid (∀ g, o.ownBlock = some g → g ≠ b3) ∧ Below w.heap.size w wr ∧ wr.ownsRow w.heap.size 3 1 o ((ss.take k).filter (mayPlay zs ts)).length (((ss.take k).filter (mayPlay zs ts)).map (Value.int .i64))) (fun _ i _ => n - (intOf i).toNat)
  case atStart => exact ⟨0, Nat.zero_le _, rfl, hrd3, hne0, B, hown1⟩
  case round =>
    clear hown1 B
    obtain ⟨k, hk, rfl, hrd, hne, B, hown⟩ := hrel
    by_cases hlt : k < n
    · have hzl : k < ss.length := by rw [← Hn.out]; exact hlt
      rcases hrd.open with ⟨h0, -⟩ | ⟨-, off, cap, hq3, -, hc⟩
      · rw [h0] at hzl; simp at hzl
      have hp3 := (Value.slice.inj hq3).1
      clear hq3
      subst hp3
      obtain ⟨y, hy⟩ : ∃ y, Hid (y = ss[k]) := ⟨_, Lib.hid rfl⟩
      have hc1 : wr.cell? ⟨b3, off + k, none⟩ = some (.int .i64 y) := by rw [hc k hzl, hy.out]
      have hblt := hrd.lt (fun e => by rw [e] at hzl; simp at hzl)
      have hstep := filter_take (f := mayPlay zs ts) ss k hzl
      rw [← hy.out] at hstep
      have HM1 := HM.out wr y B
      obtain ⟨q, hq⟩ : ∃ q, q = mayPlay zs ts y := ⟨_, rfl⟩
      rw [← hq] at hstep HM1
      have HM1 := Lib.hid HM1
      have HC1 : Hid (∀ wx, Below wr.heap.size wr wx → wx.cell? ⟨b3, off + k, none⟩ = some (.int .i64 y)) := Lib.hid (fun wx hb => by rw [World.cell?_of_block (w := wr) (a := ⟨b3, off + k, none⟩) (hb.block _ hblt)]; exact hc1)
      have hle2 : ((ss.take k).filter (mayPlay zs ts)).length ≤ n := Nat.le_trans (List.length_filter_le _ _) (by rw [List.length_take, Hn.out]; omega)
      clear hc hq hblt
      cases q with
      | false =>
        have hrel2 : Hid ((ss.take (k + 1)).filter (mayPlay zs ts) = (ss.take k).filter (mayPlay zs ts)) := Lib.hid (by rw [hstep]; simp)
        clear hstep
        go_wp2_with fail
        refine HM1.out.mono ?_
        rintro e w4 ⟨rfl, B4⟩
        replace hown := own_below hown B4
        replace B := B.trans (B4.mono B.size)
        replace hrd := hrd.below B4
        clear B4 HM1 hc1 HC1
        go_wp2_with fail
        go_roundw
        case rel => exact ⟨k + 1, by omega, by go_num, hrd, hne, B, by rw [hrel2.out]; exact hown⟩
        case measure => simp [intOf]; omega
      | true =>
        have hrel2 : Hid ((ss.take (k + 1)).filter (mayPlay zs ts) = (ss.take k).filter (mayPlay zs ts) ++ [y]) := Lib.hid (by rw [hstep]; simp)
        clear hstep
        generalize (ss.take k).filter (mayPlay zs ts) = F at *
        go_wp2_with fail
        refine HM1.out.mono ?_
        rintro e w4 ⟨rfl, B4⟩
        replace hown := own_below hown B4
        replace B := B.trans (B4.mono B.size)
        replace hrd := hrd.below B4
        have hc4 := HC1.out w4 B4
        clear B4 HM1 hc1 HC1
        have hsz := B.size
        go_wp2_with (at_builtin; refine wpList_append_own_at _ rfl _ _ 35 rfl w.heap.size 3 i0 (.int .i64 0) 1 8 Try.underlying35 hi hz0 hz1 hz2 rfl (by decide) _ _ _ rfl (hown.alloc _) ⟨w4.heap.size, 0, none⟩ 1 1 [.int .i64 y] rfl rfl ?c1 ?c2 ?c3 ?c4 ?c5 ?_)
        case c1 => exact cell_one_new _ _ _
        case c2 => intro u hu; simp at hu; subst hu; rfl
        case c3 => unfold maxLen; omega
        case c4 => omega
        case c5 => simp; omega
        intro v' w1 hown' hgrow _ hloc
        have hB6 : Below w.heap.size w w1 := (B.alloc hsz _).grown hgrow (by simp; omega) (own_block hown)
        have hrd6 : RdAt .i64 w1 (.slice (some ⟨b3, off, none⟩) n cap3) ss b3 := (hrd.below ((Below.refl w4.heap.size w4).alloc (Nat.le_refl _) _)).keep (fun hz => hgrow.block b3 (by have := hrd.lt hz; simp; omega) (fun e => hne.out b3 e.symm rfl))
        have hne6 : Hid (∀ g, v'.ownBlock = some g → g ≠ b3) := Lib.hid (fun g hg => by
          rcases hloc with e | e
          · exact hne.out g (by rw [← e]; exact hg)
          · have hb3lt := hrd.lt (fun e => by rw [e] at hzl; simp at hzl)
            rw [e] at hg
            have := Option.some.inj hg
            try simp at this
            omega)
        have hown2 := own_snoc hown'
        clear hown' hgrow hown B hrd hne hloc
        go_wp2_with fail
        go_roundw
        case rel => exact ⟨k + 1, by omega, by go_num, hrd6, hne6, hB6, by rw [hrel2.out]; exact hown2⟩
        case measure => simp [intOf]; omega
    · obtain rfl : k = n := by omega
      have e : ss.take k = ss := List.take_of_length_le (by rw [Hn.out]; exact Nat.le_refl _)
      rw [e, ← Hf.out] at hown
      have hwr := Lib.hid (own_wr hown (fun x hx => hsw x (by rw [Hf.out] at hx; exact (List.mem_filter.1 hx).1)))
      clear hown e
      go_wp2_with fail
      go_ret
      obtain ⟨b', hb', hw'⟩ := hwr.out
      exact ⟨_, b', rfl, hb', hw', B⟩
set_option maxRecDepth 100000 in
set_option maxHeartbeats 4000000 in
theorem choices_any (v : Value) (zs : List Int) (b : Nat) (v2 : Value) (ts : List Int) (b2 : Nat) (w : World) (h : RdAt .i64 w v zs b) (h2 : RdAt .i64 w v2 ts b2) (hl : zs.length ≤ 1048576) (hl2 : ts.length ≤ 1099511627776) :
    Calls Try.prog 51 #[v, v2] w fun e w' => ∃ v' b', e = .returned v' ∧ w.heap.size ≤ b' ∧ WrAt .i64 w' v' (choicesI zs ts) b' ∧ Below w.heap.size w w' := by
  obtain ⟨i0, hi, hz0, hz1, hz2⟩ := info_parts info_i64
  have HM : Hid (∀ wx c, Below w.heap.size w wx → Calls Try.prog 49 #[v, v2, .int .i64 c] wx fun e w' => e = .returned (.bool (mayPlay zs ts c)) ∧ Below wx.heap.size wx w') := Lib.hid (fun wx c hb => mayPlay_any v zs b v2 ts b2 c wx (h.below hb) (h2.below hb) (by omega) hl2)
  have HS : Hid (∀ wx, Below w.heap.size w wx → Calls Try.prog 93 #[v] wx fun e w' => ∃ v' b', e = .returned v' ∧ wx.heap.size ≤ b' ∧ WrAt .i64 w' v' (sortI zs) b' ∧ Below wx.heap.size wx w') := Lib.hid (fun wx hb => sorted_any v zs b wx (h.below hb) (by omega))
  have HI : Hid (∀ wx, Below w.heap.size w wx → Calls Try.prog 89 #[v] wx fun e w' => e = .returned (.bool (isHand zs)) ∧ Below wx.heap.size wx w') := Lib.hid (fun wx hb => isHand_any v zs b wx (h.below hb) (by omega))
  have hown0 := World.ownsRow_lit (base := w.heap.size) (e := 3) (size := 1) w #[] 0 (Nat.le_refl _) (Nat.zero_le _) rfl
  have hB0 : Below w.heap.size w (w.alloc (.cells #[] 3)) := (Below.refl _ _).alloc (Nat.le_refl _) _
  obtain ⟨cs, hcs⟩ : ∃ cs, cs = choicesI zs ts := ⟨_, rfl⟩
  have Hcs := Lib.hid hcs
  have hle := sortI_len zs
  obtain ⟨p0, cap0, rfl, -⟩ := id h
  obtain ⟨p2, cap2, rfl, -⟩ := id h2
  rw [← hcs]
  cases e1 : isHand zs with
  | false =>
    have Hr : Hid (cs = []) := Lib.hid (by rw [hcs]; exact choices_none e1)
    rw [e1] at HI
    have B := hB0
    clear h h2 hcs hB0 hown0 e1 HS HM
    go_enter Try.func51, Try.ntmps51
    go_wp2_with fail
    refine (HI.out _ B).mono ?_
    rintro e w1 ⟨rfl, B1⟩
    replace B := B.trans (B1.mono B.size)
    clear B1
    go_wp2_with fail
    go_ret
    exact ⟨_, w.heap.size, rfl, Nat.le_refl _, by rw [Hr.out]; exact WrAt.nil _ _ _ _ _ ⟨Nat.zero_le _, fun h => by cases h⟩, B⟩
  | true =>
    rw [e1] at HI
    have B := hB0
    have hown1 := hown0
    clear h h2 hcs hB0 hown0 e1
    go_enter Try.func51, Try.ntmps51
    go_wp2_with fail
    refine (HI.out _ B).mono ?_
    rintro e w1 ⟨rfl, B1⟩
    have HB9 : Hid (w.heap.size < w1.heap.size) := Lib.hid (by have := B1.size; simp at this; omega)
    replace hown1 := own_below hown1 B1
    replace B := B.trans (B1.mono B.size)
    clear B1 HI
    go_wp2_with fail
    refine (HS.out _ B).mono ?_
    rintro e w2 ⟨v3, b3, rfl, hb3, hw3, B3⟩
    have hb9 : Hid (w.heap.size < b3) := Lib.hid (Nat.lt_of_lt_of_le HB9.out hb3)
    have hsw := hw3.rd.wf
    have hrd3 := hw3.rd
    replace hown1 := own_below hown1 B3
    replace B := B.trans (B3.mono B.size)
    obtain ⟨ss, hss⟩ : ∃ ss, ss = sortI zs := ⟨_, rfl⟩
    have Hss := Lib.hid hss
    rw [← hss] at hrd3 hsw hle
    obtain ⟨p3, cap3, rfl, -⟩ := id hrd3
    obtain ⟨n, hn⟩ : ∃ n, n = ss.length := ⟨_, rfl⟩
    have Hn := Lib.hid hn
    have hnl : n ≤ 1048576 := by omega
    have Hf : Hid (cs = ss.filter (mayPlay zs ts)) := Lib.hid (by rw [Hcs.out, hss]; rfl)
    rw [← hn] at hrd3 ⊢
    have hne0 : Hid (∀ g, (Value.slice (some ⟨w.heap.size, 0, none⟩) 0 0).ownBlock = some g → g ≠ b3) := Lib.hid (fun g hg => by
      simp [Value.ownBlock] at hg
      have hb9 := hb9.out
      omega)
    clear hw3 B3 hss hn HS
    go_wp2_with fail
    go_loopw [5, 7, 16] (fun o _ i wr => ∃ k : Nat, k ≤ n ∧ i = .int .i64 k ∧ RdAt .i64 wr (.slice p3 n cap3) ss b3 ∧ Hid (∀ g, o.ownBlock = some g → g ≠ b3) ∧ Below w.heap.size w wr ∧ wr.ownsRow w.heap.size 3 1 o ((ss.take k).filter (mayPlay zs ts)).length (((ss.take k).filter (mayPlay zs ts)).map (Value.int .i64))) (fun _ _ i _ => n - (intOf i).toNat)
    case atStart => exact ⟨0, Nat.zero_le _, rfl, hrd3, hne0, B, hown1⟩
    case round =>
      clear hown1 B
      obtain ⟨k, hk, rfl, hrd, hne, B, hown⟩ := hrel
      by_cases hlt : k < n
      · have hzl : k < ss.length := by rw [← Hn.out]; exact hlt
        rcases hrd.open with ⟨h0, -⟩ | ⟨-, off, cap, hq3, -, hc⟩
        · rw [h0] at hzl; simp at hzl
        have hp3 := (Value.slice.inj hq3).1
        clear hq3
        subst hp3
        obtain ⟨y, hy⟩ : ∃ y, Hid (y = ss[k]) := ⟨_, Lib.hid rfl⟩
        have hc1 : wr.cell? ⟨b3, off + k, none⟩ = some (.int .i64 y) := by rw [hc k hzl, hy.out]
        have hblt := hrd.lt (fun e => by rw [e] at hzl; simp at hzl)
        have hstep := filter_take (f := mayPlay zs ts) ss k hzl
        rw [← hy.out] at hstep
        have HM1 := HM.out wr y B
        obtain ⟨q, hq⟩ : ∃ q, q = mayPlay zs ts y := ⟨_, rfl⟩
        rw [← hq] at hstep HM1
        have HM1 := Lib.hid HM1
        have HC1 : Hid (∀ wx, Below wr.heap.size wr wx → wx.cell? ⟨b3, off + k, none⟩ = some (.int .i64 y)) := Lib.hid (fun wx hb => by rw [World.cell?_of_block (w := wr) (a := ⟨b3, off + k, none⟩) (hb.block _ hblt)]; exact hc1)
        have hle2 : ((ss.take k).filter (mayPlay zs ts)).length ≤ n := Nat.le_trans (List.length_filter_le _ _) (by rw [List.length_take, Hn.out]; omega)
        clear hc hq hblt
        cases q with
        | false =>
          have hrel2 : Hid ((ss.take (k + 1)).filter (mayPlay zs ts) = (ss.take k).filter (mayPlay zs ts)) := Lib.hid (by rw [hstep]; simp)
          clear hstep
          go_wp2_with fail
          refine HM1.out.mono ?_
          rintro e w4 ⟨rfl, B4⟩
          replace hown := own_below hown B4
          replace B := B.trans (B4.mono B.size)
          replace hrd := hrd.below B4
          clear B4 HM1 hc1 HC1
          go_wp2_with fail
          go_roundw
          case rel => exact ⟨k + 1, by omega, by go_num, hrd, hne, B, by rw [hrel2.out]; exact hown⟩
          case measure => simp [intOf]; omega
        | true =>
          have hrel2 : Hid ((ss.take (k + 1)).filter (mayPlay zs ts) = (ss.take k).filter (mayPlay zs ts) ++ [y]) := Lib.hid (by rw [hstep]; simp)
          clear hstep
          generalize (ss.take k).filter (mayPlay zs ts) = F at *
          go_wp2_with fail
          refine HM1.out.mono ?_
          rintro e w4 ⟨rfl, B4⟩
          replace hown := own_below hown B4
          replace B := B.trans (B4.mono B.size)
          replace hrd := hrd.below B4
          have hc4 := HC1.out w4 B4
          clear B4 HM1 hc1 HC1
          have hsz := B.size
          go_wp2_with (at_builtin; refine wpList_append_own_at _ rfl _ _ 35 rfl w.heap.size 3 i0 (.int .i64 0) 1 8 Try.underlying35 hi hz0 hz1 hz2 rfl (by decide) _ _ _ rfl (hown.alloc _) ⟨w4.heap.size, 0, none⟩ 1 1 [.int .i64 y] rfl rfl ?c1 ?c2 ?c3 ?c4 ?c5 ?_)
          case c1 => exact cell_one_new _ _ _
          case c2 => intro u hu; simp at hu; subst hu; rfl
          case c3 => unfold maxLen; omega
          case c4 => omega
          case c5 => simp; omega
          intro v' w1 hown' hgrow _ hloc
          have hB6 : Below w.heap.size w w1 := (B.alloc hsz _).grown hgrow (by simp; omega) (own_block hown)
          have hrd6 : RdAt .i64 w1 (.slice (some ⟨b3, off, none⟩) n cap3) ss b3 := (hrd.below ((Below.refl w4.heap.size w4).alloc (Nat.le_refl _) _)).keep (fun hz => hgrow.block b3 (by have := hrd.lt hz; simp; omega) (fun e => hne.out b3 e.symm rfl))
          have hne6 : Hid (∀ g, v'.ownBlock = some g → g ≠ b3) := Lib.hid (fun g hg => by
            rcases hloc with e | e
            · exact hne.out g (by rw [← e]; exact hg)
            · have hb3lt := hrd.lt (fun e => by rw [e] at hzl; simp at hzl)
              rw [e] at hg
              have := Option.some.inj hg
              try simp at this
              omega)
          have hown2 := own_snoc hown'
          clear hown' hgrow hown B hrd hne hloc
          go_wp2_with fail
          go_roundw
          case rel => exact ⟨k + 1, by omega, by go_num, hrd6, hne6, hB6, by rw [hrel2.out]; exact hown2⟩
          case measure => simp [intOf]; omega
      · obtain rfl : k = n := by omega
        have e : ss.take k = ss := List.take_of_length_le (by rw [Hn.out]; exact Nat.le_refl _)
        rw [e, ← Hf.out] at hown
        have hwr := Lib.hid (own_wr hown (fun x hx => hsw x (by rw [Hf.out] at hx; exact (List.mem_filter.1 hx).1)))
        clear hown e
        go_wp2_with fail
        go_ret
        obtain ⟨b', hb', hw'⟩ := hwr.out
        exact ⟨_, b', rfl, hb', hw', B⟩
end Go.Proofs.Ytjigglnepcabmaa
