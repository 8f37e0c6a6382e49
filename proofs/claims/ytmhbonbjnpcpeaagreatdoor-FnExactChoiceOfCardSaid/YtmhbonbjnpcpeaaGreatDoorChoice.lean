/-
  ChoiceOf.
-/
import Derived.Test.YtmhbonbjnpcpeaaGreatDoorM10
import Derived.Test.YtmhbonbjnpcpeaaGreatDoorM12
import Derived.Test.YtmhbonbjnpcpeaaGreatDoorM15
import Derived.Test.YtmhbonbjnpcpeaaGreatDoorM6
namespace Go.Proofs.YtmhbonbjnpcpeaaGreatDoor
open Go.RowKit
set_option linter.unusedVariables false
set_option linter.unusedSimpArgs false

theorem RdGame.hands {w : World} {D : MGame} {a0 a1 a2 a3 a4 a5 a6 a7 a8 a9 a10 a11 a12 a13 : Value} (h : RdGame w (.agg #[a0, a1, a2, a3, a4, a5, a6, a7, a8, a9, a10, a11, a12, a13]) D) : RdRows .i64 w a8 D.hands := by
  obtain ⟨p4, p5, p8, p9, p10, c4, c5, c8, c9, c10, b9, b10, e, h0, h8, -⟩ := h
  simp at e
  obtain ⟨-, -, -, -, -, -, -, -, rfl, -⟩ := e
  exact h8
theorem suitsIn_at (h p : List Int) (k : Nat) (hk : k < p.length) : (suitsIn h p).getD k 0 = (suitCounts h).getD (suitOf p[k]).toNat 0 := by simp [suitsIn, List.getD, hk]
theorem MGame.Few.sum {D : MGame} (h : D.Few) : sumLen D.hands ≤ 1048576 := by
  obtain ⟨-, h1, h2, -⟩ := h
  exact h2
set_option maxRecDepth 100000 in
set_option maxHeartbeats 4000000 in
theorem sChoiceOf_any (v : Value) (D : MGame) (kd : Int) (w : World) (h : RdGame w v D) (hf : D.Few) :
    Calls Tryz.prog 5 #[v, .int .i64 kd] w fun e w' => e = .returned (.int .i64 (choiceG D kd)) ∧ Below w.heap.size w w' := by
  obtain ⟨p4, p5, p8, p9, p10, c4, c5, c8, c9, c10, ev⟩ := h.shape
  subst ev
  obtain ⟨W0, hW0⟩ : ∃ W, W = w.alloc (.cells #[.int .i64 D.rules.players, .int .i64 D.rules.each, .bool D.rules.sameSuit, .bool D.rules.sameRank, .slice p4 D.rules.wild.length c4, .slice p5 D.rules.skip.length c5, .int .i64 D.rules.take, .int .i64 D.rules.limit, .slice p8 D.hands.length c8, .slice p9 D.stock.length c9, .slice p10 D.heap.length c10, .int .i64 D.turn, .int .i64 D.moves, .int .i64 D.passes] 32) := ⟨_, rfl⟩
  have G0 : W0.heap[w.heap.size]? = some (.cells #[.int .i64 D.rules.players, .int .i64 D.rules.each, .bool D.rules.sameSuit, .bool D.rules.sameRank, .slice p4 D.rules.wild.length c4, .slice p5 D.rules.skip.length c5, .int .i64 D.rules.take, .int .i64 D.rules.limit, .slice p8 D.hands.length c8, .slice p9 D.stock.length c9, .slice p10 D.heap.length c10, .int .i64 D.turn, .int .i64 D.moves, .int .i64 D.passes] 32 (0, 0)) := by rw [hW0]; exact heap_alloc_new _ _
  have hsz : W0.heap.size = w.heap.size + 1 := by rw [hW0]; simp
  have B0 : Below w.heap.size w W0 := by rw [hW0]; exact (Below.refl _ _).alloc (Nat.le_refl _) _
  have hr8 := h.hands
  have HP := Lib.hid (sPlayable_any _ D W0 (h.below B0) hf)
  have HR := Lib.hid (fun wx (hb : Below w.heap.size w wx) => hr8.below hb)
  have Hs := Lib.hid hf.sum
  have HW := Lib.hid hW0
  have HB := Lib.hid (And.intro G0 (And.intro hsz B0))
  obtain ⟨r, hr⟩ : ∃ r, r = choiceG D kd := ⟨_, rfl⟩
  have Hr := Lib.hid hr
  rw [← hr]
  clear h hf hW0 G0 hsz B0 hr8 hr
  go_enter Tryz.func5, Tryz.ntmps5
  go_upto_region 1 with fail
  rw [← HW.out]
  obtain ⟨G0, hsz, B0⟩ := HB.out
  refine wp_region_lit ?_
  refine wpList_load_row rfl 32 _ rfl w.heap.size rfl 32 _ _ _ G0 Tryz.underlying32 rfl (by kernel_rfl) ?_
  clear G0 hsz B0
  go_wp2_with fail
  refine HP.out.mono ?_
  rintro e w1 ⟨vp, rfl, own, B1⟩
  obtain ⟨pp, cp, ep⟩ := own.shape
  subst ep
  obtain ⟨G0, hsz, B0⟩ := HB.out
  have Bw : Below w.heap.size w w1 := B0.trans (B1.mono B0.size)
  have G1 : w1.heap[w.heap.size]? = some (.cells #[.int .i64 D.rules.players, .int .i64 D.rules.each, .bool D.rules.sameSuit, .bool D.rules.sameRank, .slice p4 D.rules.wild.length c4, .slice p5 D.rules.skip.length c5, .int .i64 D.rules.take, .int .i64 D.rules.limit, .slice p8 D.hands.length c8, .slice p9 D.stock.length c9, .slice p10 D.heap.length c10, .int .i64 D.turn, .int .i64 D.moves, .int .i64 D.passes] 32 (0, 0)) := (B1.block _ (by omega)).trans G0
  have hlen := playable_len (D := D) Hs.out
  obtain ⟨bp, hrd⟩ := own.wr.rd
  clear G0 hsz B0 B1 HP
  by_cases hp : playableG D = []
  · have Hf : Hid (r = -1) := Lib.hid (by rw [Hr.out]; exact choice_none _ hp)
    have hl0 : (playableG D).length = 0 := by rw [hp]; rfl
    rw [hl0]
    clear hl0 hrd own hlen hp G1
    go_wp2_with fail
    go_ret
    exact ⟨by rw [Hf.out]; rfl, Bw⟩
  · obtain ⟨L, hL⟩ : ∃ L, L = (playableG D).length := ⟨_, rfl⟩
    have hL0 : 0 < L := by rw [hL]; exact List.length_pos_iff.2 hp
    obtain ⟨off, rfl, hcell⟩ : ∃ off, pp = some ⟨bp, off, none⟩ ∧ Cells .i64 w1 bp off (playableG D) := by
      obtain ⟨a', cap', e', -, -, hq⟩ := id hrd
      rcases hq with hq | ⟨o, ho, hc⟩
      · exact absurd hq hp
      · exact ⟨o, (Value.slice.inj e').1.trans ho, hc⟩
    rw [← hL] at hlen ⊢
    have hLne : ((L : Int) == 0) = false := by simp; omega
    have hLp : (0 : Int) < (L : Int) := by omega
    have HL := Lib.hid hL
    have Hp := Lib.hid hp
    have Hcell := Lib.hid hcell
    have Hrd := Lib.hid hrd
    have HGb := Lib.hid G1
    clear hL hp hcell hrd own G1
    have hat : ∀ i (hi : i < L), w1.cell? ⟨bp, off + i, none⟩ = some (.int .i64 ((playableG D).getD i 0)) := fun i hi => by
      have hi' : i < (playableG D).length := by rw [← HL.out]; exact hi
      rw [Hcell.out i hi']; simp [List.getD, hi']
    by_cases k0 : kd = 0
    · subst k0
      have Hf : Hid (r = (playableG D).getD 0 0) := Lib.hid (by rw [Hr.out]; exact choice_0 Hp.out)
      have hc := hat 0 hL0
      rw [Nat.add_zero] at hc
      clear hat
      go_wp2_with fail
      go_ret
      exact ⟨by rw [Hf.out]; rfl, Bw⟩
    by_cases k1 : kd = 1
    · subst k1
      have Hf : Hid (r = (playableG D).getD ((playableG D).length - 1) 0) := Lib.hid (by rw [Hr.out]; exact choice_1 Hp.out)
      obtain ⟨M, hM⟩ : ∃ M, M = L - 1 := ⟨_, rfl⟩
      have hML : M < L := by omega
      have hwr : IntKind.i64.wrap ((L : Int) - 1) = (M : Int) := by rw [IntKind.wrap_i64]; omega
      have hMi : (M : Int) < (L : Int) := by omega
      have hM0 : (0 : Int) ≤ (M : Int) := by omega
      have hc := hat M hML
      rw [← HL.out, ← hM] at Hf
      clear hat hM k0
      go_wp2_with fail
      go_ret
      exact ⟨by rw [Hf.out]; rfl, Bw⟩
    have q0 : (kd == 0) = false := by simpa using k0
    have q1 : (kd == 1) = false := by simpa using k1
    by_cases k2 : kd = 2
    rotate_left
    · have Hf : Hid (r = -1) := Lib.hid (by rw [Hr.out]; exact choice_no (by omega))
      have q2 : (kd == 2) = false := by simpa using k2
      clear hat k0 k1 k2
      go_wp2_with fail
      go_ret
      exact ⟨by rw [Hf.out]; rfl, Bw⟩
    subst k2
    have Hf : Hid (r = pickS (handG D) (playableG D)) := Lib.hid (by rw [Hr.out]; exact choice_2 Hp.out)
    obtain ⟨t, ht, htl, -⟩ := game_nums (goes_game (playable_goes Hp.out)).1
    obtain ⟨b8, o8, cap, pr, cr, br, hv, hcr, hrr, -⟩ := (HR.out w1 Bw).row htl
    have ha := (Value.slice.inj hv).1
    subst ha
    have z8 := box_cell HGb.out 8
    have z11 := box_cell HGb.out 11
    simp at z8 z11
    rw [ht] at z11
    obtain ⟨zr, hzr⟩ : ∃ z, z = D.hands[t]'htl := ⟨_, rfl⟩
    have hz : handG D = zr := by unfold handG; rw [hzr, ht]; simp [List.getD, htl]
    have hsm : zr.length ≤ 1048576 := by rw [hzr]; exact Nat.le_trans (len_le_sum D.hands htl) Hs.out
    rw [← hzr] at hcr hrr
    rw [hz] at Hf
    have HSC := Lib.hid (sSuitCounts_any _ zr br w1 hrr hsm)
    have hti : (t : Int) < (D.hands.length : Int) := by omega
    have Hat := Lib.hid hat
    clear hat hv hrr hsm hzr hz ht htl k0 k1 q0 q1
    go_wp2_with fail
    refine HSC.out.mono ?_
    rintro e w2 ⟨vs, bs, rfl, hbs, hws, B2⟩
    clear z8 z11 hcr hti HSC
    obtain ⟨ps, cs, es, -, hwfs, hqs⟩ := hws.rd
    rw [suitCounts_len] at es
    subst es
    obtain ⟨os, rfl, hcs⟩ : ∃ o, ps = some ⟨bs, o, none⟩ ∧ Cells .i64 w2 bs o (suitCounts zr) := by
      rcases hqs with hq | hq
      · have := suitCounts_len zr; rw [hq] at this; simp at this
      · exact hq
    have Hcs : Hid (∀ wx, Below w2.heap.size w2 wx → ∀ s : Nat, s < 4 → wx.cell? ⟨bs, os + s, none⟩ = some (.int .i64 ((suitCounts zr).getD s 0))) := Lib.hid (fun wx hb s hs => by
      have h4 := hcs s (by rw [suitCounts_len]; exact hs)
      rw [(hb.cell (World.block_lt_of_cell? _ _ h4)).trans h4]
      simp [List.getD, suitCounts_len, hs])
    have Hwfs : Hid (∀ s : Nat, (Lit.int .i64 ((suitCounts zr).getD s 0)).wf = true) := Lib.hid (fun s => by
      by_cases hs : s < (suitCounts zr).length
      · simp only [List.getD, List.getElem?_eq_getElem hs, Option.getD_some]; exact hwfs _ (List.getElem_mem _)
      · simp only [List.getD, List.getElem?_eq_none (Nat.le_of_not_lt hs), Option.getD_none]; decide)
    have Hpc : Hid (∀ wx, Below w2.heap.size w2 wx → ∀ i, i < L → wx.cell? ⟨bp, off + i, none⟩ = some (.int .i64 ((playableG D).getD i 0))) := Lib.hid (fun wx hb i hi => by
      have h4 := Hat.out i hi
      have h5 := (B2.cell (World.block_lt_of_cell? _ _ h4)).trans h4
      exact (hb.cell (World.block_lt_of_cell? _ _ h5)).trans h5)
    have Bw2 := Bw.trans (B2.mono Bw.size)
    have HBw := Lib.hid Bw2
    obtain ⟨W2, hW2⟩ : ∃ W, W = w2.alloc (.cells #[] 3) := ⟨_, rfl⟩
    have bL : Below w2.heap.size w2 W2 := by rw [hW2]; exact (Below.refl _ _).alloc (Nat.le_refl _) _
    have own0 : Hid (OwnI (In w2.heap.size W2.heap.size) W2 (.slice (some ⟨w2.heap.size, 0, none⟩) 0 0) []) := Lib.hid (OwnI.nil _ _ _)
    have HW2 := Lib.hid hW2
    clear hbs hws hwfs hqs hcs B2 Bw Bw2 Hat hW2
    go_wp2_with fail
    rw [← HW2.out]
    go_loopw [7, 8] (fun o i wr => ∃ k : Nat, k ≤ L ∧ i = .int .i64 k ∧ Below w2.heap.size w2 wr ∧ Hid (OwnI (fun b => w2.heap.size ≤ b ∧ b < wr.heap.size) wr o (suitsIn zr ((playableG D).take k)))) (fun _ i _ => L - (intOf i).toNat)
    case atStart => exact ⟨0, Nat.zero_le _, rfl, bL, Lib.hid (own0.out.mono (fun b hb _ => hb))⟩
    case round =>
      clear own0 bL
      obtain ⟨k, hk, rfl, B, ho⟩ := hrel
      by_cases hlt : k < L
      · have hkp : k < (playableG D).length := by rw [← HL.out]; exact hlt
        obtain ⟨y, hy⟩ : ∃ y, y = (playableG D)[k] := ⟨_, rfl⟩
        have hgy : (playableG D).getD k 0 = y := by rw [hy]; simp [List.getD, hkp]
        have hcy := Hpc.out wr B k hlt
        rw [hgy] at hcy
        have hcard : isCard y = true := by rw [hy]; exact playable_card (List.getElem_mem hkp)
        obtain ⟨s0, s1⟩ := suit_range hcard
        obtain ⟨s, hs⟩ : ∃ s : Nat, suitOf y = (s : Int) := ⟨(suitOf y).toNat, by omega⟩
        have hs4 : s < 4 := by omega
        have hcn := Hcs.out wr B s hs4
        obtain ⟨x, hx⟩ : ∃ x, x = (suitCounts zr).getD s 0 := ⟨_, rfl⟩
        rw [← hx] at hcn
        have hst : Hid (suitsIn zr ((playableG D).take (k + 1)) = suitsIn zr ((playableG D).take k) ++ [x]) := Lib.hid (by rw [suitsIn_take _ _ _ hkp, ← hy, hs, hx]; rfl)
        have hxw : (Lit.int .i64 x).wf = true := by rw [hx]; exact Hwfs.out s
        have HS := Lib.hid (fun wx => sSuitOf_r y wx s hs)
        have hlk : (suitsIn zr ((playableG D).take k)).length = k := by rw [suitsIn_len, List.length_take]; omega
        obtain ⟨q, cq, eq⟩ := ho.out.shape
        subst eq
        have hA : Below wr.heap.size wr (wr.alloc (.cells #[.int .i64 x] 3)) := (Below.refl _ _).alloc (Nat.le_refl _) _
        obtain ⟨v9, w9, run9, own9, gr9⟩ := (ho.out.below hA).append (ys := [x]) ⟨wr.heap.size, 0, none⟩ 1 (by simp) (fun i hi => by
          have hi0 : i = 0 := (by simpa using hi)
          subst hi0
          have := cell_one_new wr (.int .i64 x) 3 0 (.int .i64 x) rfl
          simpa using this) (by simpa using hxw) (by rw [hlk]; simp; omega) 22
        have hsA := hA.size
        have B9 : Below w2.heap.size w2 w9 := (B.trans (hA.mono B.size)).grown gr9 (Nat.le_trans B.size hsA) (fun q hq => ((ho.out.below hA).held hq).1.1)
        have ho9 : Hid (OwnI (fun b => w2.heap.size ≤ b ∧ b < w9.heap.size) w9 v9 (suitsIn zr ((playableG D).take (k + 1)))) := Lib.hid (by
          rw [hst.out]
          exact own9.mono (fun b hb hl => by
            rcases hb with hb | hb
            · exact ⟨((ho.out.below hA).held hb).1.1, hl⟩
            · have := B.size; exact ⟨by omega, hl⟩))
        have Q := Lib.hid run9
        rw [hlk] at Q ⊢
        have HB9 := Lib.hid B9
        have hsi : (s : Int) < 4 := by omega
        have hs0 : (0 : Int) ≤ (s : Int) := by omega
        clear hkp hy hgy hcard s0 s1 hs hx hst hxw hlk ho hA run9 own9 gr9 hsA B9
        go_wp2_with fail
        refine (HS.out _).mono ?_
        rintro e _w ⟨rfl, rfl⟩
        go_wp2_with (at_builtin; refine Lib.wpList_append_run _ rfl _ _ _ _ rfl _ _ rfl rfl _ _ Q.out ?_)
        go_roundw
        case rel => exact ⟨k + 1, by omega, by go_num, HB9.out, ho9⟩
        case measure => simp [intOf]; omega
      · obtain rfl : k = L := by omega
        have hall : (playableG D).take k = playableG D := List.take_of_length_le (by rw [← HL.out]; exact Nat.le_refl _)
        rw [hall] at ho
        obtain ⟨bq, hrq⟩ := ho.out.wr.rd
        have hne : suitsIn zr (playableG D) ≠ [] := fun e => by have := congrArg List.length e; rw [suitsIn_len, ← HL.out] at this; simp at this; omega
        obtain ⟨m, hm, hml⟩ := most_lt hne
        rw [suitsIn_len, ← HL.out] at hml
        have HM := Lib.hid (sMostOf_any _ (suitsIn zr (playableG D)) bq wr hrq (by rw [suitsIn_len, ← HL.out]; omega))
        rw [hm] at HM
        have hres : Hid (r = (playableG D).getD m 0) := Lib.hid (by rw [Hf.out]; unfold pickS; rw [hm]; rfl)
        have Hml := Lib.hid hml
        have hBr := Lib.hid B
        have hmi : (m : Int) < (k : Int) := by omega
        have hm0 : (0 : Int) ≤ (m : Int) := by omega
        clear hall ho hrq hne hm
        go_wp2_with fail
        refine HM.out.mono ?_
        rintro e w5 ⟨rfl, B5⟩
        have hcm := Hpc.out w5 (hBr.out.trans (B5.mono hBr.out.size)) m hml
        have B6 := HBw.out.trans ((hBr.out.trans (B5.mono hBr.out.size)).mono HBw.out.size)
        clear B5 HM B hml
        go_wp2_with fail
        go_ret
        exact ⟨by rw [hres.out]; rfl, B6⟩
set_option maxRecDepth 100000 in
set_option maxHeartbeats 4000000 in
theorem frequent_any (v : Value) (zr : List Int) (br : Nat) (off bp L cp : Nat) (P : List Int) (w : World) (hrr : RdAt .i64 w v zr br) (hsm : zr.length ≤ 1048576) (hcell : Cells .i64 w bp off P) (hL : L = P.length) (hL0 : 0 < L) (hL1 : L ≤ 52) (hcard : ∀ c ∈ P, isCard c = true) :
    Calls Tryz.prog 34 #[v, .slice (some ⟨bp, off, none⟩) L cp] w fun e w' => e = .returned (.int .i64 (pickS zr P)) ∧ Below w.heap.size w w' := by
  obtain ⟨i0, hi, hz0, hz1, hz2⟩ := info_parts info_i64
  have HSC := Lib.hid (suitCounts_any _ zr br w hrr hsm)
  have HL := Lib.hid hL
  have Hcell := Lib.hid hcell
  have Hcard := Lib.hid hcard
  clear hrr hsm hL hcell hcard
  go_enter Tryz.func34, Tryz.ntmps34
  go_wp2_with fail
  refine HSC.out.mono ?_
  rintro e w2 ⟨vs, bs, rfl, hbs, hws, B2⟩
  clear HSC
  obtain ⟨ps, cs, es, -, hwfs, hqs⟩ := hws.rd
  rw [suitCounts_len] at es
  subst es
  obtain ⟨os, rfl, hcs⟩ : ∃ o, ps = some ⟨bs, o, none⟩ ∧ Cells .i64 w2 bs o (suitCounts zr) := by
    rcases hqs with hq | hq
    · have := suitCounts_len zr; rw [hq] at this; simp at this
    · exact hq
  have Hcs : Hid (∀ wx, Below w2.heap.size w2 wx → ∀ s : Nat, s < 4 → wx.cell? ⟨bs, os + s, none⟩ = some (.int .i64 ((suitCounts zr).getD s 0))) := Lib.hid (fun wx hb s hs => by
    have h4 := hcs s (by rw [suitCounts_len]; exact hs)
    rw [(hb.cell (World.block_lt_of_cell? _ _ h4)).trans h4]
    simp [List.getD, suitCounts_len, hs])
  have Hwfs : Hid (∀ s : Nat, (Lit.int .i64 ((suitCounts zr).getD s 0)).wf = true) := Lib.hid (fun s => by
    by_cases hs : s < (suitCounts zr).length
    · simp only [List.getD, List.getElem?_eq_getElem hs, Option.getD_some]; exact hwfs _ (List.getElem_mem _)
    · simp only [List.getD, List.getElem?_eq_none (Nat.le_of_not_lt hs), Option.getD_none]; decide)
  have Hpc : Hid (∀ wx, Below w2.heap.size w2 wx → ∀ i, i < L → wx.cell? ⟨bp, off + i, none⟩ = some (.int .i64 (P.getD i 0))) := Lib.hid (fun wx hb i hi => by
    have hi' : i < P.length := by rw [← HL.out]; exact hi
    have h4 := Hcell.out i hi'
    have h5 := (B2.cell (World.block_lt_of_cell? _ _ h4)).trans h4
    rw [(hb.cell (World.block_lt_of_cell? _ _ h5)).trans h5]; simp [List.getD, hi'])
  have HB2 := Lib.hid B2
  have hlp : ∀ j, j < L → j < P.length := fun j hj => by rw [← HL.out]; exact hj
  have Hlp := Lib.hid hlp
  clear hbs hws hwfs hqs hcs B2 hlp
  go_wp2_with (at_make; refine wpList_make_full _ rfl _ _ 22 rfl w2.heap.size 3 i0 (.int .i64 0) 1 Tryz.underlying22 hi hz0 hz1 _ _ _ _ L rfl rfl rfl rfl ?c1 ?c2 ?c3 ?_)
  case c1 => rw [hz2]; omega
  case c2 => unfold maxLen; omega
  case c3 => exact Nat.le_refl _
  intro w3 hown hgr
  have hb3 : Below w2.heap.size w2 w3 := (Below.refl _ _).grown hgr (Nat.le_refl _) (fun k hk => by cases hk)
  clear hgr hi hz0 hz1 hz2
  go_wp2_with fail
  go_loopw [7, 8, 16] (fun _ _ i wr => ∃ k : Nat, k ≤ L ∧ i = .int .i64 k ∧ Below w2.heap.size w2 wr ∧ ∃ xs, wr.ownsRow w2.heap.size 3 1 (.slice (some ⟨w2.heap.size, 0, none⟩) L L) L xs ∧ Hid (∀ j, j < k → xs[j]? = some (.int .i64 ((suitsIn zr P).getD j 0)))) (fun _ _ i _ => L - (intOf i).toNat)
  case atStart => exact ⟨0, Nat.zero_le _, rfl, hb3, _, hown, Lib.hid (fun j hj => by omega)⟩
  case round =>
    clear hown hb3
    obtain ⟨k, hk, rfl, B, xs, hown, hxs⟩ := hrel
    by_cases hlt : k < L
    · have hkp : k < P.length := Hlp.out k hlt
      obtain ⟨y, hy⟩ : ∃ y, y = P[k] := ⟨_, rfl⟩
      have hgy : P.getD k 0 = y := by rw [hy]; simp [List.getD, hkp]
      have hcy := Hpc.out wr B k hlt
      rw [hgy] at hcy
      have hcard : isCard y = true := by rw [hy]; exact Hcard.out _ (List.getElem_mem hkp)
      obtain ⟨s0, s1⟩ := suit_range hcard
      obtain ⟨s, hs⟩ : ∃ s : Nat, suitOf y = (s : Int) := ⟨(suitOf y).toNat, by omega⟩
      have hs4 : s < 4 := by omega
      have hcn := Hcs.out wr B s hs4
      obtain ⟨x, hx⟩ : ∃ x, x = (suitCounts zr).getD s 0 := ⟨_, rfl⟩
      rw [← hx] at hcn
      have hgx : (suitsIn zr P).getD k 0 = x := by rw [suitsIn_at zr P k hkp, ← hy, hs, hx]; rfl
      have HS := Lib.hid (fun wx => suitOf_r y wx s hs)
      obtain ⟨z, hz⟩ : ∃ z, xs[k]? = some z := ⟨_, List.getElem?_eq_getElem (by rw [hown.1]; omega)⟩
      have hc2 : wr.cell? ⟨w2.heap.size, k, none⟩ = some z := by rw [hown.cellAt k (by omega), hz]
      have hf2 : wr.frozen? ⟨w2.heap.size, k, none⟩ = false := hown.frozenAt k
      have hst := (hown.stored k (.int .i64 x)).1
      have hb4 : Below w2.heap.size w2 (wr.setCell ⟨w2.heap.size, k, none⟩ (.int .i64 x)) := B.setCell (Nat.le_refl _) _
      have hrel2 : Hid (∀ j, j < k + 1 → (xs.set k (.int .i64 x))[j]? = some (.int .i64 ((suitsIn zr P).getD j 0))) := Lib.hid (fun j hj => by
        by_cases e : j = k
        · subst e; rw [List.getElem?_set_self (by rw [hown.1]; omega), hgx]
        · rw [List.getElem?_set_ne (by omega)]; exact hxs.out j (by omega))
      have hsi : (s : Int) < 4 := by omega
      have hs0 : (0 : Int) ≤ (s : Int) := by omega
      clear hkp hy hgy hcard s0 s1 hs hx hgx hz hxs B hown
      go_wp2_with fail
      refine (HS.out _).mono ?_
      rintro e _w ⟨rfl, rfl⟩
      go_wp2_with fail
      go_roundw
      case rel => exact ⟨k + 1, by omega, by go_num, hb4, _, hst, hrel2⟩
      case measure => simp [intOf]; omega
    · obtain rfl : k = L := by omega
      have hx2 : xs = (suitsIn zr P).map (Value.int .i64) := by
        refine List.ext_getElem? fun j => ?_
        by_cases hj : j < k
        · have hjl : j < (suitsIn zr P).length := by rw [suitsIn_len, ← HL.out]; exact hj
          rw [hxs.out j hj]
          simp [List.getD, hjl]
        · rw [List.getElem?_eq_none (by rw [hown.1]; omega), List.getElem?_eq_none (by rw [List.length_map, suitsIn_len, ← HL.out]; omega)]
      rw [hx2] at hown
      have hwfS : ∀ x ∈ suitsIn zr P, (Lit.int .i64 x).wf = true := fun x hx => by
        unfold suitsIn at hx
        obtain ⟨c, -, rfl⟩ := List.mem_map.1 hx
        exact Hwfs.out _
      have hown2 : wr.ownsRow w2.heap.size 3 1 (.slice (some ⟨w2.heap.size, 0, none⟩) k k) (suitsIn zr P).length ((suitsIn zr P).map (Value.int .i64)) := by rw [suitsIn_len, ← HL.out]; exact hown
      obtain ⟨bq, hbq, hwq⟩ := own_wr hown2 hwfS
      have hne : suitsIn zr P ≠ [] := fun e => by have := congrArg List.length e; rw [suitsIn_len, ← HL.out] at this; simp at this; omega
      obtain ⟨m, hm, hml⟩ := most_lt hne
      rw [suitsIn_len, ← HL.out] at hml
      have HM := Lib.hid (mostOf_any _ (suitsIn zr P) bq wr hwq.rd (by rw [suitsIn_len, ← HL.out]; omega))
      rw [hm] at HM
      have hres : Hid (pickS zr P = P.getD m 0) := Lib.hid (by unfold pickS; rw [hm]; rfl)
      have hcm := Hpc.out wr B m hml
      have HB := Lib.hid (HB2.out.trans (B.mono HB2.out.size))
      have hmi : (m : Int) < (k : Int) := by omega
      have hm0 : (0 : Int) ≤ (m : Int) := by omega
      clear hx2 hown hwfS hown2 hbq hwq hne hm hml hxs B
      go_wp2_with fail
      refine HM.out.mono ?_
      rintro e _w ⟨rfl, rfl⟩
      clear HM
      go_wp2_with fail
      go_ret
      exact ⟨by rw [hres.out]; rfl, HB.out⟩
set_option maxRecDepth 100000 in
theorem choosers_any (w : World) : Calls Tryz.prog 21 #[] w fun e w' => e = .returned (.agg #[.func (.func 32) #[] #[], .func (.func 33) #[] #[], .func (.func 34) #[] #[]]) ∧ Below w.heap.size w w' := by
  go_enter Tryz.func21, Tryz.ntmps21
  go_wp2_with fail
  exact bodyPost_ret (results_cell_row rfl _ _ w.heap.size _ _ _ _ rfl (heap_alloc_new _ _) Tryz.underlying48 rfl (by kernel_rfl)) rfl ⟨rfl, (Below.refl _ _).alloc (Nat.le_refl _) _⟩
set_option maxRecDepth 100000 in
theorem choose0_any (v : Value) (bp off L cp : Nat) (x : Int) (w : World) (hL : (0 : Int) < (L : Int)) (hc : w.cell? ⟨bp, off, none⟩ = some (.int .i64 x)) :
    Calls Tryz.prog 32 #[v, .slice (some ⟨bp, off, none⟩) L cp] w fun e w' => e = .returned (.int .i64 x) ∧ Below w.heap.size w w' := by
  go_enter Tryz.func32, Tryz.ntmps32
  go_wp2_with fail
  go_ret
  exact ⟨rfl, Below.refl _ _⟩
set_option maxRecDepth 100000 in
theorem choose1_any (v : Value) (bp off L M cp : Nat) (x : Int) (w : World) (hwr : IntKind.i64.wrap ((L : Int) - 1) = (M : Int)) (hM : M < L) (hc : w.cell? ⟨bp, off + M, none⟩ = some (.int .i64 x)) :
    Calls Tryz.prog 33 #[v, .slice (some ⟨bp, off, none⟩) L cp] w fun e w' => e = .returned (.int .i64 x) ∧ Below w.heap.size w w' := by
  have hMi : (M : Int) < (L : Int) := by omega
  have hM0 : (0 : Int) ≤ (M : Int) := by omega
  go_enter Tryz.func33, Tryz.ntmps33
  go_wp2_with fail
  go_ret
  exact ⟨rfl, Below.refl _ _⟩
set_option maxRecDepth 100000 in
set_option maxHeartbeats 4000000 in
theorem choiceOf_any (v : Value) (D : MGame) (kd : Int) (w : World) (h : RdGame w v D) (hf : D.Few) (hG : Grps w) :
    Calls Tryz.prog 7 #[v, .int .i64 kd] w fun e w' => e = .returned (.int .i64 (choiceG D kd)) ∧ Below w.heap.size w w' := by
  obtain ⟨p4, p5, p8, p9, p10, c4, c5, c8, c9, c10, ev⟩ := h.shape
  subst ev
  obtain ⟨W0, hW0⟩ : ∃ W, W = w.alloc (.cells #[.int .i64 D.rules.players, .int .i64 D.rules.each, .bool D.rules.sameSuit, .bool D.rules.sameRank, .slice p4 D.rules.wild.length c4, .slice p5 D.rules.skip.length c5, .int .i64 D.rules.take, .int .i64 D.rules.limit, .slice p8 D.hands.length c8, .slice p9 D.stock.length c9, .slice p10 D.heap.length c10, .int .i64 D.turn, .int .i64 D.moves, .int .i64 D.passes] 32) := ⟨_, rfl⟩
  have G0 : W0.heap[w.heap.size]? = some (.cells #[.int .i64 D.rules.players, .int .i64 D.rules.each, .bool D.rules.sameSuit, .bool D.rules.sameRank, .slice p4 D.rules.wild.length c4, .slice p5 D.rules.skip.length c5, .int .i64 D.rules.take, .int .i64 D.rules.limit, .slice p8 D.hands.length c8, .slice p9 D.stock.length c9, .slice p10 D.heap.length c10, .int .i64 D.turn, .int .i64 D.moves, .int .i64 D.passes] 32 (0, 0)) := by rw [hW0]; exact heap_alloc_new _ _
  have hsz : W0.heap.size = w.heap.size + 1 := by rw [hW0]; simp
  have B0 : Below w.heap.size w W0 := by rw [hW0]; exact (Below.refl _ _).alloc (Nat.le_refl _) _
  have hr8 := h.hands
  have HP := Lib.hid (playable_any _ D W0 (h.below B0) hf (hG.below B0))
  have HR := Lib.hid (fun wx (hb : Below w.heap.size w wx) => hr8.below hb)
  have Hs := Lib.hid hf.sum
  have HW := Lib.hid hW0
  have HB := Lib.hid (And.intro G0 (And.intro hsz B0))
  obtain ⟨r, hr⟩ : ∃ r, r = choiceG D kd := ⟨_, rfl⟩
  have Hr := Lib.hid hr
  rw [← hr]
  clear h hf hG hW0 G0 hsz B0 hr8 hr
  go_enter Tryz.func7, Tryz.ntmps7
  go_upto_region 1 with fail
  rw [← HW.out]
  obtain ⟨G0, hsz, B0⟩ := HB.out
  refine wp_region_lit ?_
  refine wpList_load_row rfl 32 _ rfl w.heap.size rfl 32 _ _ _ G0 Tryz.underlying32 rfl (by kernel_rfl) ?_
  clear G0 hsz B0
  go_wp2_with fail
  refine HP.out.mono ?_
  rintro e w1 ⟨vp, rfl, own, B1⟩
  obtain ⟨pp, cp, ep⟩ := own.shape
  subst ep
  obtain ⟨G0, hsz, B0⟩ := HB.out
  have Bw : Below w.heap.size w w1 := B0.trans (B1.mono B0.size)
  have G1 : w1.heap[w.heap.size]? = some (.cells #[.int .i64 D.rules.players, .int .i64 D.rules.each, .bool D.rules.sameSuit, .bool D.rules.sameRank, .slice p4 D.rules.wild.length c4, .slice p5 D.rules.skip.length c5, .int .i64 D.rules.take, .int .i64 D.rules.limit, .slice p8 D.hands.length c8, .slice p9 D.stock.length c9, .slice p10 D.heap.length c10, .int .i64 D.turn, .int .i64 D.moves, .int .i64 D.passes] 32 (0, 0)) := (B1.block _ (by omega)).trans G0
  have hlen := playable_len (D := D) Hs.out
  obtain ⟨bp, hrd⟩ := own.wr.rd
  clear G0 hsz B0 B1 HP
  by_cases hp : playableG D = []
  · have Hf : Hid (r = -1) := Lib.hid (by rw [Hr.out]; exact choice_none _ hp)
    have hl0 : (playableG D).length = 0 := by rw [hp]; rfl
    rw [hl0]
    clear hl0 hrd own hlen hp G1
    go_wp2_with fail
    go_ret
    exact ⟨by rw [Hf.out]; rfl, Bw⟩
  · obtain ⟨L, hL⟩ : ∃ L, L = (playableG D).length := ⟨_, rfl⟩
    have hL0 : 0 < L := by rw [hL]; exact List.length_pos_iff.2 hp
    obtain ⟨off, rfl, hcell⟩ : ∃ off, pp = some ⟨bp, off, none⟩ ∧ Cells .i64 w1 bp off (playableG D) := by
      obtain ⟨a', cap', e', -, -, hq⟩ := id hrd
      rcases hq with hq | ⟨o, ho, hc⟩
      · exact absurd hq hp
      · exact ⟨o, (Value.slice.inj e').1.trans ho, hc⟩
    rw [← hL] at hlen ⊢
    have hLne : ((L : Int) == 0) = false := by simp; omega
    have hLp : (0 : Int) < (L : Int) := by omega
    have HL := Lib.hid hL
    have Hp := Lib.hid hp
    have Hcell := Lib.hid hcell
    have Hrd := Lib.hid hrd
    have HGb := Lib.hid G1
    clear hL hp hcell hrd own G1
    by_cases kr : 0 ≤ kd ∧ kd ≤ 2
    rotate_left
    · have Hf : Hid (r = -1) := Lib.hid (by rw [Hr.out]; exact choice_no kr)
      have HI := Lib.hid (fun wx => inR_any kd 0 2 wx false (decide_eq_false kr).symm)
      clear kr
      go_wp2_with fail
      refine (HI.out _).mono ?_
      rintro e _w ⟨rfl, rfl⟩
      go_wp2_with fail
      go_ret
      exact ⟨by rw [Hf.out]; rfl, Bw⟩
    obtain ⟨t, ht, htl, -⟩ := game_nums (goes_game (playable_goes Hp.out)).1
    obtain ⟨b8, o8, cap, pr, cr, br, hv, hcr, hrr, -⟩ := (HR.out w1 Bw).row htl
    have ha := (Value.slice.inj hv).1
    subst ha
    obtain ⟨zr, hzr⟩ : ∃ z, z = D.hands[t]'htl := ⟨_, rfl⟩
    have hz : handG D = zr := by unfold handG; rw [hzr, ht]; simp [List.getD, htl]
    have hsm : zr.length ≤ 1048576 := by rw [hzr]; exact Nat.le_trans (len_le_sum D.hands htl) Hs.out
    rw [← hzr] at hcr hrr
    have hti : (t : Int) < (D.hands.length : Int) := by omega
    have HC : Hid (∀ wx, Below w1.heap.size w1 wx → wx.cell? ⟨w.heap.size, 8, none⟩ = some (.slice (some ⟨b8, o8, none⟩) D.hands.length c8) ∧ wx.cell? ⟨w.heap.size, 11, none⟩ = some (.int .i64 (t : Int)) ∧ wx.cell? ⟨b8, o8 + t, none⟩ = some (.slice pr zr.length cr)) := Lib.hid (fun wx hb => by
      have G := (hb.block _ (Array.getElem?_eq_some_iff.1 HGb.out).1).trans HGb.out
      refine ⟨?_, ?_, (hb.cell (World.block_lt_of_cell? _ _ hcr)).trans hcr⟩
      · rw [box_cell G]; rfl
      · rw [box_cell G, ← ht]; rfl)
    have hat : ∀ wx, Below w1.heap.size w1 wx → ∀ i (hi : i < L), wx.cell? ⟨bp, off + i, none⟩ = some (.int .i64 ((playableG D).getD i 0)) := fun wx hb i hi => by
      have hi' : i < (playableG D).length := by rw [← HL.out]; exact hi
      have h4 := Hcell.out i hi'
      rw [(hb.cell (World.block_lt_of_cell? _ _ h4)).trans h4]; simp [List.getD, hi']
    have HCh := Lib.hid (fun wx (hb : Below w1.heap.size w1 wx) => choosers_any wx)
    have HI := Lib.hid (fun wx => inR_any kd 0 2 wx true (decide_eq_true kr).symm)
    have HBw := Lib.hid Bw
    have hFr : Hid (∀ wx, Below w1.heap.size w1 wx → Calls Tryz.prog 34 #[.slice pr zr.length cr, .slice (some ⟨bp, off, none⟩) L cp] wx fun e w' => e = .returned (.int .i64 (pickS (handG D) (playableG D))) ∧ Below wx.heap.size wx w') := Lib.hid (fun wx hb => by
      rw [hz]
      exact frequent_any _ zr br off bp L cp (playableG D) wx (hrr.below hb) hsm (fun i hi => by have h4 := Hcell.out i hi; exact (hb.cell (World.block_lt_of_cell? _ _ h4)).trans h4) HL.out hL0 hlen (fun c hc => playable_card hc))
    have Hat := Lib.hid hat
    clear hv hrr hsm hzr hz ht htl hcr hat Bw
    go_upto_region 2 with fail
    go_wp2_with fail
    refine (HI.out _).mono ?_
    rintro e _w ⟨rfl, rfl⟩
    go_upto_region 4 with fail
    clear HI
    by_cases k0 : kd = 0
    · subst k0
      have Hf : Hid (r = (playableG D).getD 0 0) := Lib.hid (by rw [Hr.out]; exact choice_0 Hp.out)
      have HQ := Lib.hid (fun wx (hb : Below w1.heap.size w1 wx) => choose0_any (.slice pr zr.length cr) bp off L cp ((playableG D).getD 0 0) wx hLp (by have := Hat.out wx hb 0 hL0; rw [Nat.add_zero] at this; exact this))
      obtain ⟨x, hx⟩ : ∃ x, x = (playableG D).getD 0 0 := ⟨_, rfl⟩
      rw [← hx] at HQ Hf
      clear hx
      refine wp_region_table [(0, some 16, .is (.agg #[.func (.func 32) #[] #[], .func (.func 33) #[] #[], .func (.func 34) #[] #[]])), (1, some 17, .is (.int .i64 0)), (2, some 18, .is (.func (.func 32) #[] #[])), (3, some 19, .is (.pointer (some ⟨w.heap.size, 8, none⟩))), (4, some 20, .is (.slice (some ⟨b8, o8, none⟩) D.hands.length c8)), (5, some 21, .is (.pointer (some ⟨w.heap.size, 11, none⟩))), (6, some 22, .is (.int .i64 (t : Int))), (7, some 23, .is (.pointer (some ⟨b8, o8 + t, none⟩))), (8, some 24, .is (.slice pr zr.length cr)), (9, some 25, .is (.slice (some ⟨bp, off, none⟩) L cp)), (10, some 26, .is (.int .i64 x))] 1 (by kernel_rfl) (by kernel_rfl) (by kernel_rfl) (by kernel_rfl) (by kernel_rfl) (L := #[true, true, true, true, true, true, true, true, true, true, true, false]) (by kernel_rfl) ?steps ?fin
      case steps =>
        refine StepsT.cons [] (by simp only [List.getElem?_toArray, List.getElem?_cons_succ, List.getElem?_cons_zero]; rfl) (by kernel_rfl) (by rfl) (fun wx val iv hB hV K hK => ?_) ?_
        · (clear hV; simp only [putT, List.foldl_cons, List.foldl_nil, Made.val, Act.put, List.setIfInBounds_toArray, List.set_cons_zero, List.set_cons_succ]; go_simp; go_at_call 21; refine (HCh.out wx hB).mono ?_; rintro e wa ⟨rfl, Ba⟩; exact hK.out _ _ rfl Ba)
        refine StepsT.cons [] (by simp only [List.getElem?_toArray, List.getElem?_cons_succ, List.getElem?_cons_zero]; rfl) (by kernel_rfl) (by rfl) (fun wx val iv hB hV K hK => ?_) ?_
        · clear hV; simp only [putT, List.foldl_cons, List.foldl_nil, Made.val, Act.put, List.setIfInBounds_toArray, List.set_cons_zero, List.set_cons_succ]; go_simp; exact hK.out _ _ rfl (Below.refl _ _)
        refine StepsT.cons [(0, some 16, .is (.agg #[.func (.func 32) #[] #[], .func (.func 33) #[] #[], .func (.func 34) #[] #[]])), (1, some 17, .is (.int .i64 0))] (by simp only [List.getElem?_toArray, List.getElem?_cons_succ, List.getElem?_cons_zero]; rfl) (by kernel_rfl) (by rfl) (fun wx val iv hB hV K hK => ?_) ?_
        · clear hV; simp only [putT, List.foldl_cons, List.foldl_nil, Made.val, Act.put, List.setIfInBounds_toArray, List.set_cons_zero, List.set_cons_succ]; go_simp; exact hK.out _ _ rfl (Below.refl _ _)
        refine StepsT.cons [] (by simp only [List.getElem?_toArray, List.getElem?_cons_succ, List.getElem?_cons_zero]; rfl) (by kernel_rfl) (by rfl) (fun wx val iv hB hV K hK => ?_) ?_
        · clear hV; simp only [putT, List.foldl_cons, List.foldl_nil, Made.val, Act.put, List.setIfInBounds_toArray, List.set_cons_zero, List.set_cons_succ]; go_simp; exact hK.out _ _ rfl (Below.refl _ _)
        refine StepsT.cons [(3, some 19, .is (.pointer (some ⟨w.heap.size, 8, none⟩)))] (by simp only [List.getElem?_toArray, List.getElem?_cons_succ, List.getElem?_cons_zero]; rfl) (by kernel_rfl) (by rfl) (fun wx val iv hB hV K hK => ?_) ?_
        · (obtain ⟨j0, j1, j2⟩ := HC.out wx hB); clear hV; simp only [putT, List.foldl_cons, List.foldl_nil, Made.val, Act.put, List.setIfInBounds_toArray, List.set_cons_zero, List.set_cons_succ]; go_simp; exact hK.out _ _ rfl (Below.refl _ _)
        refine StepsT.cons [] (by simp only [List.getElem?_toArray, List.getElem?_cons_succ, List.getElem?_cons_zero]; rfl) (by kernel_rfl) (by rfl) (fun wx val iv hB hV K hK => ?_) ?_
        · clear hV; simp only [putT, List.foldl_cons, List.foldl_nil, Made.val, Act.put, List.setIfInBounds_toArray, List.set_cons_zero, List.set_cons_succ]; go_simp; exact hK.out _ _ rfl (Below.refl _ _)
        refine StepsT.cons [(5, some 21, .is (.pointer (some ⟨w.heap.size, 11, none⟩)))] (by simp only [List.getElem?_toArray, List.getElem?_cons_succ, List.getElem?_cons_zero]; rfl) (by kernel_rfl) (by rfl) (fun wx val iv hB hV K hK => ?_) ?_
        · (obtain ⟨j0, j1, j2⟩ := HC.out wx hB); clear hV; simp only [putT, List.foldl_cons, List.foldl_nil, Made.val, Act.put, List.setIfInBounds_toArray, List.set_cons_zero, List.set_cons_succ]; go_simp; exact hK.out _ _ rfl (Below.refl _ _)
        refine StepsT.cons [(4, some 20, .is (.slice (some ⟨b8, o8, none⟩) D.hands.length c8)), (6, some 22, .is (.int .i64 (t : Int)))] (by simp only [List.getElem?_toArray, List.getElem?_cons_succ, List.getElem?_cons_zero]; rfl) (by kernel_rfl) (by rfl) (fun wx val iv hB hV K hK => ?_) ?_
        · (obtain ⟨j0, j1, j2⟩ := HC.out wx hB); clear hV; simp only [putT, List.foldl_cons, List.foldl_nil, Made.val, Act.put, List.setIfInBounds_toArray, List.set_cons_zero, List.set_cons_succ]; go_simp; exact hK.out _ _ rfl (Below.refl _ _)
        refine StepsT.cons [(7, some 23, .is (.pointer (some ⟨b8, o8 + t, none⟩)))] (by simp only [List.getElem?_toArray, List.getElem?_cons_succ, List.getElem?_cons_zero]; rfl) (by kernel_rfl) (by rfl) (fun wx val iv hB hV K hK => ?_) ?_
        · (obtain ⟨j0, j1, j2⟩ := HC.out wx hB); clear hV; simp only [putT, List.foldl_cons, List.foldl_nil, Made.val, Act.put, List.setIfInBounds_toArray, List.set_cons_zero, List.set_cons_succ]; go_simp; exact hK.out _ _ rfl (Below.refl _ _)
        refine StepsT.cons [] (by simp only [List.getElem?_toArray, List.getElem?_cons_succ, List.getElem?_cons_zero]; rfl) (by kernel_rfl) (by rfl) (fun wx val iv hB hV K hK => ?_) ?_
        · clear hV; simp only [putT, List.foldl_cons, List.foldl_nil, Made.val, Act.put, List.setIfInBounds_toArray, List.set_cons_zero, List.set_cons_succ]; go_simp; exact hK.out _ _ rfl (Below.refl _ _)
        refine StepsT.cons [(0, some 16, .is (.agg #[.func (.func 32) #[] #[], .func (.func 33) #[] #[], .func (.func 34) #[] #[]])), (2, some 18, .is (.func (.func 32) #[] #[])), (8, some 24, .is (.slice pr zr.length cr)), (9, some 25, .is (.slice (some ⟨bp, off, none⟩) L cp))] (by simp only [List.getElem?_toArray, List.getElem?_cons_succ, List.getElem?_cons_zero]; rfl) (by kernel_rfl) (by rfl) (fun wx val iv hB hV K hK => ?_) ?_
        · (clear hV; simp only [putT, List.foldl_cons, List.foldl_nil, Made.val, Act.put, List.setIfInBounds_toArray, List.set_cons_zero, List.set_cons_succ]; go_simp; go_at_call 32; refine (HQ.out wx hB).mono ?_; rintro e wa ⟨rfl, Ba⟩; exact hK.out _ _ rfl Ba)
        exact StepsT.nil
      case fin =>
        intro wx val iv BX hV hD
        clear hV hD
        simp only [putT, List.foldl_cons, List.foldl_nil, Made.val, Act.put, List.setIfInBounds_toArray, List.set_cons_zero, List.set_cons_succ]
        refine wpAny_one (i := 11) (by kernel_rfl) (by simp only [List.getElem?_toArray, List.getElem?_cons_succ, List.getElem?_cons_zero]; rfl) (fun K hK => ?_)
        go_simp
        refine hK.out _ _ ?_
        clear hK K
        refine wpAny_end (by kernel_rfl) ?_
        have B6 := HBw.out.trans (BX.mono HBw.out.size)
        go_wp2_with fail
        go_ret
        exact ⟨by rw [Hf.out]; rfl, B6⟩
    by_cases k1 : kd = 1
    · subst k1
      have Hf : Hid (r = (playableG D).getD ((playableG D).length - 1) 0) := Lib.hid (by rw [Hr.out]; exact choice_1 Hp.out)
      have HQ := Lib.hid (fun wx (hb : Below w1.heap.size w1 wx) => choose1_any (.slice pr zr.length cr) bp off L (L - 1) cp ((playableG D).getD (L - 1) 0) wx (by rw [IntKind.wrap_i64]; omega) (by omega) (Hat.out wx hb (L - 1) (by omega)))
      rw [← HL.out] at Hf
      obtain ⟨x, hx⟩ : ∃ x, x = (playableG D).getD (L - 1) 0 := ⟨_, rfl⟩
      rw [← hx] at HQ Hf
      clear hx k0
      refine wp_region_table [(0, some 16, .is (.agg #[.func (.func 32) #[] #[], .func (.func 33) #[] #[], .func (.func 34) #[] #[]])), (1, some 17, .is (.int .i64 1)), (2, some 18, .is (.func (.func 33) #[] #[])), (3, some 19, .is (.pointer (some ⟨w.heap.size, 8, none⟩))), (4, some 20, .is (.slice (some ⟨b8, o8, none⟩) D.hands.length c8)), (5, some 21, .is (.pointer (some ⟨w.heap.size, 11, none⟩))), (6, some 22, .is (.int .i64 (t : Int))), (7, some 23, .is (.pointer (some ⟨b8, o8 + t, none⟩))), (8, some 24, .is (.slice pr zr.length cr)), (9, some 25, .is (.slice (some ⟨bp, off, none⟩) L cp)), (10, some 26, .is (.int .i64 x))] 1 (by kernel_rfl) (by kernel_rfl) (by kernel_rfl) (by kernel_rfl) (by kernel_rfl) (L := #[true, true, true, true, true, true, true, true, true, true, true, false]) (by kernel_rfl) ?steps ?fin
      case steps =>
        refine StepsT.cons [] (by simp only [List.getElem?_toArray, List.getElem?_cons_succ, List.getElem?_cons_zero]; rfl) (by kernel_rfl) (by rfl) (fun wx val iv hB hV K hK => ?_) ?_
        · (clear hV; simp only [putT, List.foldl_cons, List.foldl_nil, Made.val, Act.put, List.setIfInBounds_toArray, List.set_cons_zero, List.set_cons_succ]; go_simp; go_at_call 21; refine (HCh.out wx hB).mono ?_; rintro e wa ⟨rfl, Ba⟩; exact hK.out _ _ rfl Ba)
        refine StepsT.cons [] (by simp only [List.getElem?_toArray, List.getElem?_cons_succ, List.getElem?_cons_zero]; rfl) (by kernel_rfl) (by rfl) (fun wx val iv hB hV K hK => ?_) ?_
        · clear hV; simp only [putT, List.foldl_cons, List.foldl_nil, Made.val, Act.put, List.setIfInBounds_toArray, List.set_cons_zero, List.set_cons_succ]; go_simp; exact hK.out _ _ rfl (Below.refl _ _)
        refine StepsT.cons [(0, some 16, .is (.agg #[.func (.func 32) #[] #[], .func (.func 33) #[] #[], .func (.func 34) #[] #[]])), (1, some 17, .is (.int .i64 1))] (by simp only [List.getElem?_toArray, List.getElem?_cons_succ, List.getElem?_cons_zero]; rfl) (by kernel_rfl) (by rfl) (fun wx val iv hB hV K hK => ?_) ?_
        · clear hV; simp only [putT, List.foldl_cons, List.foldl_nil, Made.val, Act.put, List.setIfInBounds_toArray, List.set_cons_zero, List.set_cons_succ]; go_simp; exact hK.out _ _ rfl (Below.refl _ _)
        refine StepsT.cons [] (by simp only [List.getElem?_toArray, List.getElem?_cons_succ, List.getElem?_cons_zero]; rfl) (by kernel_rfl) (by rfl) (fun wx val iv hB hV K hK => ?_) ?_
        · clear hV; simp only [putT, List.foldl_cons, List.foldl_nil, Made.val, Act.put, List.setIfInBounds_toArray, List.set_cons_zero, List.set_cons_succ]; go_simp; exact hK.out _ _ rfl (Below.refl _ _)
        refine StepsT.cons [(3, some 19, .is (.pointer (some ⟨w.heap.size, 8, none⟩)))] (by simp only [List.getElem?_toArray, List.getElem?_cons_succ, List.getElem?_cons_zero]; rfl) (by kernel_rfl) (by rfl) (fun wx val iv hB hV K hK => ?_) ?_
        · (obtain ⟨j0, j1, j2⟩ := HC.out wx hB); clear hV; simp only [putT, List.foldl_cons, List.foldl_nil, Made.val, Act.put, List.setIfInBounds_toArray, List.set_cons_zero, List.set_cons_succ]; go_simp; exact hK.out _ _ rfl (Below.refl _ _)
        refine StepsT.cons [] (by simp only [List.getElem?_toArray, List.getElem?_cons_succ, List.getElem?_cons_zero]; rfl) (by kernel_rfl) (by rfl) (fun wx val iv hB hV K hK => ?_) ?_
        · clear hV; simp only [putT, List.foldl_cons, List.foldl_nil, Made.val, Act.put, List.setIfInBounds_toArray, List.set_cons_zero, List.set_cons_succ]; go_simp; exact hK.out _ _ rfl (Below.refl _ _)
        refine StepsT.cons [(5, some 21, .is (.pointer (some ⟨w.heap.size, 11, none⟩)))] (by simp only [List.getElem?_toArray, List.getElem?_cons_succ, List.getElem?_cons_zero]; rfl) (by kernel_rfl) (by rfl) (fun wx val iv hB hV K hK => ?_) ?_
        · (obtain ⟨j0, j1, j2⟩ := HC.out wx hB); clear hV; simp only [putT, List.foldl_cons, List.foldl_nil, Made.val, Act.put, List.setIfInBounds_toArray, List.set_cons_zero, List.set_cons_succ]; go_simp; exact hK.out _ _ rfl (Below.refl _ _)
        refine StepsT.cons [(4, some 20, .is (.slice (some ⟨b8, o8, none⟩) D.hands.length c8)), (6, some 22, .is (.int .i64 (t : Int)))] (by simp only [List.getElem?_toArray, List.getElem?_cons_succ, List.getElem?_cons_zero]; rfl) (by kernel_rfl) (by rfl) (fun wx val iv hB hV K hK => ?_) ?_
        · (obtain ⟨j0, j1, j2⟩ := HC.out wx hB); clear hV; simp only [putT, List.foldl_cons, List.foldl_nil, Made.val, Act.put, List.setIfInBounds_toArray, List.set_cons_zero, List.set_cons_succ]; go_simp; exact hK.out _ _ rfl (Below.refl _ _)
        refine StepsT.cons [(7, some 23, .is (.pointer (some ⟨b8, o8 + t, none⟩)))] (by simp only [List.getElem?_toArray, List.getElem?_cons_succ, List.getElem?_cons_zero]; rfl) (by kernel_rfl) (by rfl) (fun wx val iv hB hV K hK => ?_) ?_
        · (obtain ⟨j0, j1, j2⟩ := HC.out wx hB); clear hV; simp only [putT, List.foldl_cons, List.foldl_nil, Made.val, Act.put, List.setIfInBounds_toArray, List.set_cons_zero, List.set_cons_succ]; go_simp; exact hK.out _ _ rfl (Below.refl _ _)
        refine StepsT.cons [] (by simp only [List.getElem?_toArray, List.getElem?_cons_succ, List.getElem?_cons_zero]; rfl) (by kernel_rfl) (by rfl) (fun wx val iv hB hV K hK => ?_) ?_
        · clear hV; simp only [putT, List.foldl_cons, List.foldl_nil, Made.val, Act.put, List.setIfInBounds_toArray, List.set_cons_zero, List.set_cons_succ]; go_simp; exact hK.out _ _ rfl (Below.refl _ _)
        refine StepsT.cons [(0, some 16, .is (.agg #[.func (.func 32) #[] #[], .func (.func 33) #[] #[], .func (.func 34) #[] #[]])), (2, some 18, .is (.func (.func 33) #[] #[])), (8, some 24, .is (.slice pr zr.length cr)), (9, some 25, .is (.slice (some ⟨bp, off, none⟩) L cp))] (by simp only [List.getElem?_toArray, List.getElem?_cons_succ, List.getElem?_cons_zero]; rfl) (by kernel_rfl) (by rfl) (fun wx val iv hB hV K hK => ?_) ?_
        · (clear hV; simp only [putT, List.foldl_cons, List.foldl_nil, Made.val, Act.put, List.setIfInBounds_toArray, List.set_cons_zero, List.set_cons_succ]; go_simp; go_at_call 33; refine (HQ.out wx hB).mono ?_; rintro e wa ⟨rfl, Ba⟩; exact hK.out _ _ rfl Ba)
        exact StepsT.nil
      case fin =>
        intro wx val iv BX hV hD
        clear hV hD
        simp only [putT, List.foldl_cons, List.foldl_nil, Made.val, Act.put, List.setIfInBounds_toArray, List.set_cons_zero, List.set_cons_succ]
        refine wpAny_one (i := 11) (by kernel_rfl) (by simp only [List.getElem?_toArray, List.getElem?_cons_succ, List.getElem?_cons_zero]; rfl) (fun K hK => ?_)
        go_simp
        refine hK.out _ _ ?_
        clear hK K
        refine wpAny_end (by kernel_rfl) ?_
        have B6 := HBw.out.trans (BX.mono HBw.out.size)
        go_wp2_with fail
        go_ret
        exact ⟨by rw [Hf.out]; rfl, B6⟩
    obtain rfl : kd = 2 := by omega
    have Hf : Hid (r = pickS (handG D) (playableG D)) := Lib.hid (by rw [Hr.out]; exact choice_2 Hp.out)
    have HQ := hFr
    obtain ⟨x, hx⟩ : ∃ x, x = pickS (handG D) (playableG D) := ⟨_, rfl⟩
    rw [← hx] at HQ Hf
    clear hx k0 k1 hFr
    refine wp_region_table [(0, some 16, .is (.agg #[.func (.func 32) #[] #[], .func (.func 33) #[] #[], .func (.func 34) #[] #[]])), (1, some 17, .is (.int .i64 2)), (2, some 18, .is (.func (.func 34) #[] #[])), (3, some 19, .is (.pointer (some ⟨w.heap.size, 8, none⟩))), (4, some 20, .is (.slice (some ⟨b8, o8, none⟩) D.hands.length c8)), (5, some 21, .is (.pointer (some ⟨w.heap.size, 11, none⟩))), (6, some 22, .is (.int .i64 (t : Int))), (7, some 23, .is (.pointer (some ⟨b8, o8 + t, none⟩))), (8, some 24, .is (.slice pr zr.length cr)), (9, some 25, .is (.slice (some ⟨bp, off, none⟩) L cp)), (10, some 26, .is (.int .i64 x))] 1 (by kernel_rfl) (by kernel_rfl) (by kernel_rfl) (by kernel_rfl) (by kernel_rfl) (L := #[true, true, true, true, true, true, true, true, true, true, true, false]) (by kernel_rfl) ?steps ?fin
    case steps =>
      refine StepsT.cons [] (by simp only [List.getElem?_toArray, List.getElem?_cons_succ, List.getElem?_cons_zero]; rfl) (by kernel_rfl) (by rfl) (fun wx val iv hB hV K hK => ?_) ?_
      · (clear hV; simp only [putT, List.foldl_cons, List.foldl_nil, Made.val, Act.put, List.setIfInBounds_toArray, List.set_cons_zero, List.set_cons_succ]; go_simp; go_at_call 21; refine (HCh.out wx hB).mono ?_; rintro e wa ⟨rfl, Ba⟩; exact hK.out _ _ rfl Ba)
      refine StepsT.cons [] (by simp only [List.getElem?_toArray, List.getElem?_cons_succ, List.getElem?_cons_zero]; rfl) (by kernel_rfl) (by rfl) (fun wx val iv hB hV K hK => ?_) ?_
      · clear hV; simp only [putT, List.foldl_cons, List.foldl_nil, Made.val, Act.put, List.setIfInBounds_toArray, List.set_cons_zero, List.set_cons_succ]; go_simp; exact hK.out _ _ rfl (Below.refl _ _)
      refine StepsT.cons [(0, some 16, .is (.agg #[.func (.func 32) #[] #[], .func (.func 33) #[] #[], .func (.func 34) #[] #[]])), (1, some 17, .is (.int .i64 2))] (by simp only [List.getElem?_toArray, List.getElem?_cons_succ, List.getElem?_cons_zero]; rfl) (by kernel_rfl) (by rfl) (fun wx val iv hB hV K hK => ?_) ?_
      · clear hV; simp only [putT, List.foldl_cons, List.foldl_nil, Made.val, Act.put, List.setIfInBounds_toArray, List.set_cons_zero, List.set_cons_succ]; go_simp; exact hK.out _ _ rfl (Below.refl _ _)
      refine StepsT.cons [] (by simp only [List.getElem?_toArray, List.getElem?_cons_succ, List.getElem?_cons_zero]; rfl) (by kernel_rfl) (by rfl) (fun wx val iv hB hV K hK => ?_) ?_
      · clear hV; simp only [putT, List.foldl_cons, List.foldl_nil, Made.val, Act.put, List.setIfInBounds_toArray, List.set_cons_zero, List.set_cons_succ]; go_simp; exact hK.out _ _ rfl (Below.refl _ _)
      refine StepsT.cons [(3, some 19, .is (.pointer (some ⟨w.heap.size, 8, none⟩)))] (by simp only [List.getElem?_toArray, List.getElem?_cons_succ, List.getElem?_cons_zero]; rfl) (by kernel_rfl) (by rfl) (fun wx val iv hB hV K hK => ?_) ?_
      · (obtain ⟨j0, j1, j2⟩ := HC.out wx hB); clear hV; simp only [putT, List.foldl_cons, List.foldl_nil, Made.val, Act.put, List.setIfInBounds_toArray, List.set_cons_zero, List.set_cons_succ]; go_simp; exact hK.out _ _ rfl (Below.refl _ _)
      refine StepsT.cons [] (by simp only [List.getElem?_toArray, List.getElem?_cons_succ, List.getElem?_cons_zero]; rfl) (by kernel_rfl) (by rfl) (fun wx val iv hB hV K hK => ?_) ?_
      · clear hV; simp only [putT, List.foldl_cons, List.foldl_nil, Made.val, Act.put, List.setIfInBounds_toArray, List.set_cons_zero, List.set_cons_succ]; go_simp; exact hK.out _ _ rfl (Below.refl _ _)
      refine StepsT.cons [(5, some 21, .is (.pointer (some ⟨w.heap.size, 11, none⟩)))] (by simp only [List.getElem?_toArray, List.getElem?_cons_succ, List.getElem?_cons_zero]; rfl) (by kernel_rfl) (by rfl) (fun wx val iv hB hV K hK => ?_) ?_
      · (obtain ⟨j0, j1, j2⟩ := HC.out wx hB); clear hV; simp only [putT, List.foldl_cons, List.foldl_nil, Made.val, Act.put, List.setIfInBounds_toArray, List.set_cons_zero, List.set_cons_succ]; go_simp; exact hK.out _ _ rfl (Below.refl _ _)
      refine StepsT.cons [(4, some 20, .is (.slice (some ⟨b8, o8, none⟩) D.hands.length c8)), (6, some 22, .is (.int .i64 (t : Int)))] (by simp only [List.getElem?_toArray, List.getElem?_cons_succ, List.getElem?_cons_zero]; rfl) (by kernel_rfl) (by rfl) (fun wx val iv hB hV K hK => ?_) ?_
      · (obtain ⟨j0, j1, j2⟩ := HC.out wx hB); clear hV; simp only [putT, List.foldl_cons, List.foldl_nil, Made.val, Act.put, List.setIfInBounds_toArray, List.set_cons_zero, List.set_cons_succ]; go_simp; exact hK.out _ _ rfl (Below.refl _ _)
      refine StepsT.cons [(7, some 23, .is (.pointer (some ⟨b8, o8 + t, none⟩)))] (by simp only [List.getElem?_toArray, List.getElem?_cons_succ, List.getElem?_cons_zero]; rfl) (by kernel_rfl) (by rfl) (fun wx val iv hB hV K hK => ?_) ?_
      · (obtain ⟨j0, j1, j2⟩ := HC.out wx hB); clear hV; simp only [putT, List.foldl_cons, List.foldl_nil, Made.val, Act.put, List.setIfInBounds_toArray, List.set_cons_zero, List.set_cons_succ]; go_simp; exact hK.out _ _ rfl (Below.refl _ _)
      refine StepsT.cons [] (by simp only [List.getElem?_toArray, List.getElem?_cons_succ, List.getElem?_cons_zero]; rfl) (by kernel_rfl) (by rfl) (fun wx val iv hB hV K hK => ?_) ?_
      · clear hV; simp only [putT, List.foldl_cons, List.foldl_nil, Made.val, Act.put, List.setIfInBounds_toArray, List.set_cons_zero, List.set_cons_succ]; go_simp; exact hK.out _ _ rfl (Below.refl _ _)
      refine StepsT.cons [(0, some 16, .is (.agg #[.func (.func 32) #[] #[], .func (.func 33) #[] #[], .func (.func 34) #[] #[]])), (2, some 18, .is (.func (.func 34) #[] #[])), (8, some 24, .is (.slice pr zr.length cr)), (9, some 25, .is (.slice (some ⟨bp, off, none⟩) L cp))] (by simp only [List.getElem?_toArray, List.getElem?_cons_succ, List.getElem?_cons_zero]; rfl) (by kernel_rfl) (by rfl) (fun wx val iv hB hV K hK => ?_) ?_
      · (clear hV; simp only [putT, List.foldl_cons, List.foldl_nil, Made.val, Act.put, List.setIfInBounds_toArray, List.set_cons_zero, List.set_cons_succ]; go_simp; go_at_call 34; refine (HQ.out wx hB).mono ?_; rintro e wa ⟨rfl, Ba⟩; exact hK.out _ _ rfl Ba)
      exact StepsT.nil
    case fin =>
      intro wx val iv BX hV hD
      clear hV hD
      simp only [putT, List.foldl_cons, List.foldl_nil, Made.val, Act.put, List.setIfInBounds_toArray, List.set_cons_zero, List.set_cons_succ]
      refine wpAny_one (i := 11) (by kernel_rfl) (by simp only [List.getElem?_toArray, List.getElem?_cons_succ, List.getElem?_cons_zero]; rfl) (fun K hK => ?_)
      go_simp
      refine hK.out _ _ ?_
      clear hK K
      refine wpAny_end (by kernel_rfl) ?_
      have B6 := HBw.out.trans (BX.mono HBw.out.size)
      go_wp2_with fail
      go_ret
      exact ⟨by rw [Hf.out]; rfl, B6⟩
end Go.Proofs.YtmhbonbjnpcpeaaGreatDoor
