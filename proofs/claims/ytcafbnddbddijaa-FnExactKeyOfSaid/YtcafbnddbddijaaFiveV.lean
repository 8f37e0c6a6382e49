/-
  KeyOf: the model's.
-/
import Derived.Test.YtcafbnddbddijaaFiveU
import Derived.Maps.AppendAt
import Derived.Laws.OwnMore
namespace Go.Proofs.Ytcafbnddbddijaa
open Go.RowKit
set_option linter.unusedVariables false
set_option linter.unusedSimpArgs false

def keyPairs : List (Nat × Nat) := [4, 3, 2, 1].flatMap fun c => [12,11,10,9,8,7,6,5,4,3,2,1,0].map fun r => (c, r)
def keyTo (n : List Nat) (m : Nat) : List Nat := ((keyPairs.take m).filter fun p => Nat.beq (n.getD p.2 0) p.1).map Prod.snd
theorem pair_at : ∀ m (h : m < 52), keyPairs[m]? = some (4 - m / 13, 12 - m % 13) := by decide
theorem keyTo_all (n : List Nat) : keyTo n 52 = fiveCanon n := by
  have e : keyPairs.take 52 = keyPairs := by decide
  unfold keyTo fiveCanon
  rw [e]
  unfold keyPairs
  rw [List.filter_flatMap, List.map_flatMap]
  congr 1
  funext c
  rw [List.filter_map, List.map_map]
  have e2 : (Prod.snd ∘ fun r : Nat => (c, r)) = id := rfl
  rw [e2, List.map_id]
  rfl
theorem keyTo_step (n : List Nat) (m : Nat) (h : m < 52) : keyTo n (m + 1) = if n.getD (12 - m % 13) 0 = 4 - m / 13 then keyTo n m ++ [12 - m % 13] else keyTo n m := by
  have hl : keyPairs.length = 52 := by decide
  have hp : m < keyPairs.length := by rw [hl]; exact h
  have he : keyPairs[m] = (4 - m / 13, 12 - m % 13) := by
    have := pair_at m h
    rw [List.getElem?_eq_getElem hp] at this
    exact Option.some.inj this
  unfold keyTo
  rw [List.take_succ_eq_append_getElem hp, List.filter_append, List.map_append, he]
  by_cases e : n.getD (12 - m % 13) 0 = 4 - m / 13
  · rw [if_pos e, List.filter_cons, if_pos (by rw [e]; exact Nat.beq_refl _)]
    rfl
  · rw [if_neg e]
    have : Nat.beq (n.getD (12 - m % 13) 0) (4 - m / 13) = false := by
      cases hb : Nat.beq (n.getD (12 - m % 13) 0) (4 - m / 13) with
      | false => rfl
      | true => exact absurd (Nat.eq_of_beq_eq_true hb) e
    rw [List.filter_cons, if_neg (by rw [this]; simp)]
    simp
theorem kindB_st : ∀ st fl e4 e3 e22 e21 : Bool, (kindB st fl e4 e3 e22 e21 = 4 ∨ kindB st fl e4 e3 e22 e21 = 8) → st = true := by decide
theorem kindB_le : ∀ st fl e4 e3 e22 e21 : Bool, kindB st fl e4 e3 e22 e21 ≤ 8 := by decide
theorem keyM_str {n : List Nat} {b : Bool} (h : fiveKindM n b = 4 ∨ fiveKindM n b = 8) : ofN (fiveKeyM n b) = [((fiveKindM n b : Nat) : Int), straightI n] := by
  have hs := kindB_st _ _ _ _ _ _ (by rw [kindM_eq] at h; exact h)
  have e : straightI n = (((fiveStraight n).getD 0 : Nat) : Int) := by
    unfold straightI
    cases hf : fiveStraight n with
    | none => rw [hf] at hs; cases hs
    | some t => rfl
  rw [e]
  unfold fiveKeyM
  rcases h with h | h
  · rw [h]; rfl
  · rw [h]; rfl
theorem keyM_oth {n : List Nat} {b : Bool} (h4 : fiveKindM n b ≠ 4) (h8 : fiveKindM n b ≠ 8) : fiveKeyM n b = fiveKindM n b :: keyTo n 52 := by
  rw [keyTo_all]
  unfold fiveKeyM
  split
  · rename_i h; exact absurd h h4
  · rename_i h; exact absurd h h8
  · rfl
def keyI (zs : List Int) : List Int := if isHand zs && decide (zs.length = 5) then ofN (fiveKeyM (cntV zs) (oneSuit zs)) else []
theorem keyI_yes {zs : List Int} (h : isHand zs = true) (h5 : zs.length = 5) : keyI zs = ofN (fiveKeyM (cntV zs) (oneSuit zs)) := by
  unfold keyI; rw [h, decide_eq_true h5]; rfl
theorem keyI_no {zs : List Int} (h : isHand zs = false ∨ zs.length ≠ 5) : keyI zs = [] := by
  unfold keyI
  rcases h with h | h
  · rw [h]; rfl
  · rw [decide_eq_false h, Bool.and_false]; rfl
theorem keyTo_len (n : List Nat) (m : Nat) : (keyTo n m).length ≤ 52 := by
  unfold keyTo
  rw [List.length_map]
  refine Nat.le_trans (List.length_filter_le _ _) ?_
  rw [List.length_take]
  have hl : keyPairs.length = 52 := by decide
  omega
theorem keyTo_lt (n : List Nat) (m : Nat) : ∀ x ∈ keyTo n m, x < 13 := by
  intro x hx
  unfold keyTo at hx
  obtain ⟨p, hp, rfl⟩ := List.mem_map.1 hx
  have h1 := List.mem_of_mem_take (List.mem_filter.1 hp).1
  have : ∀ p ∈ keyPairs, p.2 < 13 := by decide
  exact this p h1
theorem ofN_cons2 (k : Nat) (l : List Nat) (x : Nat) : ofN (k :: (l ++ [x])) = ofN (k :: l) ++ [((x : Nat) : Int)] := by simp [ofN]

theorem rd2_wr (W : World) (t : TypeId) (x y : Int) (hx : (Lit.int .i64 x).wf = true) (hy : (Lit.int .i64 y).wf = true) : WrAt .i64 (W.alloc (.cells #[.int .i64 x, .int .i64 y] t)) (.slice (some ⟨W.heap.size, 0, none⟩) 2 2) [x, y] W.heap.size := by
  have hown := World.ownsRow_lit (base := W.heap.size) (e := t) (size := 1) W #[.int .i64 x, .int .i64 y] 2 (Nat.le_refl _) (by decide) rfl
  have hown2 : (W.alloc (.cells #[.int .i64 x, .int .i64 y] t)).ownsRow W.heap.size t 1 (.slice (some ⟨W.heap.size, 0, none⟩) 2 2) [x, y].length ([x, y].map (Value.int .i64)) := hown
  obtain ⟨b', hb', hw'⟩ := own_wr hown2 (fun z hz => by
    simp at hz
    rcases hz with rfl | rfl
    · exact hx
    · exact hy)
  obtain ⟨a, cap, e, h1, h2, h3⟩ := hw'
  rcases h3 with h3 | ⟨off, e2, h4⟩
  · simp at h3
  · simp only [Value.slice.injEq] at e
    rw [← e.1] at e2
    simp only [Option.some.injEq, Addr.mk.injEq, and_true] at e2
    obtain ⟨rfl, rfl⟩ := e2
    exact ⟨a, cap, by rw [← e.1, ← e.2.2]; rfl, h1, h2, .inr ⟨_, e.1.symm, h4⟩⟩
set_option maxRecDepth 100000 in
set_option maxHeartbeats 2000000 in
theorem sKeyOf_any (v : Value) (zs : List Int) (b : Nat) (w : World) (h : RdAt .i64 w v zs b) (hl : zs.length ≤ 1048576) :
    Calls Try.prog 22 #[v] w fun e w' => ∃ v' b', e = .returned v' ∧ w.heap.size ≤ b' ∧ WrAt .i64 w' v' (keyI zs) b' ∧ Below w.heap.size w w' := by
  obtain ⟨i0, hi, hz0, hz1, hz2⟩ := info_parts info_i64
  have HK := Lib.hid (sKindOf_any v zs b w h hl)
  by_cases hy : isHand zs = true ∧ zs.length = 5
  · obtain ⟨hh, h5⟩ := hy
    have hcd := hand_card hh
    obtain ⟨k, hk⟩ : ∃ k, Hid (k = fiveKindM (cntV zs) (oneSuit zs)) := ⟨_, Lib.hid rfl⟩
    have hk8 : k ≤ 8 := by rw [hk.out, kindM_eq]; exact kindB_le _ _ _ _ _ _
    rw [kindI_yes hh h5, ← hk.out] at HK
    have HC : Hid (∀ W, Below w.heap.size w W → _) := Lib.hid fun W B => sCount14_any v zs b W (h.below B) hl hcd
    have HKI := Lib.hid (keyI_yes hh h5)
    obtain ⟨ns, hns⟩ : ∃ ns, Hid (ns = cntV zs) := ⟨_, Lib.hid rfl⟩
    have hlen : Hid (ns.length = 13) := Lib.hid (by rw [hns.out, cntV_len])
    rw [← hns.out] at HC HKI hk
    obtain ⟨a, cap, rfl, -⟩ := id h
    generalize zs.length = n at *
    clear h hl hcd hh h5
    go_enter Try.func22, Try.ntmps22
    go_wp2_with fail
    refine HK.out.mono ?_
    rintro e w1 ⟨rfl, B1⟩
    have HC1 := Lib.hid (HC.out w1 B1)
    have hnn : ¬ ((k : Int) < 0) := by omega
    go_wp2_with fail
    refine HC1.out.mono ?_
    rintro e w2 ⟨v2, b2, rfl, hb2, hw2, B2⟩
    have B12 := B1.trans (B2.mono B1.size)
    clear HC HC1 HK B1 B2 hb2
    by_cases h48 : k = 4 ∨ k = 8
    · have hkey : Hid (keyI zs = [((k : Nat) : Int), straightI ns]) := Lib.hid (by rw [HKI.out, keyM_str (by rw [← hk.out]; exact h48), ← hk.out])
      have HS := Lib.hid (sStraight14_any v2 ns b2 w2 hw2.rd hlen.out)
      have hrg := straightI_rng ns
      have hr2 := Lib.hid (fun t => rd2_wr w2 t (k : Int) (straightI ns) (WalkArith.wf_i64 (by omega)) (WalkArith.wf_i64 (by omega)))
      have HB := Lib.hid (fun o => B12.alloc B12.size o)
      have hs2 := B12.size
      clear hw2 hrg hnn hk8 B12
      rcases h48 with rfl | rfl
      · go_wp2_with fail
        refine HS.out.mono ?_
        rintro e _w ⟨rfl, rfl⟩
        go_wp2_with fail
        go_ret
        exact ⟨_, w2.heap.size, rfl, hs2, by rw [hkey.out]; exact hr2.out _, HB.out _⟩
      · go_wp2_with fail
        refine HS.out.mono ?_
        rintro e _w ⟨rfl, rfl⟩
        go_wp2_with fail
        go_ret
        exact ⟨_, w2.heap.size, rfl, hs2, by rw [hkey.out]; exact hr2.out _, HB.out _⟩
    · have hkey : Hid (keyI zs = ofN (k :: keyTo ns 52)) := Lib.hid (by rw [HKI.out, keyM_oth (by rw [← hk.out]; omega) (by rw [← hk.out]; omega), ← hk.out])
      have q4 : ((k : Int) == 4) = false := by simp; omega
      have q8 : ((k : Int) == 8) = false := by simp; omega
      obtain ⟨off, cap2, rfl, hcl⟩ : ∃ off cap2, v2 = .slice (some ⟨b2, off, none⟩) 13 cap2 ∧ ∀ j, j < 13 → w2.cell? ⟨b2, off + j, none⟩ = some (.int .i64 (ns.getD j 0 : Nat)) := by
        have hln : (ofN ns).length = 13 := by rw [ofN_len, hlen.out]
        obtain ⟨a2, cap2, rfl, -, -, hcell⟩ := hw2.rd
        rcases hcell with h0 | ⟨off, rfl, hc⟩
        · rw [h0] at hln; simp at hln
        · exact ⟨off, cap2, by rw [hln], fun j hj => by rw [hc j (by rw [hln]; exact hj), ofN_at]⟩
      have Hcl := Lib.hid hcl
      have hs2 := B12.size
      clear h48 hw2 hcl
      have hown0 := World.ownsRow_lit (base := w2.heap.size) (e := 3) (size := 1) w2 #[.int .i64 (k : Nat)] 1 (Nat.le_refl _) (by decide) rfl
      have hb0 : Below w2.heap.size w2 (w2.alloc (.cells #[.int .i64 (k : Nat)] 3)) := (Below.refl _ _).alloc (Nat.le_refl _) _
      go_wp2_with fail
      go_loopw [5, 6, 7] (fun o c _ wr => ∃ i : Nat, i ≤ 4 ∧ c = .int .i64 (4 - (i : Int)) ∧ Below w.heap.size w wr ∧ (∀ a, a.block < w2.heap.size → wr.cell? a = w2.cell? a) ∧ wr.heap.size ≥ w2.heap.size ∧ wr.ownsRow w2.heap.size 3 1 o (ofN (k :: keyTo ns (13 * i))).length ((ofN (k :: keyTo ns (13 * i))).map (Value.int .i64))) (fun _ c _ _ => (intOf c).toNat)
      case atStart => exact ⟨0, Nat.zero_le _, rfl, B12.alloc hs2 _, fun a ha => World.cell?_of_block (hb0.block _ ha), hb0.size, by simpa [ofN, keyTo] using hown0⟩
      case round =>
        clear hown0 hb0
        obtain ⟨i, hi4, rfl, hb2, hcl2, hge, hown⟩ := hrel
        by_cases hlt : i < 4
        · have h14 : (1 : Int) ≤ 4 - (i : Int) := by omega
          go_wp2_with fail
          go_loopw [5, 7] (fun o c wx => ∃ j : Nat, j ≤ 13 ∧ c = .int .i64 (12 - (j : Int)) ∧ Below w.heap.size w wx ∧ (∀ a, a.block < w2.heap.size → wx.cell? a = w2.cell? a) ∧ wx.heap.size ≥ w2.heap.size ∧ wx.ownsRow w2.heap.size 3 1 o (ofN (k :: keyTo ns (13 * i + j))).length ((ofN (k :: keyTo ns (13 * i + j))).map (Value.int .i64))) (fun _ c _ => (intOf c + 1).toNat)
          case atStart => exact ⟨0, Nat.zero_le _, rfl, hb2, hcl2, hge, hown⟩
          case round =>
            clear hown hb2 hcl2 hge
            obtain ⟨j, hj, rfl, hb2, hcl2, hge, hown⟩ := hrel
            by_cases hlt2 : j < 13
            · have hst := keyTo_step ns (13 * i + j) (by omega)
              rw [show (13 * i + j) % 13 = j by omega, show (13 * i + j) / 13 = i by omega] at hst
              obtain ⟨p, hp⟩ : ∃ p : Nat, p = 12 - j := ⟨_, rfl⟩
              rw [← hp] at hst
              have hpi : 12 - (j : Int) = (p : Int) := by omega
              have hp13 : p < 13 := by omega
              have hc0 := Hcl.out p hp13
              have h1 := hcl2 ⟨b2, off + p, none⟩ (World.block_lt_of_cell? _ _ hc0)
              rw [hc0] at h1
              obtain ⟨y, hy⟩ : ∃ y, y = ns.getD p 0 := ⟨_, rfl⟩
              rw [← hy] at h1 hst
              have hlenF : (ofN (k :: keyTo ns (13 * i + j))).length ≤ 53 := by rw [ofN_len, List.length_cons]; have := keyTo_len ns (13 * i + j); omega
              by_cases e : y = 4 - i
              · rw [if_pos e] at hst
                have ei : (y : Int) = 4 - (i : Int) := by omega
                have hq : ((y : Int) == 4 - (i : Int)) = true := by simpa using ei
                have Hsn : Hid (ofN (k :: keyTo ns (13 * i + (j + 1))) = ofN (k :: keyTo ns (13 * i + j)) ++ [((p : Nat) : Int)]) := Lib.hid (by rw [show 13 * i + (j + 1) = 13 * i + j + 1 by omega, hst]; exact ofN_cons2 _ _ _)
                clear hst e hy hp hc0 ei
                generalize ofN (k :: keyTo ns (13 * i + j)) = F at *
                go_wp2_with (at_builtin; refine wpList_append_own _ rfl _ _ 22 rfl w2.heap.size 3 i0 (.int .i64 0) 1 8 Try.underlying22 hi hz0 hz1 hz2 rfl (by decide) _ _ _ rfl (hown.alloc _) ⟨wr.heap.size, 0, none⟩ 1 1 [.int .i64 p] rfl rfl (cell_one_new _ _ _) ?e2 ?e3 ?e4 (by simp; omega) ?_)
                case e2 => intro u hu; simp at hu; subst hu; rfl
                case e3 => unfold maxLen; omega
                case e4 => omega
                intro v3 w3 hown2 hgr2 _
                have hob := own_block hown
                have hb3 : Below w.heap.size w w3 := (hb2.alloc (by omega) _).grown hgr2 (by simp; omega) (fun q hq => by have := hob q hq; omega)
                have hge3 : w3.heap.size ≥ w2.heap.size := by have := hgr2.size; simp at this; omega
                have hcl3 : ∀ a, a.block < w2.heap.size → w3.cell? a = w2.cell? a := fun a ha => by
                  rw [← hcl2 a ha]
                  refine World.cell?_of_block ?_
                  rw [hgr2.block _ (by simp; omega) (fun e => by have := hob _ e.symm; omega)]
                  have hlt3 : a.block < wr.heap.size := by omega
                  show (wr.heap.push _)[_]? = _
                  rw [Array.getElem?_push_lt hlt3, Array.getElem?_eq_getElem hlt3]
                have hown3 := own_snoc hown2
                rw [← Hsn.out] at hown3
                clear hown2 hgr2 hown hb2 hcl2 hge hob
                go_wp2_with fail
                go_roundw
                case rel => exact ⟨j + 1, by omega, by go_num, hb3, hcl3, hge3, hown3⟩
                case measure => simp [intOf]; omega
              · rw [if_neg e] at hst
                have hq : ((y : Int) == 4 - (i : Int)) = false := by simp; omega
                have e3 : keyTo ns (13 * i + j) = keyTo ns (13 * i + (j + 1)) := by rw [show 13 * i + (j + 1) = 13 * i + j + 1 by omega, hst]
                have hown3 := hown
                rw [e3] at hown3
                clear e3
                clear hst e hy hp hc0 hown hlenF
                go_wp2_with fail
                go_roundw
                case rel => exact ⟨j + 1, by omega, by go_num, hb2, hcl2, hge, hown3⟩
                case measure => simp [intOf]; omega
            · obtain rfl : j = 13 := by omega
              have hown3 := hown
              rw [show 13 * i + 13 = 13 * (i + 1) by omega] at hown3
              clear hown
              go_wp2_with fail
              go_roundw
              case rel => exact ⟨i + 1, by omega, by go_num, hb2, hcl2, hge, hown3⟩
              case measure => simp [intOf]; omega
        · obtain rfl : i = 4 := by omega
          have hown2 := hown
          rw [show 13 * 4 = 52 from rfl, ← hkey.out] at hown2
          have hwf : ∀ x ∈ keyI zs, (Lit.int .i64 x).wf = true := fun x hx => by
            rw [hkey.out] at hx
            obtain ⟨y, hy, rfl⟩ := List.mem_map.1 hx
            rcases List.mem_cons.1 hy with rfl | hy
            · exact WalkArith.wf_i64 (by omega)
            · have := keyTo_lt _ _ y hy
              exact WalkArith.wf_i64 (by omega)
          have HW := Lib.hid (own_wr hown2 hwf)
          clear hown hown2 hwf hcl2
          go_wp2_with fail
          go_ret
          obtain ⟨b3, hb3', hw3⟩ := HW.out
          exact ⟨_, b3, rfl, Nat.le_trans hs2 hb3', hw3, hb2⟩
  · have hno : isHand zs = false ∨ zs.length ≠ 5 := by
      cases hh : isHand zs with
      | false => exact .inl rfl
      | true => exact .inr fun h5 => hy ⟨hh, h5⟩
    rw [kindI_no hno] at HK
    have Hr := Lib.hid (keyI_no hno)
    obtain ⟨a, cap, rfl, -⟩ := id h
    clear h hl hno hy
    go_enter Try.func22, Try.ntmps22
    go_wp2_with fail
    refine HK.out.mono ?_
    rintro e w1 ⟨rfl, B1⟩
    go_wp2_with fail
    go_ret
    exact ⟨_, w1.heap.size, rfl, B1.size, by rw [Hr.out]; exact WrAt.nil _ _ _ _ _ ⟨by unfold maxLen; omega, by simp⟩, B1.alloc B1.size _⟩
end Go.Proofs.Ytcafbnddbddijaa
