/-
  Sheets, the program's side: emptyColumns, writeDown, IsSheet, TotalOf, AheadIn.
-/
import Derived.Test.YtmfammgdcdlceaaDoorSheetJ
namespace Go.Proofs.YtmfammgdcdlceaaDoor
open Go.RowKit
set_option linter.unusedVariables false
set_option linter.unusedSimpArgs false

theorem info_sl : (Tryd.prog.info? 30).map (fun i => (i.zero, i.size, i.bytes)) = some (some (.slice none 0 0), 1, 24) := by kernel_rfl
theorem ta_cols (v : Value) (w : World) : (Instr.typeAssert (.iface 86 v) 89 86 true).run Tryd.prog w = .ok (.tuple #[v, .bool true]) w := by kernel_rfl
theorem ta_cols_no (v : Value) (w : World) : (Instr.typeAssert (.iface 118 v) 89 86 true).run Tryd.prog w = .ok (.tuple #[.slice none 0 0, .bool false]) w := by kernel_rfl

/-- The first k are slices of one number, 0, each in a block of its own behind g. -/
def OnesTo (w : World) (g k : Nat) (xs : List Value) : Prop :=
  ∃ bf : Nat → Nat, (∀ i, i < k → xs[i]? = some (.slice (some ⟨bf i, 0, none⟩) 1 1) ∧ g < bf i ∧ bf i < w.heap.size ∧ w.heap[bf i]? = some (.cells #[.int .i64 0] 3 (0, 0))) ∧ ∀ i j, i < j → j < k → bf i < bf j
theorem OnesTo.step {wr wa : World} {g k : Nat} {xs : List Value} (h : OnesTo wr g k xs) (hba : Below wr.heap.size wr wa) (hga : wa.heap[wr.heap.size]? = some (.cells #[.int .i64 0] 3 (0, 0))) (hla : wr.heap.size < wa.heap.size) (hg : g < wr.heap.size) (hk : k < xs.length) :
    OnesTo (wa.setCell ⟨g, k, none⟩ (.slice (some ⟨wr.heap.size, 0, none⟩) 1 1)) g (k + 1) (xs.set k (.slice (some ⟨wr.heap.size, 0, none⟩) 1 1)) := by
  obtain ⟨bf, h1, h2⟩ := h
  refine ⟨fun i => if i = k then wr.heap.size else bf i, fun i hi => ?_, fun i j hij hj => ?_⟩
  · by_cases e : i = k
    · subst e
      refine ⟨by simp [hk], by simp; exact hg, by simp [World.setCell]; exact hla, ?_⟩
      simp only [if_true]
      rw [Below.heap_setCell _ _ _ _ (show wr.heap.size ≠ g by omega)]; exact hga
    · obtain ⟨a1, a2, a3, a4⟩ := h1 i (by omega)
      simp only [if_neg e]
      refine ⟨by rw [List.getElem?_set_ne (by omega)]; exact a1, a2, by simp [World.setCell]; omega, ?_⟩
      rw [Below.heap_setCell _ _ _ _ (show bf i ≠ g by omega)]; exact (hba.block _ a3).trans a4
  · by_cases ej : j = k
    · subst ej
      simp only [if_true, if_neg (show i ≠ j by omega)]
      exact (h1 i hij).2.2.1
    · simp only [if_neg ej, if_neg (show i ≠ k by omega)]
      exact h2 i j hij (by omega)
theorem OnesTo.cols {w : World} {g p : Nat} {xs : List Value} (h : OnesTo w g p xs) (ho : w.ownsRow g 30 1 (.slice (some ⟨g, 0, none⟩) p p) p xs) : Cols w g g p 0 0 (fun _ => 0) := by
  obtain ⟨bf, h1, h2⟩ := h
  obtain ⟨hl, ho⟩ := ho
  rcases ho with ⟨e, -⟩ | ⟨g', cap, cur, e, hg, hh, hnc, hcm, hcs, htake⟩
  · simp at e
  simp only [Value.slice.injEq, Option.some.injEq, Addr.mk.injEq, and_true, true_and] at e
  obtain ⟨rfl, rfl⟩ := e
  have hcur : cur = ⟨xs⟩ := by
    rcases cur with ⟨cl⟩
    simp only [Nat.mul_one] at hcs htake
    have : cl.take p = xs := htake
    rw [List.take_of_length_le (by simp at hcs; omega)] at this
    rw [this]
  rw [hcur] at hh
  have hlen : xs.length = p := by omega
  have hat : ∀ i (hi : i < xs.length), xs[i] = .slice (some ⟨bf i, 0, none⟩) 1 1 := fun i hi => by
    have := (h1 i (by omega)).1
    rw [List.getElem?_eq_getElem hi] at this
    exact Option.some.inj this
  refine ⟨xs, _, hlen, Nat.le_refl _, hh, fun u hu => ?_, fun i hi => ?_, fun i j hi hj hij => ?_⟩
  · obtain ⟨i, hi, rfl⟩ := List.getElem_of_mem hu
    rw [hat i hi]; rfl
  · obtain ⟨-, a2, a3, a4⟩ := h1 i (by omega)
    refine ⟨bf i, [], by rw [hat i hi]; rfl, by omega, ?_⟩
    rw [hat i hi, if_neg (by omega)]
    exact ⟨rfl, .inr ⟨bf i, 1, _, rfl, by omega, a4, Nat.le_refl _, by unfold maxLen; omega, rfl, rfl⟩⟩
  · rw [hat i hi, hat j hj]
    simp only [Value.ownBlock, ne_eq, Option.some.injEq]
    rcases Nat.lt_or_gt_of_ne hij with h | h
    · have := h2 i j h (by omega); omega
    · have := h2 j i h (by omega); omega

set_option maxRecDepth 100000 in
set_option maxHeartbeats 1000000 in
theorem emptyCols_any (p : Nat) (w : World) (hp : 2 ≤ p ∧ p ≤ 6) :
    Calls Tryd.prog 81 #[.int .i64 p] w fun e w' => e = .returned (.slice (some ⟨w.heap.size, 0, none⟩) p p) ∧ Cols w' w.heap.size w.heap.size p 0 0 (fun _ => 0) ∧ Below w.heap.size w w' := by
  obtain ⟨i0, hi, hz0, hz1, hz2⟩ := info_parts info_sl
  go_enter Tryd.func81, Tryd.ntmps81
  go_wp2_with (at_make; refine wpList_make_full _ rfl _ _ 86 rfl w.heap.size 30 i0 (.slice none 0 0) 1 Tryd.underlying86 hi hz0 hz1 _ _ _ _ p rfl rfl rfl rfl ?c1 ?c2 ?c3 ?_)
  case c1 => rw [hz2]; omega
  case c2 => unfold maxLen; omega
  case c3 => exact Nat.le_refl _
  intro w1 hown hgr
  have hb1 : Below w.heap.size w w1 := (Below.refl _ _).grown hgr (Nat.le_refl _) (fun k hk => by cases hk)
  clear hgr hi hz0 hz1 hz2
  go_wp2_with fail
  go_loopw [4, 9] (fun _ i wr => ∃ k : Nat, k ≤ p ∧ i = .int .i64 k ∧ Below w.heap.size w wr ∧ w.heap.size < wr.heap.size ∧ ∃ xs, wr.ownsRow w.heap.size 30 1 (.slice (some ⟨w.heap.size, 0, none⟩) p p) p xs ∧ Hid (OnesTo wr w.heap.size k xs)) (fun _ i _ => p - (intOf i).toNat)
  case atStart => exact ⟨0, Nat.zero_le _, rfl, hb1, own_madeIntS hown, _, hown, Lib.hid ⟨fun _ => 0, fun i hi => by omega, fun i j _ hj => by omega⟩⟩
  case round =>
    clear hown hb1
    obtain ⟨k, hk, rfl, hb2, hsz, xs, hown, hxs⟩ := hrel
    by_cases hlt : k < p
    · obtain ⟨wa, hwa⟩ : ∃ wa, wa = wr.alloc (.cells #[.int .i64 0] 3) := ⟨_, rfl⟩
      have hba : Below wr.heap.size wr wa := by rw [hwa]; exact (Below.refl _ _).alloc (Nat.le_refl _) _
      have hga : wa.heap[wr.heap.size]? = some (.cells #[.int .i64 0] 3 (0, 0)) := by rw [hwa]; exact heap_alloc_new _ _
      have hla : wr.heap.size < wa.heap.size := by rw [hwa]; simp
      have howna := own_below hown hba
      obtain ⟨x, hx⟩ : ∃ x, xs[k]? = some x := ⟨_, List.getElem?_eq_getElem (by rw [hown.1]; omega)⟩
      have hc2 : wa.cell? ⟨w.heap.size, k, none⟩ = some x := by rw [howna.cellAt k (by omega), hx]
      have hf2 : wa.frozen? ⟨w.heap.size, k, none⟩ = false := howna.frozenAt k
      have hst := (howna.stored k (.slice (some ⟨wr.heap.size, 0, none⟩) 1 1)).1
      have hb3 : Below w.heap.size w (wa.setCell ⟨w.heap.size, k, none⟩ (.slice (some ⟨wr.heap.size, 0, none⟩) 1 1)) := (hb2.trans (hba.mono hb2.size)).setCell (Nat.le_refl _) _
      have hrel2 : Hid (OnesTo (wa.setCell ⟨w.heap.size, k, none⟩ (.slice (some ⟨wr.heap.size, 0, none⟩) 1 1)) w.heap.size (k + 1) (xs.set k (.slice (some ⟨wr.heap.size, 0, none⟩) 1 1))) := Lib.hid (OnesTo.step hxs.out hba hga hla hsz (by rw [hown.1]; omega))
      have hsz2 : Hid (w.heap.size < (wa.setCell ⟨w.heap.size, k, none⟩ (.slice (some ⟨wr.heap.size, 0, none⟩) 1 1)).heap.size) := Lib.hid (by simp [World.setCell]; omega)
      subst hwa
      have hE := World.setCell_alloc_past (w := wr) (.cells #[.int .i64 0] 3) w.heap.size k (.slice (some ⟨wr.heap.size, 0, none⟩) 1 1) hsz
      rw [hE] at hb3 hst hrel2 hsz2
      clear hE
      clear hxs hb2 hown howna hba hga hla hx
      go_wp2_with fail
      go_roundw
      case rel => exact ⟨k + 1, by omega, by go_num, hb3, hsz2.out, _, hst, hrel2⟩
      case measure => simp [intOf]; omega
    · obtain rfl : k = p := by omega
      have hC : Hid (Cols wr w.heap.size w.heap.size k 0 0 (fun _ => 0)) := Lib.hid (hxs.out.cols hown)
      clear hown hxs
      go_wp2_with fail
      go_ret
      exact ⟨rfl, hC.out, hb2⟩
/-- The page that writing the rounds down gives. -/
def PageOf (w' : World) (base : Nat) (p : Int) (zss : List (List Int)) (u : Value) : Prop :=
  (isSheet p zss = true ∧ ∃ g n : Nat, (n : Int) = p ∧ u = .iface 86 (.slice (some ⟨g, 0, none⟩) n n) ∧ Cols w' base g n zss.length 0 (colSum zss)) ∨
    (isSheet p zss = false ∧ u = .iface 118 (.agg #[]))
set_option maxRecDepth 100000 in
set_option maxHeartbeats 1000000 in
theorem writeDown_any (p : Int) (v : Value) (zss : List (List Int)) (w : World) (h : RdRows .i64 w v zss) (hl : zss.length ≤ 4194304) (hl2 : sumLen zss ≤ 4194304) :
    Calls Tryd.prog 63 #[.int .i64 p, v] w fun e w' => ∃ u, e = .returned u ∧ PageOf w' w.heap.size p zss u ∧ Below w.heap.size w w' := by
  have hrow := fun j (hj : j < zss.length) => h.row hj
  obtain ⟨a, cap, rfl, -, -⟩ := id h
  clear h
  by_cases hp : 2 ≤ p ∧ p ≤ 6
  · have HI := Lib.hid (fun wx => inR_any p 2 6 wx true (by simpa using hp))
    by_cases h50 : zss.length ≤ 50
    · obtain ⟨n, hn⟩ : ∃ n, n = zss.length := ⟨_, rfl⟩
      have Hn := Lib.hid hn
      have Hrow := Lib.hid hrow
      have Hsum : Hid (∀ j (hj : j < zss.length), zss[j].length ≤ 4194304) := Lib.hid (fun j hj => Nat.le_trans (len_le_sum zss hj) hl2)
      have Hp := Lib.hid hp
      obtain ⟨m, hm⟩ : ∃ m : Nat, (m : Int) = p := ⟨p.toNat, by omega⟩
      have hm6 : m ≤ 6 := by omega
      have HE := Lib.hid (emptyCols_any m w (by omega))
      rw [← hn] at hl h50 ⊢
      subst hm
      clear hn hrow hp hl2
      go_enter Tryd.func63, Tryd.ntmps63
      go_wp2_with fail
      refine (HI.out _).mono ?_
      rintro e _w ⟨rfl, rfl⟩
      go_wp2_with fail
      refine HE.out.mono ?_
      rintro e w1 ⟨rfl, hC1, hB1⟩
      have C1 : Hid (Cols w1 w.heap.size w.heap.size m 0 0 (colSum (zss.take 0))) := Lib.hid hC1
      clear HE hC1
      go_wp2_with fail
      go_loopw [7, 22] (fun _ i wr => ∃ k : Nat, k ≤ n ∧ i = .int .i64 k ∧ Below w.heap.size w wr ∧ Hid (Cols wr w.heap.size w.heap.size m k 0 (colSum (zss.take k))) ∧ Hid (∀ j (hj : j < zss.length), j < k → isRound m zss[j] = true)) (fun _ i _ => n - (intOf i).toNat)
      case atStart => exact ⟨0, Nat.zero_le _, rfl, hB1, C1, Lib.hid (fun j _ hj => by omega)⟩
      case round =>
        clear C1 hB1
        obtain ⟨k, hk, rfl, hB, hC, hall⟩ := hrel
        by_cases hlt : k < n
        · have hz : k < zss.length := by rw [← Hn.out]; exact hlt
          obtain ⟨blk, off, cap', p', c, b, hv, hc, hr, -⟩ := Hrow.out k hz
          have ha := (Value.slice.inj hv).1
          clear hv
          subst ha
          have hc1 : wr.cell? ⟨blk, off + k, none⟩ = some (.slice p' (zss[k]'hz).length c) := by rw [hB.cell (World.block_lt_of_cell? _ _ hc), hc]
          have hlk := Hsum.out k hz
          have HR := Lib.hid (isRound_any m _ (zss[k]'hz) b wr (hr.below hB) (by omega))
          have hHr := Lib.hid hr
          clear hc hr
          cases hq : isRound m (zss[k]'hz) with
          | false =>
            rw [hq] at HR
            have hf : Hid (isSheet m zss = false) := Lib.hid (sheet_bad k hz hq)
            clear hq
            generalize (zss[k]'hz).length = q at *
            go_wp2_with fail
            refine HR.out.mono ?_
            rintro e _w ⟨rfl, rfl⟩
            go_wp2_with fail
            go_ret
            exact ⟨_, rfl, .inr ⟨hf.out, rfl⟩, hB⟩
          | true =>
            rw [hq] at HR
            obtain ⟨-, g2, g3, -⟩ := isRound_all hq
            have hall2 : Hid (∀ j (hj : j < zss.length), j < k + 1 → isRound m zss[j] = true) := Lib.hid (fun j hj hjk => by
              by_cases e : j = k
              · subst e; exact hq
              · exact hall.out j hj (by omega))
            have hbd : ∀ i, -100000 ≤ colSum (zss.take k) i ∧ colSum (zss.take k) i ≤ 100000 := fun i => by
              have h1 := colSum_bd m i (zss.take k) (all_take k hall.out)
              rw [List.length_take] at h1; omega
            have HA := Lib.hid (add_any w.heap.size w.heap.size m k (colSum (zss.take k)) _ (zss[k]'hz) b wr w hC.out hHr.out (by omega) (by omega) hm6 hbd g3 hB (Nat.le_refl _) hB.size)
            have hnext : Hid (∀ wz, Cols wz w.heap.size w.heap.size m (k + 1) 0 (fun i => colSum (zss.take k) i + (zss[k]'hz).getD i 0) → Cols wz w.heap.size w.heap.size m (k + 1) 0 (colSum (zss.take (k + 1)))) := Lib.hid (fun wz hw => hw.congr (fun i _ => (colSum_take zss k i hz).symm))
            clear hq hbd g2 g3 hC hall
            generalize (zss[k]'hz).length = q at *
            go_wp2_with fail
            refine HR.out.mono ?_
            rintro e _w ⟨rfl, rfl⟩
            go_wp2_with fail
            refine HA.out.mono ?_
            rintro e w2 ⟨rfl, hC2, hB2, -⟩
            have HC2 := Lib.hid (hnext.out _ hC2)
            clear hC2
            go_wp2_with fail
            go_roundw
            case rel => exact ⟨k + 1, by omega, by go_num, hB2, HC2, hall2⟩
            case measure => simp [intOf]; omega
        · obtain rfl : k = n := by omega
          have hf : Hid (isSheet m zss = true) := Lib.hid (sheet_yes Hp.out (by rw [← Hn.out]; exact h50) (fun j hj => hall.out j hj (by rw [Hn.out]; exact hj)))
          have hfin : Hid (Cols wr w.heap.size w.heap.size m zss.length 0 (colSum zss)) := Lib.hid (by
            have := hC.out
            rw [List.take_of_length_le (by rw [Hn.out]; exact Nat.le_refl _)] at this
            rw [← Hn.out]; exact this)
          clear hC hall
          go_wp2_with fail
          go_ret
          exact ⟨_, rfl, .inl ⟨hf.out, _, m, rfl, rfl, hfin.out⟩, hB⟩
    · have hf : Hid (isSheet p zss = false) := Lib.hid (sheet_n h50)
      have h50' : 50 < zss.length := by omega
      clear hrow hl2 hp h50
      generalize zss.length = n at *
      have hq : decide ((n : Int) > 50) = true := by simp; omega
      go_enter Tryd.func63, Tryd.ntmps63
      go_wp2_with fail
      refine (HI.out _).mono ?_
      rintro e _w ⟨rfl, rfl⟩
      go_wp2_with fail
      go_ret
      exact ⟨_, rfl, .inr ⟨hf.out, rfl⟩, Below.refl _ _⟩
  · have HI := Lib.hid (fun wx => inR_any p 2 6 wx false (by simp only [decide_eq_false hp]))
    have hf : Hid (isSheet p zss = false) := Lib.hid (sheet_p hp)
    clear hrow hl2 hp
    generalize zss.length = n at *
    go_enter Tryd.func63, Tryd.ntmps63
    go_wp2_with fail
    refine (HI.out _).mono ?_
    rintro e _w ⟨rfl, rfl⟩
    go_wp2_with fail
    go_ret
    exact ⟨_, rfl, .inr ⟨hf.out, rfl⟩, Below.refl _ _⟩
end Go.Proofs.YtmfammgdcdlceaaDoor
