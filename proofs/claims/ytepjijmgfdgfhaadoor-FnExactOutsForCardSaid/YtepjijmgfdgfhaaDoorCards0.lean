/-
  Sets of cards as numbers: the cards in ascending order, one by one from the lowest bit (pure), and the library's OnesCount64 (its bound) and TrailingZeros64 by contract.
-/
import Derived.Test.YtepjijmgfdgfhaaDoorSetOf
import Derived.Laws.Bits64b
import Derived.Lib.TrailingZeros
import Derived.Lib.LaidTab
namespace Go.Proofs.YtepjijmgfdgfhaaDoor
open Go.RowKit
set_option linter.unusedVariables false
set_option linter.unusedSimpArgs false

def bitsOf (x : Nat) : List Nat := (List.range 52).filter (fun j => x.testBit j)
def cardsN (x : Nat) : List Int := (bitsOf x).map (fun (j : Nat) => (j : Int))
theorem filter_low (p p' : Nat → Bool) (n k : Nat) (hk : k < n) (h0 : ∀ i, i < k → p i = false) (h1 : p k = true) (h2 : ∀ i, p' i = (p i && decide (i ≠ k))) : (List.range n).filter p = k :: (List.range n).filter p' := by
  have e : List.range n = List.range (k + 1) ++ (List.range (n - (k + 1))).map (fun i => i + (k + 1)) := by
    apply List.ext_getElem
    · simp; omega
    · intro i h1 h2
      simp only [List.getElem_range, List.getElem_append, List.length_range, List.getElem_map]
      split <;> omega
  rw [e, List.filter_append, List.filter_append]
  have a1 : (List.range (k + 1)).filter p = [k] := by
    rw [List.range_succ, List.filter_append]
    have : (List.range k).filter p = [] := by
      rw [List.filter_eq_nil_iff]; intro i hi; simp at hi; rw [h0 i hi]; decide
    rw [this]; simp [h1]
  have a2 : (List.range (k + 1)).filter p' = [] := by
    rw [List.filter_eq_nil_iff]; intro i hi
    simp at hi
    rw [h2 i]
    by_cases e : i = k
    · simp [e]
    · rw [h0 i (by omega)]; simp
  have a3 : ((List.range (n - (k + 1))).map (fun i => i + (k + 1))).filter p = ((List.range (n - (k + 1))).map (fun i => i + (k + 1))).filter p' := by
    apply List.filter_congr
    intro i hi
    obtain ⟨j, -, rfl⟩ := List.mem_map.1 hi
    rw [h2]; simp; omega
  rw [a1, a2, a3]; rfl
/-- The lowest bit of x, and x without it. -/
theorem low_bits (x : Nat) (h0 : x ≠ 0) (h : x < 2 ^ 52) : Lib.ctz 64 x < 52 ∧ x.testBit (Lib.ctz 64 x) = true ∧ (∀ i, i < Lib.ctz 64 x → x.testBit i = false) ∧ ∀ j, (x &&& (x - 1)).testBit j = (x.testBit j && decide (j ≠ Lib.ctz 64 x)) := by
  obtain ⟨m, hm, hk⟩ := Lib.ctzFrom_spec 64 x (by omega) (by omega)
  have hc : Lib.ctz 64 x = Lib.ctzFrom 64 x := by unfold Lib.ctz; rw [if_neg h0]
  rw [hc]
  generalize Lib.ctzFrom 64 x = k at *
  have hp : 0 < 2 ^ k := Nat.two_pow_pos k
  have hbit : ∀ j, x.testBit j = (decide (j ≥ k) && (2 * m + 1).testBit (j - k)) := fun j => by rw [hm, Nat.testBit_two_pow_mul]
  have hk1 : x.testBit k = true := by rw [hbit]; simp
  have hx1 : x - 1 = 2 ^ k * (2 * m) + (2 ^ k - 1) := by
    rw [hm, Nat.mul_add, Nat.mul_one]; omega
  refine ⟨?_, hk1, fun i hi => ?_, fun j => ?_⟩
  · refine Decidable.byContradiction fun hn => ?_
    have : x.testBit k = false := Nat.testBit_lt_two_pow (Nat.lt_of_lt_of_le h (Nat.pow_le_pow_right (by decide) (by omega)))
    rw [hk1] at this; cases this
  · rw [hbit]; simp; omega
  · rw [Nat.testBit_and]
    by_cases e : j = k
    · subst e
      have : (x - 1).testBit j = false := by
        rw [hx1, Nat.testBit_two_pow_mul_add _ (by omega), if_neg (by omega), Nat.sub_self]
        simp
      rw [this]; simp
    · by_cases hlt : j < k
      · have : x.testBit j = false := by rw [hbit]; simp; omega
        rw [this]; simp
      · have h1 : (x - 1).testBit j = x.testBit j := by
          obtain ⟨s, hs⟩ : ∃ s, j - k = s + 1 := ⟨j - k - 1, by omega⟩
          rw [hx1, Nat.testBit_two_pow_mul_add _ (by omega), if_neg hlt, hbit, hs, Nat.testBit_succ, Nat.testBit_succ]
          have e1 : (2 * m) / 2 = m := by omega
          have e2 : (2 * m + 1) / 2 = m := by omega
          rw [e1, e2]
          simp; omega
        rw [h1]; simp [e]
theorem cards_step (x : Nat) (h0 : x ≠ 0) (h : x < 2 ^ 52) : cardsN x = ((Lib.ctz 64 x : Nat) : Int) :: cardsN (x &&& (x - 1)) := by
  obtain ⟨h1, h2, h3, h4⟩ := low_bits x h0 h
  unfold cardsN bitsOf
  rw [filter_low _ _ 52 _ h1 h3 h2 h4]; rfl
theorem cards_zero : cardsN 0 = [] := by
  unfold cardsN bitsOf
  simp
theorem cards_len (x : Nat) : (cardsN x).length ≤ 52 := by
  unfold cardsN bitsOf
  rw [List.length_map]
  exact Nat.le_trans (List.length_filter_le _ _) (by simp)
theorem cards_wf (x : Nat) : ∀ n ∈ cardsN x, (Lit.int .i64 n).wf = true := by
  intro n hn
  unfold cardsN bitsOf at hn
  obtain ⟨j, hj, rfl⟩ := List.mem_map.1 hn
  have := (List.mem_filter.1 hj).1
  simp at this
  exact WalkArith.wf_i64 (by omega)
theorem and_127 (a : Int) : ∃ c : Nat, bits .and .i64 a 127 = (c : Int) ∧ c ≤ 127 := by
  have h1 : (BitVec.ofInt 64 a &&& BitVec.ofInt 64 127).toNat ≤ 127 := by
    rw [BitVec.toNat_and]
    exact Nat.le_trans Nat.and_le_right (by decide)
  refine ⟨(BitVec.ofInt 64 a &&& BitVec.ofInt 64 127).toNat, ?_, h1⟩
  show IntKind.i64.wrap ((BitVec.ofInt 64 a &&& BitVec.ofInt 64 127).toNat : Int) = _
  rw [IntKind.wrap_i64]; omega
set_option maxRecDepth 100000 in
set_option maxHeartbeats 1000000 in
theorem ones_any (x : Int) (w : World) :
    Calls Tryd.prog 34 #[.int .u64 x] w fun e w' => ∃ c : Nat, e = .returned (.int .i64 c) ∧ c ≤ 127 ∧ w = w' := by
  go_enter Tryd.func34, Tryd.ntmps34
  go_wp2_with fail
  go_ret
  refine ⟨_, congrArg (fun z => Ending.returned (.int .i64 z)) (Classical.choose_spec (and_127 _)).1, (Classical.choose_spec (and_127 _)).2, rfl⟩
/-- The table of the library, as its text lays it. -/
def TabZ (w : World) : Prop := ∀ j, j < Lib.deBruijn64tab.length → w.cell? ⟨0, j, none⟩ = some (.int .u8 (Lib.deBruijn64tab.getD j 0))
theorem TabZ.below {w w' : World} (h : TabZ w) (b : Below w.heap.size w w') : TabZ w' := fun j hj => by
  have := h j hj
  exact (b.cell (World.block_lt_of_cell? _ _ this)).trans this
theorem tz_keyZ (x a : Nat) (hx : x < 18446744073709551616) (h0 : x ≠ 0) (hlow : x &&& (18446744073709551616 - x) = a) :
    IntKind.u64.wrap (bits BinOp.and IntKind.u64 (x : Int) (IntKind.u64.wrap (-(x : Int))) * 285870213051353865) / 288230376151711744 = ((a * 285870213051353865 % 18446744073709551616 / 288230376151711744 : Nat) : Int) := by
  have e1 : IntKind.u64.wrap (-(x : Int)) = ((18446744073709551616 - x : Nat) : Int) := by rw [IntKind.wrap_u64]; omega
  rw [e1, bits_and_u64_nat x _ hx (by omega), hlow, IntKind.wrap_u64]
  omega
set_option maxRecDepth 100000 in
theorem tz_core (x k idx : Nat) (w : World) (hx0 : ((x : Int) == 0) = false) (key : IntKind.u64.wrap (bits BinOp.and IntKind.u64 (x : Int) (IntKind.u64.wrap (-(x : Int))) * 285870213051353865) / 288230376151711744 = (idx : Int))
    (hi : idx < 64) (hk : k < 64) (hcell : w.cell? ⟨0, idx, none⟩ = some (.int .u8 k)) :
    Calls Tryd.prog 29 #[.int .u64 x] w fun e w' => e = .returned (.int .i64 (k : Nat)) ∧ w = w' := by
  go_enter Tryd.func29, Tryd.ntmps29
  go_wp2_with (simp only [key])
  go_ret
  exact ⟨rfl, rfl⟩
theorem tz_any (x : Nat) (w : World) (h0 : x ≠ 0) (h : x < 2 ^ 52) (hT : TabZ w) :
    Calls Tryd.prog 29 #[.int .u64 x] w fun e w' => e = .returned (.int .i64 (Lib.ctz 64 x : Nat)) ∧ w = w' := by
  have hx : x < 18446744073709551616 := Nat.lt_of_lt_of_le h (by decide)
  obtain ⟨hlow, hk⟩ := Lib.lowest_bit 64 x h0 hx
  obtain ⟨hi, htab⟩ := Lib.deBruijn64_at _ hk
  have hcell := hT _ hi
  rw [htab] at hcell
  exact tz_core x _ _ w (by simp; omega) (tz_keyZ x _ hx h0 hlow) hi hk hcell
theorem size_any (x : Int) (w : World) :
    Calls Tryd.prog 28 #[.int .u64 x] w fun e w' => ∃ c : Nat, e = .returned (.int .i64 c) ∧ c ≤ 127 ∧ w = w' := by
  have HO := Lib.hid (ones_any x w)
  go_enter Tryd.func28, Tryd.ntmps28
  go_wp2_with fail
  refine HO.out.mono ?_
  rintro e _w ⟨c, rfl, hc, rfl⟩
  go_wp2_with fail
  go_ret
  exact ⟨c, rfl, hc, rfl⟩
set_option maxRecDepth 100000 in
set_option maxHeartbeats 1000000 in
theorem cards_any (x : Nat) (w : World) (h : x < 2 ^ 52) (hT : TabZ w) :
    Calls Tryd.prog 22 #[.int .u64 x] w fun e w' => ∃ v' b', e = .returned v' ∧ w.heap.size ≤ b' ∧ WrAt .i64 w' v' (cardsN x) b' ∧ Below w.heap.size w w' := by
  obtain ⟨i0, hi, hz0, hz1, hz2⟩ := info_parts info_i64
  have HO := Lib.hid (size_any x w)
  have HT := Lib.hid hT
  have HC := Lib.hid (cards_step)
  have Hwf := Lib.hid (cards_wf x)
  have Hlen := Lib.hid (cards_len x)
  have Hx := Lib.hid h
  obtain ⟨G, hG⟩ : ∃ G, G = cardsN x := ⟨_, rfl⟩
  have HG := Lib.hid hG
  rw [← hG] at Hwf Hlen ⊢
  clear h hT hG
  go_enter Tryd.func22, Tryd.ntmps22
  go_wp2_with fail
  refine HO.out.mono ?_
  rintro e _w ⟨c, rfl, hc, rfl⟩
  go_wp2_with (at_make; refine wpList_make_own _ rfl _ _ 22 rfl w.heap.size 3 i0 (.int .i64 0) 1 Tryd.underlying22 hi hz0 hz1 .i64 .i64 (c : Int) c rfl rfl rfl ?c1 ?c2 ?c3 ?_)
  case c1 => rw [hz2]; omega
  case c2 => unfold maxLen; omega
  case c3 => exact Nat.le_refl _
  intro w1 hown hgr
  have hb1 : Below w.heap.size w w1 := (Below.refl _ _).grown hgr (Nat.le_refl _) (fun k hk => by cases hk)
  have hown1 : Hid (w1.ownsRow w.heap.size 3 1 (.slice (some ⟨w.heap.size, 0, none⟩) 0 c) ([] : List Int).length (([] : List Int).map (Value.int .i64))) := Lib.hid (by simpa using hown)
  clear hgr hown
  go_wp2_with fail
  go_loopw [3, 4] (fun o i wr => ∃ (r : Nat) (F : List Int), i = .int .u64 r ∧ Hid (r < 2 ^ 52) ∧ Hid (F ++ cardsN r = G) ∧ F.length ≤ 52 ∧ Below w.heap.size w wr ∧ Hid (wr.ownsRow w.heap.size 3 1 o F.length (F.map (Value.int .i64)))) (fun _ i _ => (intOf i).toNat)
  case atStart => exact ⟨x, [], rfl, Hx, Lib.hid (by rw [HG.out]; rfl), by simp, hb1, hown1⟩
  case round =>
    clear hown1 hb1
    obtain ⟨r, F, rfl, hr52, hF, hF52, B, hown⟩ := hrel
    by_cases hr0 : r = 0
    · subst hr0
      have hfin : Hid (∃ b', w.heap.size ≤ b' ∧ WrAt .i64 wr _ G b') := Lib.hid (by
        have e : F = G := by have := hF.out; rw [cards_zero, List.append_nil] at this; exact this
        have := hown.out
        rw [e] at this
        exact own_wr this Hwf.out)
      go_wp2_with fail
      go_ret
      obtain ⟨b', h1, h2⟩ := hfin.out
      exact ⟨_, b', rfl, h1, h2, B⟩
    · have hst := HC.out r hr0 hr52.out
      have HTz := Lib.hid (tz_any r wr hr0 hr52.out (HT.out.below B))
      obtain ⟨y, hy⟩ : ∃ y : Nat, y = Lib.ctz 64 r := ⟨_, rfl⟩
      rw [← hy] at hst HTz
      obtain ⟨s, hs⟩ : ∃ s : Nat, r = s + 1 := ⟨r - 1, by omega⟩
      have hs1 : r - 1 = s := by omega
      rw [hs1] at hst
      have hs52 : s < 2 ^ 52 := by have := hr52.out; omega
      have e2 := bits_and hr52.out hs52
      have hlt : r &&& s < r := Nat.lt_of_le_of_lt Nat.and_le_right (by omega)
      have ht52 : Hid (r &&& s < 2 ^ 52) := Lib.hid (Nat.lt_trans hlt hr52.out)
      have hF2 : Hid ((F ++ [(y : Int)]) ++ cardsN (r &&& s) = G) := Lib.hid (by rw [← hF.out, hst]; simp)
      have hF2l : F.length + 1 ≤ 52 := by
        have h1 := congrArg List.length hF2.out
        simp only [List.length_append, List.length_cons, List.length_nil] at h1
        have := Hlen.out; omega
      have hq : ((r : Int) != 0) = true := by simp; omega
      have e1 : IntKind.u64.wrap ((r : Int) - 1) = (s : Int) := by rw [IntKind.wrap_u64]; have := hr52.out; omega
      have e1' : (r : Int) - 1 = (s : Int) := by omega
      have e1'' : IntKind.u64.wrap (s : Int) = (s : Int) := by rw [IntKind.wrap_u64]; have := hr52.out; omega
      generalize r &&& s = t at *
      have Hst := Lib.hid hst
      have Hs := Lib.hid hs
      obtain ⟨po, co, eo⟩ := own_shape hown.out
      subst eo
      have hown0 := hown.out
      clear hst hy hs hs1 hr0 hs52 hF hown
      go_wp2_with fail
      refine HTz.out.mono ?_
      rintro e _w ⟨rfl, rfl⟩
      go_wp2_with (at_builtin; refine wpList_append_own _ rfl _ _ 22 rfl w.heap.size 3 i0 (.int .i64 0) 1 8 Tryd.underlying22 hi hz0 hz1 hz2 rfl (by decide) _ _ _ rfl (hown0.alloc _) ⟨wr.heap.size, 0, none⟩ 1 1 [.int .i64 (y : Nat)] rfl rfl (cell_one_new _ _ _) (one_cell _ _) ?e3 ?e4 (by have := B.size; simp; omega) ?_)
      case e3 => unfold maxLen; omega
      case e4 => omega
      intro v2 w2 hown2 hgr2 _
      have hB2 : Below w.heap.size w w2 := (B.alloc B.size _).grown hgr2 (by have := B.size; simp; omega) (own_block hown0)
      have hown3 : Hid (w2.ownsRow w.heap.size 3 1 v2 (F ++ [(y : Int)]).length ((F ++ [(y : Int)]).map (Value.int .i64))) := Lib.hid (by
        rw [List.length_append, List.map_append]; exact hown2)
      clear hown2 hgr2 hown0
      go_wp2_with fail
      go_roundw
      case rel => exact ⟨t, F ++ [(y : Int)], rfl, ht52, hF2, by rw [List.length_append]; simpa using hF2l, hB2, hown3⟩
      case measure => simp [intOf]; omega
end Go.Proofs.YtepjijmgfdgfhaaDoor
