/-
  Sheets, the program's side: the columns of running sums.
-/
import Derived.Test.YtmfammgdcdlceaaDoorSheet0
import Derived.Test.YtmfammgdcdlceaaDoorIntRows
import Derived.Maps.AppendAt
import Derived.Deep.QuietTactic
import Derived.BigQuiet
import Derived.Deep.RegionHeld3
namespace Go.Proofs.YtmfammgdcdlceaaDoor
open Go.RowKit
set_option linter.unusedVariables false
set_option linter.unusedSimpArgs false

theorem box_setX {w : World} {b : Nat} {c : Array Value} {t : TypeId} {fr : Nat × Nat} (h : w.heap[b]? = some (.cells c t fr)) (i : Nat) (v : Value) : (w.setCell ⟨b, i, none⟩ v).heap[b]? = some (.cells (c.setIfInBounds i v) t fr) := by
  simp [World.setCell, Array.getElem?_modify, h]
/-- Block g holds p slices, each in a row of the call's own; the last number of row i is f i; the first k rows have r + 2 numbers, the others r + 1. -/
def Cols (w : World) (base g p r k : Nat) (f : Nat → Int) : Prop :=
  ∃ (vs : List Value) (t : TypeId), vs.length = p ∧ base ≤ g ∧ w.heap[g]? = some (.cells ⟨vs⟩ t (0, 0)) ∧ (∀ u ∈ vs, u.oneCell' = true) ∧
    (∀ i (hi : i < vs.length), ∃ (b : Nat) (xs : List Value), vs[i].ownBlock = some b ∧ b ≠ g ∧ w.ownsRow base 3 1 vs[i] ((if i < k then r + 1 else r) + 1) (xs ++ [.int .i64 (f i)])) ∧
    (∀ i j (hi : i < vs.length) (hj : j < vs.length), i ≠ j → vs[i].ownBlock ≠ vs[j].ownBlock)
theorem Cols.below {w w' : World} {base g p r k : Nat} {f : Nat → Int} (h : Cols w base g p r k f) (hb : Below w.heap.size w w') : Cols w' base g p r k f := by
  obtain ⟨vs, t, h1, h2, h3, h0, h4, h5⟩ := h
  refine ⟨vs, t, h1, h2, (hb.block g (Array.getElem?_eq_some_iff.1 h3).1).trans h3, h0, fun i hi => ?_, h5⟩
  obtain ⟨b, xs, a1, a2, a3⟩ := h4 i hi
  exact ⟨b, xs, a1, a2, own_below a3 hb⟩
theorem Cols.congr {w : World} {base g p r k : Nat} {f f' : Nat → Int} (h : Cols w base g p r k f) (he : ∀ i, i < p → f i = f' i) : Cols w base g p r k f' := by
  obtain ⟨vs, t, h1, h2, h3, h0, h4, h5⟩ := h
  refine ⟨vs, t, h1, h2, h3, h0, fun i hi => ?_, h5⟩
  rw [← he i (by omega)]; exact h4 i hi
/-- All rows have grown: a round more. -/
theorem Cols.next {w : World} {base g p r : Nat} {f : Nat → Int} (h : Cols w base g p r p f) : Cols w base g p (r + 1) 0 f := by
  obtain ⟨vs, t, h1, h2, h3, h0, h4, h5⟩ := h
  refine ⟨vs, t, h1, h2, h3, h0, fun i hi => ?_, h5⟩
  have := h4 i hi
  rw [if_pos (show i < p by omega)] at this
  rw [if_neg (by omega)]; exact this
/-- Row i, opened. -/
theorem Cols.row {w : World} {base g p r k : Nat} {f : Nat → Int} (h : Cols w base g p r k f) {i : Nat} (hi : i < p) :
    ∃ (b n cap : Nat), w.cell? ⟨g, i, none⟩ = some (.slice (some ⟨b, 0, none⟩) (n + 1) cap) ∧ w.cell? ⟨b, n, none⟩ = some (.int .i64 (f i)) ∧ n + 1 ≤ cap ∧ cap ≤ maxLen ∧ n ≤ r + 1 := by
  obtain ⟨vs, t, h1, h2, h3, h0, h4, h5⟩ := h
  obtain ⟨b, xs, a1, a2, a3⟩ := h4 i (by omega)
  obtain ⟨n, hn⟩ : ∃ n, n = (if i < k then r + 1 else r) := ⟨_, rfl⟩
  rw [← hn] at a3
  have hnr : n ≤ r + 1 := by rw [hn]; split <;> omega
  have a3' := a3
  obtain ⟨hl, h⟩ := a3
  rcases h with ⟨h, h'⟩ | ⟨g', cap, cur, e, hg, hh, hnc, hcm, hcs, htake⟩
  · exact absurd h' (by omega)
  have hc : w.cell? ⟨g, i, none⟩ = some vs[i] := by
    have hi' : i < vs.length := by omega
    simp [World.cell?, h3, hi']
  rw [e] at hc a3'
  refine ⟨g', n, cap, hc, ?_, hnc, hcm, hnr⟩
  rw [a3'.cellAt n (by omega)]
  have hl2 : xs.length = n := by simp at hl; omega
  rw [← hl2]; simp
/-- A number appended to row k, and the row stored. -/
theorem Cols.step {w : World} {base g p r k : Nat} {f : Nat → Int} (h : Cols w base g p r k f) (hk : k < p) (hr : r ≤ 1000) (w0 : World) (B0 : Below w0.heap.size w0 w) (hbase : w0.heap.size ≤ base) (hbs : base ≤ w.heap.size) :
    ∃ (b cap : Nat), w.cell? ⟨g, k, none⟩ = some (.slice (some ⟨b, 0, none⟩) (r + 1) cap) ∧ ∀ (wy : World) (y : Int) (ty : TypeId), Below w.heap.size w wy →
      ∃ v' w4, (Builtin.append_ #[30, 30] ty #[.slice (some ⟨b, 0, none⟩) (r + 1) cap, .slice (some ⟨wy.heap.size, 0, none⟩) 1 1]).run Tryd.prog (wy.alloc (.cells #[.int .i64 y] 3)) = .ok v' w4 ∧
        w4.cell? ⟨g, k, none⟩ = some (.slice (some ⟨b, 0, none⟩) (r + 1) cap) ∧ w4.frozen? ⟨g, k, none⟩ = false ∧ (∃ q c, v' = .slice q (r + 2) c) ∧
        Cols (w4.setCell ⟨g, k, none⟩ v') base g p r (k + 1) (fun i => if i = k then y else f i) ∧ Below w0.heap.size w0 (w4.setCell ⟨g, k, none⟩ v') ∧ w.heap.size ≤ (w4.setCell ⟨g, k, none⟩ v').heap.size := by
  obtain ⟨i0, hi, hz0, hz1, hz2⟩ := info_parts info_i64
  obtain ⟨vs, t, h1, h2, h3, h0, h4, h5⟩ := h
  have hkl : k < vs.length := by omega
  obtain ⟨b, xs, a1, a2, a3⟩ := h4 k hkl
  rw [if_neg (by omega)] at a3
  have hglt : g < w.heap.size := (Array.getElem?_eq_some_iff.1 h3).1
  obtain ⟨p0, cap, e⟩ := own_shape a3
  have e0 : p0 = some ⟨b, 0, none⟩ := by
    rcases a3.2 with ⟨h, h'⟩ | ⟨g', cap', cur, e', hg, hh, hnc, hcm, hcs, htake⟩
    · exact absurd h' (by omega)
    · rw [e'] at a1 e
      simp [Value.ownBlock] at a1
      simp only [Value.slice.injEq, true_and] at e
      rw [← e.1, a1]
  subst e0
  have hc : w.cell? ⟨g, k, none⟩ = some (.slice (some ⟨b, 0, none⟩) (r + 1) cap) := by
    rw [← e]; simp [World.cell?, h3, hkl]
  have hblt : b < w.heap.size := by
    rcases a3.2 with ⟨h, h'⟩ | ⟨g', cap', cur, e', hg, hh, hnc, hcm, hcs, htake⟩
    · exact absurd h' (by omega)
    · rw [e'] at a1
      simp [Value.ownBlock] at a1
      subst a1
      exact (Array.getElem?_eq_some_iff.1 hh).1
  refine ⟨b, cap, hc, fun wy y ty hb => ?_⟩
  have hb1 : Below w.heap.size w (wy.alloc (.cells #[.int .i64 y] 3)) := hb.alloc hb.size _
  have o1 := own_below a3 hb1
  obtain ⟨v', w4, hrun, hown, hgr, -, hat⟩ := run_append_own_at (P := Tryd.prog) (wy.alloc (.cells #[.int .i64 y] 3)) base 30 ty 3 i0 (.int .i64 0) 1 8 Tryd.underlying30 hi hz0 hz1 hz2 rfl (by decide) _ _ _ o1 ⟨wy.heap.size, 0, none⟩ 1 1 [.int .i64 y] rfl (cell_one_new _ _ _) (one_cell _ _) (by unfold maxLen; omega) (by omega) (Nat.le_trans hbs hb1.size)
  rw [e] at hrun hgr hat
  have hgr' : (wy.alloc (.cells #[.int .i64 y] 3)).grownBy w4 (some b) := hgr
  have hat' : v'.ownBlock = some b ∨ v'.ownBlock = some (wy.alloc (.cells #[.int .i64 y] 3)).heap.size := hat
  obtain ⟨w1, hw1⟩ : ∃ w1, w1 = wy.alloc (.cells #[.int .i64 y] 3) := ⟨_, rfl⟩
  rw [← hw1] at hrun hgr' hat' hb1 ⊢
  clear hgr hat
  have hg4 : w4.heap[g]? = some (.cells ⟨vs⟩ t (0, 0)) := (hgr'.block g (Nat.lt_of_lt_of_le hglt hb1.size) (fun e => a2 (Option.some.inj e).symm)).trans ((hb1.block g hglt).trans h3)
  have hone : v'.oneCell' = true := by
    obtain ⟨q, c', e'⟩ := own_shape hown
    rw [e']; rfl
  refine ⟨v', w4, hrun, ?_, by simp [World.frozen?, hg4], own_shape hown, ?_, ?_, ?_⟩
  · rw [← e]; simp [World.cell?, hg4, hkl]
  · have hS : ∀ i, i ≠ g → (w4.setCell ⟨g, k, none⟩ v').heap[i]? = w4.heap[i]? := fun i hi => Below.heap_setCell _ _ _ _ hi
    -- where the new row lies
    obtain ⟨b', hb'⟩ : ∃ b', v'.ownBlock = some b' := by rcases hat' with h | h <;> exact ⟨_, h⟩
    have hb'g : b' ≠ g := by
      rcases hat' with h | h
      · rw [hb'] at h; rw [Option.some.inj h]; exact a2
      · rw [hb'] at h; have := Option.some.inj h; have := hb1.size; omega
    have keepRow : ∀ {v : Value} {n : Nat} {xs : List Value} (B : World.ownsRow w4 base 3 1 v n xs), (∀ q, v.ownBlock = some q → q ≠ g) → (w4.setCell ⟨g, k, none⟩ v').ownsRow base 3 1 v n xs := by
      intro v n xs B hq
      obtain ⟨hl, h⟩ := B
      refine ⟨hl, h.imp id ?_⟩
      rintro ⟨g', cap', cur, e', hg, hh, r⟩
      refine ⟨g', cap', cur, e', hg, ?_, r⟩
      rw [hS g' (hq g' (by rw [e']; rfl))]; exact hh
    refine ⟨vs.set k v', t, by simpa using h1, h2, ?_, ?_, ?_, ?_⟩
    · have := box_setX hg4 k v'
      simpa using this
    · intro u hu
      rcases List.mem_or_eq_of_mem_set hu with h | h
      · exact h0 u h
      · rw [h]; exact hone
    · intro i hi
      have hi' : i < vs.length := by simpa using hi
      by_cases e2 : i = k
      · subst e2
        refine ⟨b', xs ++ [.int .i64 (f i)], by simpa using hb', hb'g, ?_⟩
        rw [if_pos (by omega)]
        show World.ownsRow _ base 3 1 (vs.set i v')[i] (r + 1 + 1) (xs ++ [.int .i64 (f i)] ++ [.int .i64 (if i = i then y else f i)])
        rw [if_pos rfl]
        have := keepRow hown (fun q hq => by rw [hb'] at hq; rw [← Option.some.inj hq]; exact hb'g)
        simpa using this
      · obtain ⟨bi, xi, c1, c2, c3⟩ := h4 i hi'
        have hne : bi ≠ b := fun e3 => h5 i k hi' hkl e2 (by rw [c1, a1, e3])
        have c4 : w4.ownsRow base 3 1 vs[i] ((if i < k then r + 1 else r) + 1) (xi ++ [.int .i64 (f i)]) := by
          have := own_below c3 hb1
          obtain ⟨hl, h⟩ := this
          refine ⟨hl, h.imp id ?_⟩
          rintro ⟨g', cap', cur, e', hg, hh, rr⟩
          refine ⟨g', cap', cur, e', hg, ?_, rr⟩
          have hgb : g' = bi := by rw [e'] at c1; simpa [Value.ownBlock] using c1
          rw [hgr'.block g' (Array.getElem?_eq_some_iff.1 hh).1 (fun e3 => hne (by rw [← hgb]; exact (Option.some.inj e3)))]
          exact hh
        have := keepRow c4 (fun q hq => by rw [c1] at hq; rw [← Option.some.inj hq]; exact c2)
        refine ⟨bi, xi, ?_, c2, ?_⟩
        · rw [List.getElem_set_ne (by omega)]; exact c1
        · rw [List.getElem_set_ne (by omega)]
          show World.ownsRow _ base 3 1 vs[i] ((if i < k + 1 then r + 1 else r) + 1) (xi ++ [.int .i64 (if i = k then y else f i)])
          rw [if_neg e2]
          by_cases hik : i < k
          · rw [if_pos (by omega)]; rw [if_pos hik] at this; exact this
          · rw [if_neg (by omega)]; rw [if_neg hik] at this; exact this
    · intro i j hi hj hij
      have hi' : i < vs.length := by simpa using hi
      have hj' : j < vs.length := by simpa using hj
      have other : ∀ m (hm : m < vs.length), m ≠ k → vs[m].ownBlock ≠ some b' := by
        intro m hm hmk e3
        obtain ⟨bm, xm, c1, c2, c3⟩ := h4 m hm
        rw [c1] at e3
        have e4 := Option.some.inj e3
        rcases hat' with h | h
        · rw [hb'] at h
          exact h5 m k hm hkl hmk (by rw [c1, a1, e4, Option.some.inj h])
        · rw [hb'] at h
          have e5 := Option.some.inj h
          have hlt : bm < w.heap.size := by
            rcases c3.2 with ⟨h, h'⟩ | ⟨g', cap', cur, e', hg, hh, hnc, hcm, hcs, htake⟩
            · exact absurd h' (by omega)
            · rw [e'] at c1
              simp [Value.ownBlock] at c1
              subst c1
              exact (Array.getElem?_eq_some_iff.1 hh).1
          have := hb1.size
          omega
      by_cases ei : i = k
      · subst ei
        rw [List.getElem_set_self, List.getElem_set_ne (by omega), hb']
        exact (other j hj' (by omega)).symm
      · by_cases ej : j = k
        · subst ej
          rw [List.getElem_set_self, List.getElem_set_ne (by omega), hb']
          exact other i hi' ei
        · rw [List.getElem_set_ne (by omega), List.getElem_set_ne (by omega)]
          exact h5 i j hi' hj' hij
  · have B1 : Below w0.heap.size w0 w1 := B0.trans (hb1.mono B0.size)
    exact (B1.grown hgr' B1.size (fun q hq => by rw [← Option.some.inj hq]; have := own_block a3 b a1; omega)).setCell (show w0.heap.size ≤ g by omega) _
  · have := hgr'.size
    have := hb1.size
    simp [World.setCell]; omega
end Go.Proofs.YtmfammgdcdlceaaDoor
