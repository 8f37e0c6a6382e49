/-
  Rows of rows that a call owns: a row appended; copyRows and l15Copy by contract.
-/
import Derived.Test.YtiklogpfckfcnaaFrX
import Derived.Test.YtiklogpfckfcnaaCopyI
import Derived.Maps.AppendAt
import Derived.Laws.CopyOwn
import Derived.Lib.AppendZerosOnto
namespace Go.Proofs.Ytiklogpfckfcnaa
open Go.RowKit
set_option linter.unusedVariables false
set_option linter.unusedSimpArgs false

/-- A slice of slices of the call's own, each row in a block of its own. -/
def OwnSS (w : World) (base : Nat) (v : Value) (zss : List (List Int)) : Prop :=
  ∃ (xs : List Value) (bf : Nat → Nat), w.ownsRow base 30 1 v zss.length xs ∧ (∀ j (hj : j < zss.length), ∃ r, xs[j]? = some r ∧ WrAt .i64 w r zss[j] (bf j) ∧ (zss[j] ≠ [] → base ≤ bf j ∧ bf j < w.heap.size ∧ v.ownBlock ≠ some (bf j))) ∧
    (∀ i j (hi : i < zss.length) (hj : j < zss.length), i ≠ j → zss[i] ≠ [] → zss[j] ≠ [] → bf i ≠ bf j)
theorem OwnSS.below {w w' : World} {base : Nat} {v : Value} {zss : List (List Int)} (h : OwnSS w base v zss) (hb : Below w.heap.size w w') : OwnSS w' base v zss := by
  obtain ⟨xs, bf, h1, h2, h3⟩ := h
  refine ⟨xs, bf, own_below h1 hb, fun j hj => ?_, h3⟩
  obtain ⟨r, a1, a2, a3⟩ := h2 j hj
  exact ⟨r, a1, a2.below hb, fun hz => ⟨(a3 hz).1, Nat.lt_of_lt_of_le (a3 hz).2.1 hb.size, (a3 hz).2.2⟩⟩
theorem OwnSS.shape {w : World} {base : Nat} {v : Value} {zss : List (List Int)} (h : OwnSS w base v zss) : ∃ p c, v = .slice p zss.length c := by
  obtain ⟨xs, bf, h1, -⟩ := h; exact own_shape h1
theorem OwnSS.base {w : World} {base base' : Nat} {v : Value} {zss : List (List Int)} (h : OwnSS w base v zss) (hb : base' ≤ base) : OwnSS w base' v zss := by
  obtain ⟨xs, bf, ⟨h0, h1⟩, h2, h3⟩ := h
  refine ⟨xs, bf, ⟨h0, h1.imp id ?_⟩, fun j hj => ?_, h3⟩
  · rintro ⟨g, cap, cur, e, hg, r⟩
    exact ⟨g, cap, cur, e, Nat.le_trans hb hg, r⟩
  · obtain ⟨r, a1, a2, a3⟩ := h2 j hj
    exact ⟨r, a1, a2, fun hz => ⟨Nat.le_trans hb (a3 hz).1, (a3 hz).2⟩⟩
theorem OwnSS.ss {w : World} {base : Nat} {v : Value} {zss : List (List Int)} (h : OwnSS w base v zss) : WrSS .i64 (In base w.heap.size) w v zss := by
  obtain ⟨xs, bf, h1, h2, h3⟩ := h
  have h1' := h1
  obtain ⟨h0, h⟩ := h1
  rcases h with ⟨e, hn⟩ | ⟨g, cap, cur, e, hg, hh, hnc, hcm, hcs, htake⟩
  · have : zss = [] := List.length_eq_zero_iff.1 hn
    subst this
    exact ⟨none, 0, e, ⟨Nat.le_refl _, Nat.zero_le _, fun _ => rfl⟩, .inl rfl⟩
  · have hglt := (Array.getElem?_eq_some_iff.1 hh).1
    subst e
    refine ⟨_, cap, rfl, ⟨hnc, hcm, fun e => by cases e⟩, .inr ⟨g, 0, bf, rfl, ⟨hg, hglt⟩, fun j hj => ?_, h3⟩⟩
    obtain ⟨r, a1, a2, a3⟩ := h2 j hj
    refine ⟨r, by rw [Nat.zero_add, h1'.cellAt j (by omega)]; exact a1, a2, fun hz => ⟨⟨(a3 hz).1, (a3 hz).2.1⟩, fun e => (a3 hz).2.2 ?_⟩⟩
    rw [e]; rfl
theorem slice_one {w : World} {v : Value} {zs : List Int} {b : Nat} (h : WrAt .i64 w v zs b) : v.oneCell' = true := by
  obtain ⟨p, c, e, -⟩ := h
  rw [e]; rfl
/-- One row more. -/
theorem OwnSS.snoc {w wy w0 : World} {base : Nat} {v r : Value} {zss : List (List Int)} {zs : List Int} {b : Nat} (h : OwnSS w base v zss) (hb : Below w.heap.size w wy) (hr : WrAt .i64 wy r zs b) (hf : zs ≠ [] → w.heap.size ≤ b) (hl : zss.length ≤ 1048600)
    (B0 : Below w0.heap.size w0 wy) (hbase : w0.heap.size ≤ base) (hbs : base ≤ w.heap.size) (t : TypeId) (hu : Try.prog.underlying t = some (.slice 30)) (ty : TypeId) :
    ∃ v' w4, (Builtin.append_ #[t, t] ty #[v, .slice (some ⟨wy.heap.size, 0, none⟩) 1 1]).run Try.prog (wy.alloc (.cells #[r] 30)) = .ok v' w4 ∧ OwnSS w4 base v' (zss ++ [zs]) ∧ Below w0.heap.size w0 w4 ∧ wy.heap.size ≤ w4.heap.size := by
  obtain ⟨i0, hi, hz0, hz1, hz2⟩ := info_parts info_rowI
  obtain ⟨xs, bf, h1, h2, h3⟩ := h
  have hb1 : Below w.heap.size w (wy.alloc (.cells #[r] 30)) := hb.alloc hb.size _
  have o1 := own_below h1 hb1
  have hone := slice_one hr
  obtain ⟨v', w4, hrun, hown, hgr, -, hat⟩ := run_append_own_at (P := Try.prog) (wy.alloc (.cells #[r] 30)) base t ty 30 i0 (.slice none 0 0) 1 24 hu hi hz0 hz1 hz2 rfl (by decide) _ _ _ o1 ⟨wy.heap.size, 0, none⟩ 1 1 [r] rfl (cell_one_new _ _ _) (by intro u hu; simp at hu; subst hu; exact hone) (by unfold maxLen; omega) (by omega) (Nat.le_trans hbs hb1.size)
  have hby : Below wy.heap.size wy (wy.alloc (.cells #[r] 30)) := (Below.refl _ _).alloc (Nat.le_refl _) _
  have hsz1 : (wy.alloc (.cells #[r] 30)).heap.size = wy.heap.size + 1 := by simp
  have hblk : ∀ k, k < (wy.alloc (.cells #[r] 30)).heap.size → v.ownBlock ≠ some k → w4.heap[k]? = (wy.alloc (.cells #[r] 30)).heap[k]? := fun k hk hn => hgr.block k hk (fun e => hn (by rw [e]))
  have hvb : ∀ k, v.ownBlock = some k → k < w.heap.size := by
    intro k hk
    rcases h1.2 with ⟨e, -⟩ | ⟨g, cap, cur, e, hg, hh, -⟩
    · rw [e] at hk; simp [Value.ownBlock] at hk
    · rw [e] at hk; simp [Value.ownBlock] at hk; subst hk; exact (Array.getElem?_eq_some_iff.1 hh).1
  have hlen := hown.1
  have hxl : xs.length = zss.length := by have := h1.1; omega
  have hwsz := hb.size
  refine ⟨v', w4, hrun, ⟨xs ++ [r], fun j => if j = zss.length then b else bf j, by simpa using hown, fun j hj => ?_, fun i j hi hj hij hzi hzj => ?_⟩, ?_, by have := hgr.size; omega⟩
  · by_cases e : j = zss.length
    · subst e
      simp only [if_true]
      refine ⟨r, by rw [List.getElem?_append_right (by omega)]; simp [hxl], ?_, fun hz => ?_⟩
      · have e2 : (zss ++ [zs])[zss.length] = zs := by simp
        rw [e2]
        refine hr.keep fun hz => ?_
        have hblt := hr.rd.lt hz
        exact (hblk b (by omega) (fun e3 => by have := hvb b e3; have := hf hz; omega)).trans (hby.block b hblt)
      · have e2 : (zss ++ [zs])[zss.length] = zs := by simp
        rw [e2] at hz
        have hblt := hr.rd.lt hz
        have := hf hz
        refine ⟨by omega, by have := hgr.size; omega, ?_⟩
        rcases hat with h | h
        · rw [h]; intro e3; have := hvb b e3; omega
        · rw [h]; intro e3; have := Option.some.inj e3; omega
    · have hj' : j < zss.length := by simp at hj; omega
      simp only [if_neg e]
      obtain ⟨q, a1, a2, a3⟩ := h2 j hj'
      have e2 : (zss ++ [zs])[j] = zss[j] := List.getElem_append_left hj'
      rw [e2]
      refine ⟨q, by rw [List.getElem?_append_left (by omega)]; exact a1, ?_, fun hz => ?_⟩
      · refine a2.keep fun hz => ?_
        have := (a3 hz).2.1
        exact (hblk _ (by omega) (a3 hz).2.2).trans (hb1.block _ this)
      · obtain ⟨c1, c2, c3⟩ := a3 hz
        refine ⟨c1, by have := hgr.size; omega, ?_⟩
        rcases hat with h | h
        · rw [h]; exact c3
        · rw [h]; intro e3; have := Option.some.inj e3; omega
  · have key : ∀ m (hm : m < zss.length), zss[m] ≠ [] → zs ≠ [] → bf m ≠ b := fun m hm hzm hzs e => by
      obtain ⟨q, -, -, a3⟩ := h2 m hm
      have := (a3 hzm).2.1
      have := hf hzs
      omega
    by_cases ei : i = zss.length
    · subst ei
      have hj' : j < zss.length := by simp at hj; omega
      have e1 : (zss ++ [zs])[zss.length] = zs := by simp
      have e2 : (zss ++ [zs])[j] = zss[j] := List.getElem_append_left hj'
      rw [e1] at hzi
      rw [e2] at hzj
      simp only [if_true, if_neg (show j ≠ zss.length by omega)]
      exact fun e => key j hj' hzj hzi e.symm
    · have hi' : i < zss.length := by simp at hi; omega
      have e1 : (zss ++ [zs])[i] = zss[i] := List.getElem_append_left hi'
      rw [e1] at hzi
      by_cases ej : j = zss.length
      · subst ej
        have e2 : (zss ++ [zs])[zss.length] = zs := by simp
        rw [e2] at hzj
        simp only [if_true, if_neg ei]
        exact key i hi' hzi hzj
      · have hj' : j < zss.length := by simp at hj; omega
        have e2 : (zss ++ [zs])[j] = zss[j] := List.getElem_append_left hj'
        rw [e2] at hzj
        simp only [if_neg ei, if_neg ej]
        exact h3 i j hi' hj' hij hzi hzj
  · have B1 : Below w0.heap.size w0 (wy.alloc (.cells #[r] 30)) := B0.trans (hby.mono B0.size)
    exact B1.grown hgr B1.size (fun q hq => by have := own_block h1 q hq; omega)
end Go.Proofs.Ytiklogpfckfcnaa
