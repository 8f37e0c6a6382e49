/-
  Several texts in one: Slices and slices of slices that a call owns, block by block: rows may grow and be replaced. What the operations of a drawn region make, as a table: values, slices and slices of slices of their own, fresh boxes. A whole struct stored into its box: the cells one by one. copyRows: rows of the call's own. Deals copied: what a call owns of a deal; l12Copy, copyDeal.
-/
import Derived.Test.YtbojhbhniollaaaDoorM5
import Derived.Maps.AppendAt
import Derived.ArgAppend
import Derived.Laws.Tables
import Derived.Lib.AppendZerosOnto
import Derived.Test.YtbojhbhniollaaaDoorM4
import Derived.Laws.Rows
import Derived.Laws.OwnMore
import Derived.Laws.CopyOwn
namespace Go.Proofs.YtbojhbhniollaaaDoor
open Go.RowKit
set_option linter.unusedVariables false
set_option linter.unusedSimpArgs false

theorem ownSame {w w' : World} {B : Nat} {E : TypeId} {size n : Nat} {v : Value} {xs : List Value} (h : w.ownsRow B E size v n xs) (hk : ∀ q, v.ownBlock = some q → w'.heap[q]? = w.heap[q]?) : w'.ownsRow B E size v n xs := by
  obtain ⟨hl, h⟩ := h
  refine ⟨hl, h.imp id ?_⟩
  rintro ⟨g', cap', cur, e', hg, hh, r⟩
  refine ⟨g', cap', cur, e', hg, ?_, r⟩
  rw [hk g' (by rw [e']; rfl)]; exact hh
theorem own_lt {w : World} {B : Nat} {E : TypeId} {size n : Nat} {v : Value} {xs : List Value} (h : w.ownsRow B E size v n xs) {g : Nat} (hg : v.ownBlock = some g) : g < w.heap.size := by
  rcases h.2 with ⟨e, -⟩ | ⟨g', cap', cur, e', -, hh, -⟩
  · rw [e] at hg; cases hg
  · rw [e'] at hg
    obtain rfl : g' = g := Option.some.inj hg
    exact (Array.getElem?_eq_some_iff.1 hh).1
theorem own_to0 {w : World} {B : Nat} {E : TypeId} {size n : Nat} {v : Value} {xs : List Value} (h : w.ownsRow B E size v n xs) : w.ownsRow 0 E size v n xs := by
  obtain ⟨hl, h⟩ := h
  refine ⟨hl, h.imp id ?_⟩
  rintro ⟨g', cap', cur, e', hg, r⟩
  exact ⟨g', cap', cur, e', Nat.zero_le _, r⟩
theorem own_toB {w : World} {B : Nat} {E : TypeId} {size n : Nat} {v : Value} {xs : List Value} (h : w.ownsRow 0 E size v n xs) (hb : ∀ g, v.ownBlock = some g → B ≤ g) : w.ownsRow B E size v n xs := by
  obtain ⟨hl, h⟩ := h
  refine ⟨hl, h.imp id ?_⟩
  rintro ⟨g', cap', cur, e', hg, r⟩
  exact ⟨g', cap', cur, e', hb _ (by rw [e']; rfl), r⟩
theorem one_cells' (l : List Int) : ∀ u ∈ l.map (Value.int .i64), u.oneCell' = true := by
  intro u hu
  simp at hu
  obtain ⟨y, _, rfl⟩ := hu
  rfl
/-- The block that a slice with room holds. -/
def _root_.Go.Value.held : Value → Option Nat
  | .slice (some a) _ (_ + 1) => some a.block
  | _ => none
/-- A slice of the call's own, its block out of S; one without spare room need not fill its block. -/
def OwnI (S : Nat → Prop) (w : World) (v : Value) (zs : List Int) : Prop :=
  (∀ x ∈ zs, (Lit.int .i64 x).wf = true) ∧ ((∃ p b, v = .slice p zs.length zs.length ∧ WrAt .i64 w v zs b ∧ (zs ≠ [] → S b)) ∨ ∃ g cap, v = .slice (some ⟨g, 0, none⟩) zs.length (cap + 1) ∧ w.ownsRow 0 3 1 v zs.length (zs.map (Value.int .i64)) ∧ S g)
theorem full_held {w : World} {v : Value} {zs : List Int} {p : Option Addr} {b : Nat} (e : v = .slice p zs.length zs.length) (h : WrAt .i64 w v zs b) : (zs = [] ∧ v.held = none) ∨ (zs ≠ [] ∧ v.held = some b) := by
  by_cases hz : zs = []
  · subst hz; refine .inl ⟨rfl, ?_⟩; rw [e]; cases p <;> rfl
  · obtain ⟨a, c, e2, -, -, h4⟩ := h
    rcases h4 with h4 | ⟨off, ha, -⟩
    · exact absurd h4 hz
    · refine .inr ⟨hz, ?_⟩
      obtain ⟨n, hn⟩ : ∃ n, zs.length = n + 1 := ⟨zs.length - 1, by have := List.length_pos_iff.2 hz; omega⟩
      rw [e] at e2
      have := (Value.slice.inj e2).1
      rw [e, this, ha, hn]; rfl
theorem OwnI.held {S : Nat → Prop} {w : World} {v : Value} {zs : List Int} (h : OwnI S w v zs) {g : Nat} (hg : v.held = some g) : S g ∧ g < w.heap.size := by
  rcases h.2 with ⟨p, b, e, hw, hs⟩ | ⟨g', cap, e, ho, hs⟩
  · rcases full_held e hw with ⟨-, h2⟩ | ⟨hz, h2⟩
    · rw [h2] at hg; cases hg
    · rw [h2] at hg
      obtain rfl : b = g := Option.some.inj hg
      exact ⟨hs hz, hw.rd.lt hz⟩
  · have hl := own_lt ho (g := g') (by rw [e]; rfl)
    rw [e] at hg
    obtain rfl : g' = g := Option.some.inj hg
    exact ⟨hs, hl⟩
theorem OwnI.keep {S T : Nat → Prop} {w w' : World} {v : Value} {zs : List Int} (h : OwnI S w v zs) (hk : ∀ g, v.held = some g → w'.heap[g]? = w.heap[g]?) (hs : ∀ g, v.held = some g → S g → g < w.heap.size → T g) : OwnI T w' v zs := by
  refine ⟨h.1, h.2.imp ?_ ?_⟩
  · rintro ⟨p, b, e, hw, hS⟩
    have hh : zs ≠ [] → v.held = some b := fun hz => by
      rcases full_held e hw with ⟨h2, -⟩ | ⟨-, h2⟩
      · exact absurd h2 hz
      · exact h2
    exact ⟨p, b, e, hw.keep (fun hz => hk b (hh hz)), fun hz => hs b (hh hz) (hS hz) (hw.rd.lt hz)⟩
  · rintro ⟨g, cap, e, ho, hS⟩
    have hh : v.held = some g := by rw [e]; rfl
    exact ⟨g, cap, e, ownSame ho (fun q hq => by
      have : g = q := by rw [e] at hq; exact Option.some.inj hq
      exact this ▸ hk g hh), hs g hh hS (own_lt ho (by rw [e]; rfl))⟩
theorem OwnI.touch {S T : Nat → Prop} {w w' : World} {v : Value} {zs : List Int} (h : OwnI S w v zs) (t : Touch T w w') (hd : ∀ b, S b → ¬ T b) : OwnI S w' v zs :=
  h.keep (fun g hg => t.block g (h.held hg).2 (hd g (h.held hg).1)) (fun _ _ hS _ => hS)
theorem OwnI.below {S : Nat → Prop} {w w' : World} {v : Value} {zs : List Int} (h : OwnI S w v zs) (b : Below w.heap.size w w') : OwnI S w' v zs := h.touch (Below.touch (S := fun _ => False) b) (fun _ _ hx => hx)
theorem OwnI.mono {S T : Nat → Prop} {w : World} {v : Value} {zs : List Int} (h : OwnI S w v zs) (hs : ∀ b, S b → b < w.heap.size → T b) : OwnI T w v zs :=
  h.keep (fun _ _ => rfl) (fun g _ hS hl => hs g hS hl)
theorem OwnI.nil (S : Nat → Prop) (w : World) (p : Option Addr) : OwnI S w (.slice p 0 0) [] := by
  refine ⟨(by simp), .inl ⟨p, 0, rfl, ?_, fun h => absurd rfl h⟩⟩
  cases p with
  | none => exact WrAt.nil .i64 w none 0 0 ⟨by unfold maxLen; omega, fun _ => rfl⟩
  | some p => exact WrAt.nil .i64 w (some p) 0 0 ⟨by unfold maxLen; omega, fun h => by cases h⟩
theorem OwnI.full {S : Nat → Prop} {w : World} {v : Value} {zs : List Int} {p : Option Addr} {b : Nat} (e : v = .slice p zs.length zs.length) (h : WrAt .i64 w v zs b) (hs : zs ≠ [] → S b) : OwnI S w v zs := ⟨h.rd.wf, .inl ⟨p, b, e, h, hs⟩⟩
theorem OwnI.ofS {S : Nat → Prop} {B : Nat} {w : World} {v : Value} {zs : List Int} (h : w.ownsRow B 3 1 v zs.length (zs.map (Value.int .i64))) (hw : ∀ x ∈ zs, (Lit.int .i64 x).wf = true) (hS : ∀ g, v.ownBlock = some g → B ≤ g → g < w.heap.size → S g) : OwnI S w v zs := by
  have h' := own_to0 h
  rcases h.2 with ⟨e, hn⟩ | ⟨g, cap, cur, e, hg, hh, hnc, hcm, hcs, htake⟩
  · have hz := List.length_eq_zero_iff.1 hn
    subst hz e; exact OwnI.nil _ _ _
  · cases cap with
    | zero =>
      have hz : zs = [] := List.length_eq_zero_iff.1 (by omega)
      subst hz e; exact OwnI.nil _ _ _
    | succ cap => exact ⟨hw, .inr ⟨g, cap, e, h', hS g (by rw [e]; rfl) hg (Array.getElem?_eq_some_iff.1 hh).1⟩⟩
theorem OwnI.of {B : Nat} {w : World} {v : Value} {zs : List Int} (h : w.ownsRow B 3 1 v zs.length (zs.map (Value.int .i64))) (hw : ∀ x ∈ zs, (Lit.int .i64 x).wf = true) : OwnI (In B w.heap.size) w v zs :=
  OwnI.ofS h hw (fun g _ h1 h2 => ⟨h1, h2⟩)
theorem OwnI.shape {S : Nat → Prop} {w : World} {v : Value} {zs : List Int} (h : OwnI S w v zs) : ∃ p c, v = .slice p zs.length c := by
  rcases h.2 with ⟨p, b, e, -⟩ | ⟨g, cap, e, -⟩
  · exact ⟨p, _, e⟩
  · exact ⟨_, _, e⟩
theorem OwnI.wr {S : Nat → Prop} {w : World} {v : Value} {zs : List Int} (h : OwnI S w v zs) : WrIn .i64 S w v zs := by
  rcases h.2 with ⟨p, b, e, hw, hs⟩ | ⟨g, cap, e, ho, hS⟩
  · exact ⟨b, hw, hs⟩
  · obtain ⟨b, -, hb⟩ := own_wr ho h.1
    refine ⟨b, hb, fun hz => ?_⟩
    obtain ⟨p, c, e', -, -, h4⟩ := hb
    rcases h4 with h4 | ⟨off, hp, -⟩
    · exact absurd h4 hz
    · rw [e, hp] at e'
      have := (Value.slice.inj e').1
      have : g = b := by simpa using congrArg (fun o => o.map (·.block)) this
      exact this ▸ hS
theorem below_grown' {w w' : World} (b : w.grownBy w' none) (row : Option Nat) : w.grownBy w' row := ⟨b.os, b.tape, b.output, b.size, fun k hk _ => b.block k hk (by simp)⟩
/-- A slice of one's own, grown by what lies elsewhere. -/
theorem OwnI.append {S : Nat → Prop} {w : World} {v : Value} {zs ys : List Int} (h : OwnI S w v zs) (a : Addr) (c : Nat) (hys : ys ≠ []) (hc : ∀ j (hj : j < ys.length), w.cell? (a.add j) = some (.int .i64 ys[j])) (hw : ∀ x ∈ ys, (Lit.int .i64 x).wf = true) (hl : zs.length + ys.length ≤ 2097152) (ty : TypeId) :
    ∃ v' w', (Builtin.append_ #[23, 23] ty #[v, .slice (some a) ys.length c]).run Tryd.prog w = .ok v' w' ∧ OwnI (fun b => v.held = some b ∨ (w.heap.size ≤ b ∧ b < w'.heap.size)) w' v' (zs ++ ys) ∧ w.grownBy w' v.held := by
  obtain ⟨i0, hi, hz0, hz1, hz2⟩ := info_parts info_i64
  have hws : ∀ x ∈ zs ++ ys, (Lit.int .i64 x).wf = true := fun x hx => (List.mem_append.1 hx).elim (h.1 x) (hw x)
  have hnews : ∀ j u, (ys.map (Value.int .i64))[j]? = some u → w.cell? (a.add j) = some u := fun j u hu => by
    have hj : j < ys.length := by have := (List.getElem?_eq_some_iff.1 hu).1; simpa using this
    rw [hc j hj]; simpa [hj] using hu
  have hlen : 0 < ys.length := List.length_pos_iff.2 hys
  rcases h.2 with ⟨p, b, e, hwr, hs⟩ | ⟨g, cap, e, ho, hS⟩
  · by_cases hz : zs = []
    · subst hz e
      cases p with
      | none =>
        have hown0 : w.ownsRow w.heap.size 3 1 (.slice none 0 0) 0 [] := ⟨rfl, .inl ⟨rfl, rfl⟩⟩
        obtain ⟨v', w', hrun, hown, hgr, -, -⟩ := run_append_own_at (P := Tryd.prog) w w.heap.size 23 ty 3 i0 (.int .i64 0) 1 8 Tryd.underlying23 hi hz0 hz1 hz2 rfl (by decide) _ _ _ hown0 a ys.length c (ys.map (Value.int .i64)) (by simp) hnews (one_cells' ys) (by unfold maxLen; omega) (by omega) (Nat.le_refl _)
        exact ⟨v', w', hrun, OwnI.ofS (zs := ys) (by simpa using hown) (by simpa using hws) (fun g _ h1 h2 => .inr ⟨h1, h2⟩), hgr⟩
      | some p =>
        obtain ⟨v', w', hrun, hown, hgr⟩ := run_append_arg_grows (P := Tryd.prog) w 23 ty 3 i0 (.int .i64 0) 1 8 Tryd.underlying23 hi hz0 hz1 hz2 rfl (by decide) p 0 0 [] rfl (by intro j u hu; simp at hu) a ys.length c (ys.map (Value.int .i64)) (by simp) hnews (by omega) (by unfold maxLen; omega) (by omega)
        exact ⟨v', w', hrun, OwnI.ofS (zs := ys) (by simpa using hown) (by simpa using hws) (fun g _ h1 h2 => .inr ⟨h1, h2⟩), hgr⟩
    · obtain ⟨q, cc, e2, hcap, -, h4⟩ := id hwr
      rcases h4 with h4 | ⟨off, hq, hcell, -⟩
      · exact absurd h4 hz
      · rw [e] at e2
        have e3 := (Value.slice.inj e2).1
        subst hq
        rw [e3] at e
        obtain ⟨v', w', hrun, hown, hgr⟩ := run_append_arg_grows (P := Tryd.prog) w 23 ty 3 i0 (.int .i64 0) 1 8 Tryd.underlying23 hi hz0 hz1 hz2 rfl (by decide) ⟨b, off, none⟩ zs.length zs.length (zs.map (Value.int .i64)) (by simp) (fun j u hu => by
          have hj : j < zs.length := by have := (List.getElem?_eq_some_iff.1 hu).1; simpa using this
          have e2 : (⟨b, off, none⟩ : Addr).add j = ⟨b, off + j, none⟩ := by simp [Addr.add]
          rw [e2, hcell j hj]
          simpa [hj] using hu) a ys.length c (ys.map (Value.int .i64)) (by simp) hnews (by omega) (by unfold maxLen; omega) (by omega)
        rw [e]
        exact ⟨v', w', hrun, OwnI.ofS (zs := zs ++ ys) (by simpa using hown) hws (fun g _ h1 h2 => .inr ⟨h1, h2⟩), below_grown' hgr _⟩
  · obtain ⟨v', w', hrun, hown, hgr, -, hat⟩ := run_append_own_at (P := Tryd.prog) w 0 23 ty 3 i0 (.int .i64 0) 1 8 Tryd.underlying23 hi hz0 hz1 hz2 rfl (by decide) _ _ _ ho a ys.length c (ys.map (Value.int .i64)) (by simp) hnews (one_cells' ys) (by unfold maxLen; omega) (by omega) (Nat.zero_le _)
    have hbk : v.ownBlock = v.held := by rw [e]; rfl
    refine ⟨v', w', hrun, OwnI.ofS (zs := zs ++ ys) (by simpa using hown) hws (fun g' h1 _ h2 => ?_), by rw [← hbk]; exact hgr⟩
    rcases hat with h | h
    · exact .inl (by rw [← hbk, ← h]; exact h1)
    · rw [h1] at h
      have := Option.some.inj h
      exact .inr ⟨by omega, h2⟩
/-- Slices of slices of the call's own: the heads' block, and one for each row, all out of S, all apart. -/
def OwnR (S : Nat → Prop) (w : World) (v : Value) (zss : List (List Int)) : Prop :=
  ∃ xs : List Value, w.ownsRow 0 23 1 v zss.length xs ∧ (∀ g, v.ownBlock = some g → S g) ∧ (∀ j (hj : j < zss.length), ∃ r, xs[j]? = some r ∧ OwnI (fun b => S b ∧ v.ownBlock ≠ some b) w r zss[j]) ∧
    (∀ (i j : Nat) (ri rj : Value), i ≠ j → xs[i]? = some ri → xs[j]? = some rj → ∀ g, ri.held = some g → rj.held ≠ some g)
theorem OwnR.touch {S T : Nat → Prop} {w w' : World} {v : Value} {zss : List (List Int)} (h : OwnR S w v zss) (t : Touch T w w') (hd : ∀ b, S b → ¬ T b) : OwnR S w' v zss := by
  obtain ⟨xs, h1, h2, h3, h4⟩ := h
  refine ⟨xs, ownSame h1 (fun q hq => t.block q (own_lt h1 hq) (hd q (h2 q hq))), h2, fun j hj => ?_, h4⟩
  obtain ⟨r, a1, a2⟩ := h3 j hj
  exact ⟨r, a1, a2.touch t (fun b hb => hd b hb.1)⟩
theorem OwnR.below {S : Nat → Prop} {w w' : World} {v : Value} {zss : List (List Int)} (h : OwnR S w v zss) (b : Below w.heap.size w w') : OwnR S w' v zss := h.touch (Below.touch (S := fun _ => False) b) (fun _ _ hx => hx)
theorem OwnR.mono {S T : Nat → Prop} {w : World} {v : Value} {zss : List (List Int)} (h : OwnR S w v zss) (hs : ∀ b, S b → b < w.heap.size → T b) : OwnR T w v zss := by
  obtain ⟨xs, h1, h2, h3, h4⟩ := h
  refine ⟨xs, h1, fun g hg => hs g (h2 g hg) (own_lt h1 hg), fun j hj => ?_, h4⟩
  obtain ⟨r, a1, a2⟩ := h3 j hj
  exact ⟨r, a1, a2.mono (fun b hb hl => ⟨hs b hb.1 hl, hb.2⟩)⟩
theorem OwnR.shape {S : Nat → Prop} {w : World} {v : Value} {zss : List (List Int)} (h : OwnR S w v zss) : ∃ p c, v = .slice p zss.length c := by
  obtain ⟨xs, h1, -⟩ := h; exact own_shape h1
theorem WrIn.at {k : IntKind} {S : Nat → Prop} {w : World} {r : Value} {zs : List Int} (h : WrIn k S w r zs) : ∃ b, WrAt k w r zs b ∧ (zs ≠ [] → S b ∧ r.held = some b) := by
  obtain ⟨b, hb, hs⟩ := h
  refine ⟨b, hb, fun hz => ⟨hs hz, ?_⟩⟩
  obtain ⟨p, c, e, hc, -, hq⟩ := hb
  rcases hq with hq | ⟨off, hp, -⟩
  · exact absurd hq hz
  · have := List.length_pos_iff.2 hz
    obtain ⟨c, rfl⟩ : ∃ d, c = d + 1 := ⟨c - 1, by omega⟩
    rw [e, hp]; rfl
theorem OwnR.ss {S : Nat → Prop} {w : World} {v : Value} {zss : List (List Int)} (h : OwnR S w v zss) : WrSS .i64 S w v zss := by
  obtain ⟨xs, h1, h2, h3, h4⟩ := h
  have h1' := h1
  obtain ⟨h0, h⟩ := h1
  rcases h with ⟨e, hn⟩ | ⟨g, cap, cur, e, hg, hh, hnc, hcm, hcs, htake⟩
  · have : zss = [] := List.length_eq_zero_iff.1 hn
    subst this
    exact ⟨none, 0, e, ⟨Nat.le_refl _, Nat.zero_le _, fun _ => rfl⟩, .inl rfl⟩
  · subst e
    have hx : ∀ {j : Nat} {r : Value}, xs[j]? = some r → xs.getD j undef = r := fun {j r} h => by simp [List.getD, h]
    refine ⟨_, cap, rfl, ⟨hnc, hcm, fun e => by cases e⟩, .inr ⟨g, 0, fun j => ((xs.getD j undef).held).getD 0, rfl, h2 g rfl, fun j hj => ?_, fun i j hi hj hij hzi hzj => ?_⟩⟩
    · obtain ⟨r, a1, a2⟩ := h3 j hj
      obtain ⟨b, hb, hs⟩ := a2.wr.at
      refine ⟨r, by rw [Nat.zero_add, h1'.cellAt j (by omega)]; exact a1, ?_, fun hz => ?_⟩
      · by_cases hz : zss[j] = []
        · rw [hz] at hb ⊢; exact hb.anyNil _
        · show WrAt .i64 w r zss[j] (((xs.getD j undef).held).getD 0)
          rw [hx a1, (hs hz).2]; exact hb
      · show S (((xs.getD j undef).held).getD 0) ∧ ((xs.getD j undef).held).getD 0 ≠ g
        rw [hx a1, (hs hz).2]
        exact ⟨(hs hz).1.1, fun e => (hs hz).1.2 (by rw [← e]; rfl)⟩
    · obtain ⟨ri, a1, a2⟩ := h3 i hi
      obtain ⟨rj, c1, c2⟩ := h3 j hj
      obtain ⟨bi, -, ei⟩ := a2.wr.at
      obtain ⟨bj, -, ej⟩ := c2.wr.at
      show ((xs.getD i undef).held).getD 0 ≠ ((xs.getD j undef).held).getD 0
      rw [hx a1, hx c1, (ei hzi).2, (ej hzj).2]
      intro e
      exact h4 i j ri rj hij a1 c1 bi (ei hzi).2 (by rw [(ej hzj).2]; exact congrArg some e.symm)
theorem OwnR.empty (w : World) : OwnR (In w.heap.size (w.alloc (.cells #[] 23)).heap.size) (w.alloc (.cells #[] 23)) (.slice (some ⟨w.heap.size, 0, none⟩) 0 0) [] := by
  have hown0 := World.ownsRow_lit (base := w.heap.size) (e := 23) (size := 1) w #[] 0 (Nat.le_refl _) (Nat.zero_le _) rfl
  exact ⟨[], own_to0 hown0, fun g hg => ⟨own_block hown0 g hg, own_lt hown0 hg⟩, fun j hj => by simp at hj, fun i j ri rj _ h => by simp at h⟩
/-- Row j, as it lies. -/
theorem OwnR.row {S : Nat → Prop} {w : World} {v : Value} {zss : List (List Int)} (h : OwnR S w v zss) {j : Nat} (hj : j < zss.length) :
    ∃ hb cap r, v = .slice (some ⟨hb, 0, none⟩) zss.length cap ∧ S hb ∧ hb < w.heap.size ∧ w.cell? ⟨hb, j, none⟩ = some r ∧ w.frozen? ⟨hb, j, none⟩ = false ∧ OwnI (fun b => S b ∧ b ≠ hb) w r zss[j] := by
  obtain ⟨xs, h1, h2, h3, h4⟩ := h
  have h1' := h1
  obtain ⟨h0, h⟩ := h1
  rcases h with ⟨e, hn⟩ | ⟨g, cap, cur, e, hg, hh, hnc, hcm, hcs, htake⟩
  · omega
  · subst e
    obtain ⟨r, a1, a2⟩ := h3 j hj
    exact ⟨g, cap, r, rfl, h2 g rfl, own_lt h1' rfl, by rw [h1'.cellAt j (by omega)]; exact a1, h1'.frozenAt j, a2.mono (fun b hb _ => ⟨hb.1, fun e => hb.2 (by rw [e]; rfl)⟩)⟩
theorem ownsRow_set {w : World} {B g n cap : Nat} {E : TypeId} {xs : List Value} (h : w.ownsRow B E 1 (.slice (some ⟨g, 0, none⟩) n cap) n xs) (j : Nat) (hj : j < n) (r : Value) : (w.setCell ⟨g, j, none⟩ r).ownsRow B E 1 (.slice (some ⟨g, 0, none⟩) n cap) n (xs.set j r) := by
  obtain ⟨hl, h⟩ := h
  rcases h with ⟨e, -⟩ | ⟨g', cap', cur, e', hg, hh, hnc, hcm, hcs, htake⟩
  · cases e
  · have e1 := Value.slice.inj e'
    obtain rfl : g = g' := by have := e1.1; simpa using this
    obtain rfl : cap = cap' := e1.2.2
    refine ⟨by simpa using hl, .inr ⟨g, cap, cur.setIfInBounds j r, rfl, hg, ?_, hnc, hcm, by simpa using hcs, ?_⟩⟩
    · simp [World.setCell, Array.getElem?_modify, hh]
    · rw [Array.toList_setIfInBounds, List.take_set, htake]
/-- Row j is replaced: by one that lies in its own block or in a fresh one. -/
theorem OwnR.put {S : Nat → Prop} {w w1 : World} {v r r' : Value} {zss : List (List Int)} {zs' : List Int} {j hb cap : Nat} (h : OwnR S w v zss) (hj : j < zss.length) (hv : v = .slice (some ⟨hb, 0, none⟩) zss.length cap) (hr : w.cell? ⟨hb, j, none⟩ = some r)
    (hg : w.grownBy w1 r.held) (ho : OwnI (fun b => r.held = some b ∨ (w.heap.size ≤ b ∧ b < w1.heap.size)) w1 r' zs') :
    OwnR (fun b => S b ∨ (w.heap.size ≤ b ∧ b < w1.heap.size)) (w1.setCell ⟨hb, j, none⟩ r') v (zss.set j zs') := by
  subst hv
  obtain ⟨xs, h1, h2, h3, h4⟩ := h
  have hx : xs[j]? = some r := by rw [← h1.cellAt j (by omega)]; exact hr
  obtain ⟨r0, a1, a2⟩ := h3 j hj
  obtain rfl : r0 = r := Option.some.inj (a1.symm.trans hx)
  have hbl : hb < w.heap.size := own_lt h1 rfl
  have hne : ∀ g, r0.held = some g → g ≠ hb := fun g hg e => (a2.held hg).1.2 (by rw [e]; rfl)
  have hkeep : ∀ q, q < w.heap.size → r0.held ≠ some q → w1.heap[q]? = w.heap[q]? := fun q hq hn => hg.block q hq (fun e => hn e.symm)
  have h1' := ownSame (w' := w1) h1 (fun q hq => hkeep q (own_lt h1 hq) (fun e => by
    have : q = hb := (Option.some.inj hq).symm
    exact hne q e this))
  have hs := ownsRow_set h1' j hj r'
  have hr'b : ∀ g, r'.held = some g → g ≠ hb := fun g hg e => by
    rcases (ho.held hg).1 with h | h
    · exact hne g h e
    · omega
  have hlen : xs.length = zss.length := by have := h1.1; omega
  refine ⟨xs.set j r', by rw [List.length_set]; exact hs, fun g hg => .inl (h2 g hg), fun i hi => ?_, fun i k ri rk hik hi hk g hgi hgk => ?_⟩
  · have hi' : i < zss.length := by simpa using hi
    by_cases e : i = j
    · subst e
      refine ⟨r', by rw [List.getElem?_set_self (by omega)], ?_⟩
      rw [List.getElem_set_self]
      refine ho.keep (fun q hq => Below.heap_setCell _ _ _ _ (hr'b q hq)) (fun g hg hS _ => ⟨?_, fun e => hr'b g hg (Option.some.inj e).symm⟩)
      rcases hS with h | h
      · exact .inl (a2.held h).1.1
      · exact .inr h
    · obtain ⟨ri, c1, c2⟩ := h3 i hi'
      refine ⟨ri, by rw [List.getElem?_set_ne (Ne.symm e)]; exact c1, ?_⟩
      rw [List.getElem_set_ne (Ne.symm e)]
      refine c2.keep (fun q hq => ?_) (fun g hg hS _ => ⟨.inl hS.1, hS.2⟩)
      have hqb := (c2.held hq).1.2
      rw [Below.heap_setCell _ _ _ _ (show q ≠ hb from fun e => hqb (by rw [e]; rfl))]
      exact hkeep q (c2.held hq).2 (fun e2 => h4 i j ri r0 e c1 a1 q hq e2)
  · have rest : ∀ m rm, m ≠ j → (xs.set j r')[m]? = some rm → xs[m]? = some rm := fun m rm hm h => by rwa [List.getElem?_set_ne (Ne.symm hm)] at h
    have at_ : ∀ rm, (xs.set j r')[j]? = some rm → rm = r' := fun rm h => by rw [List.getElem?_set_self (by omega)] at h; exact (Option.some.inj h).symm
    have key : ∀ m rm, m ≠ j → xs[m]? = some rm → ∀ g, rm.held = some g → r'.held ≠ some g := fun m rm hm hx2 g h1g h2g => by
      rcases (ho.held h2g).1 with h | h
      · exact h4 m j rm r0 hm hx2 a1 g h1g h
      · have hm' : m < zss.length := by have := (List.getElem?_eq_some_iff.1 hx2).1; omega
        obtain ⟨rm2, d1, d2⟩ := h3 m hm'
        obtain rfl : rm2 = rm := Option.some.inj (d1.symm.trans hx2)
        have := (d2.held h1g).2
        omega
    by_cases ei : i = j
    · subst ei
      obtain rfl := at_ ri hi
      exact key k rk (Ne.symm hik) (rest k rk (Ne.symm hik) hk) g hgk hgi
    · by_cases ek : k = j
      · subst ek
        obtain rfl := at_ rk hk
        exact key i ri ei (rest i ri ei hi) g hgi hgk
      · exact h4 i k ri rk hik (rest i ri ei hi) (rest k rk ek hk) g hgi hgk
/-- One row more. -/
theorem OwnR.snoc {S : Nat → Prop} {w wy : World} {v r : Value} {zss : List (List Int)} {zs : List Int} (h : OwnR S w v zss) (hb : Below w.heap.size w wy) (hr : OwnI (fun b => w.heap.size ≤ b) wy r zs) (hl : zss.length ≤ 1048600)
    (t : TypeId) (hu : Tryd.prog.underlying t = some (.slice 23)) (ty : TypeId) :
    ∃ v' w4, (Builtin.append_ #[t, t] ty #[v, .slice (some ⟨wy.heap.size, 0, none⟩) 1 1]).run Tryd.prog (wy.alloc (.cells #[r] 23)) = .ok v' w4 ∧ OwnR (fun b => S b ∨ (w.heap.size ≤ b ∧ b < w4.heap.size)) w4 v' (zss ++ [zs]) ∧ (wy.alloc (.cells #[r] 23)).grownBy w4 v.ownBlock := by
  obtain ⟨i0, hi, hz0, hz1, hz2⟩ := info_parts info_rowI
  obtain ⟨xs, h1, h2, h3, h4⟩ := h
  have hb1 : Below w.heap.size w (wy.alloc (.cells #[r] 23)) := hb.alloc hb.size _
  have o1 := own_below h1 hb1
  have hone : r.oneCell' = true := by obtain ⟨p, c, e⟩ := hr.shape; rw [e]; rfl
  obtain ⟨v', w4, hrun, hown, hgr, -, hat⟩ := run_append_own_at (P := Tryd.prog) (wy.alloc (.cells #[r] 23)) 0 t ty 23 i0 (.slice none 0 0) 1 24 hu hi hz0 hz1 hz2 rfl (by decide) _ _ _ o1 ⟨wy.heap.size, 0, none⟩ 1 1 [r] rfl (cell_one_new _ _ _) (by intro u hu; simp at hu; subst hu; exact hone) (by unfold maxLen; omega) (by omega) (Nat.zero_le _)
  have hby : Below wy.heap.size wy (wy.alloc (.cells #[r] 23)) := (Below.refl _ _).alloc (Nat.le_refl _) _
  have hsz1 : (wy.alloc (.cells #[r] 23)).heap.size = wy.heap.size + 1 := by simp
  have hblk : ∀ k, k < (wy.alloc (.cells #[r] 23)).heap.size → v.ownBlock ≠ some k → w4.heap[k]? = (wy.alloc (.cells #[r] 23)).heap[k]? := fun k hk hn => hgr.block k hk (fun e => hn e.symm)
  have hwsz := hb.size
  have hxl : xs.length = zss.length := by have := h1.1; omega
  have hv' : ∀ g, v'.ownBlock = some g → v.ownBlock = some g ∨ (wy.heap.size < g ∧ g < w4.heap.size) := fun g hg => by
    rcases hat with h | h
    · exact .inl (by rw [← h]; exact hg)
    · rw [hg] at h
      have := Option.some.inj h
      exact .inr ⟨by omega, own_lt hown hg⟩
  have old : ∀ (m : Nat) (hm : m < zss.length) q, xs[m]? = some q → OwnI (fun b => (S b ∨ (w.heap.size ≤ b ∧ b < w4.heap.size)) ∧ v'.ownBlock ≠ some b) w4 q zss[m] := fun m hm q hq => by
    obtain ⟨q2, a1, a2⟩ := h3 m hm
    obtain rfl : q2 = q := Option.some.inj (a1.symm.trans hq)
    have ha2 := a2.below hb1
    refine ha2.keep (fun b hb2 => hblk b (ha2.held hb2).2 (a2.held hb2).1.2) (fun g hg hS _ => ⟨.inl hS.1, fun e => ?_⟩)
    rcases hv' g e with h | ⟨h, -⟩
    · exact hS.2 h
    · have := (a2.held hg).2; omega
  have hnew : OwnI (fun b => (S b ∨ (w.heap.size ≤ b ∧ b < w4.heap.size)) ∧ v'.ownBlock ≠ some b) w4 r zs := by
    have hr1 := hr.below hby
    refine hr1.keep (fun b hb2 => hblk b (hr1.held hb2).2 (fun e => by have := own_lt h1 e; have := (hr.held hb2).1; omega)) (fun g hg hS hl => ⟨.inr ⟨hS, ?_⟩, fun e => ?_⟩)
    · have := hgr.size; omega
    · have hlt := (hr.held hg).2
      rcases hv' g e with h | ⟨h, -⟩
      · have := own_lt h1 h; omega
      · omega
  refine ⟨v', w4, hrun, ⟨xs ++ [r], by simpa using hown, fun g hg => ?_, fun j hj => ?_, fun i j ri rj hij hi hj g hgi hgj => ?_⟩, hgr⟩
  · rcases hv' g hg with h | ⟨h, h2⟩
    · exact .inl (h2 g h)
    · exact .inr ⟨by omega, h2⟩
  · by_cases e : j = zss.length
    · subst e
      exact ⟨r, by rw [List.getElem?_append_right (by omega)]; simp [hxl], by simpa using hnew⟩
    · have hj' : j < zss.length := by simp at hj; omega
      obtain ⟨q, a1, -⟩ := h3 j hj'
      refine ⟨q, by rw [List.getElem?_append_left (by omega)]; exact a1, ?_⟩
      rw [List.getElem_append_left hj']
      exact old j hj' q a1
  · have low : ∀ m rm, m < zss.length → (xs ++ [r])[m]? = some rm → xs[m]? = some rm := fun m rm hm h => by rwa [List.getElem?_append_left (by omega)] at h
    have top : ∀ m rm, ¬ m < zss.length → (xs ++ [r])[m]? = some rm → rm = r := fun m rm hm h => by
      rw [List.getElem?_append_right (by omega)] at h
      have hl := (List.getElem?_eq_some_iff.1 h).1
      have : m - xs.length = 0 := by simpa using hl
      rw [this] at h; simpa using h.symm
    have key : ∀ m rm, m < zss.length → xs[m]? = some rm → ∀ g, rm.held = some g → r.held ≠ some g := fun m rm hm hx g h1g h2g => by
      obtain ⟨q, a1, a2⟩ := h3 m hm
      obtain rfl : q = rm := Option.some.inj (a1.symm.trans hx)
      have := (a2.held h1g).2
      have := (hr.held h2g).1
      omega
    by_cases ei : i < zss.length
    · by_cases ej : j < zss.length
      · exact h4 i j ri rj hij (low i ri ei hi) (low j rj ej hj) g hgi hgj
      · obtain rfl := top j rj ej hj
        exact key i ri ei (low i ri ei hi) g hgi hgj
    · obtain rfl := top i ri ei hi
      by_cases ej : j < zss.length
      · exact key j rj ej (low j rj ej hj) g hgj hgi
      · exfalso
        have hl1 := (List.getElem?_eq_some_iff.1 hi).1
        have hl2 := (List.getElem?_eq_some_iff.1 hj).1
        simp only [List.length_append, List.length_singleton] at hl1 hl2
        omega
end Go.Proofs.YtbojhbhniollaaaDoor
namespace Go.Proofs.YtbojhbhniollaaaDoor
open Go.RowKit
set_option linter.unusedVariables false
set_option linter.unusedSimpArgs false
section
variable {P : Program} {ops : Array Oper} {md : Region.Mode}

/-- What an operation of the list yields: this value; a slice, or a slice of slices, of its own; the empty literal; a fresh box; something else that stays where blocks are only added. -/
inductive Made where
  | is (v : Value)
  | ints (zs : List Int)
  | rows (zss : List (List Int))
  | zero
  | box (cs : Array Value) (t : TypeId)
  | fn (ps : List Nat) (f : List Value → Value)
  | own (F : (Nat → Prop) → World → Value → Prop) (h : ∀ S w w' v, F S w v → Below w.heap.size w w' → F S w' v)
def Made.means (m : Made) (val : Nat → Value) (v : Value) (lo hi : Nat) (w : World) : Prop :=
  match m with
  | .is u => v = u
  | .ints zs => OwnI (In lo hi) w v zs
  | .rows zss => OwnR (In lo hi) w v zss
  | .zero => ∃ g, v = .slice (some ⟨g, 0, none⟩) 0 0
  | .box cs t => v = .pointer (some ⟨lo, 0, none⟩) ∧ w.heap[lo]? = some (.cells cs t (0, 0)) ∧ lo < hi
  | .fn ps f => v = f (ps.map val)
  | .own F _ => F (In lo hi) w v
def Made.val (m : Made) (x : Value) : Value := match m with | .is v => v | _ => x
theorem Made.stable {m : Made} {val : Nat → Value} {v : Value} {lo hi : Nat} {w w' : World} (h : m.means val v lo hi w) (b : Below w.heap.size w w') : m.means val v lo hi w' := by
  cases m with
  | is u => exact h
  | ints zs => exact OwnI.below h b
  | rows zss => exact OwnR.below h b
  | zero => exact h
  | box cs t => exact ⟨h.1, (b.block _ (Array.getElem?_eq_some_iff.1 h.2.1).1).trans h.2.1, h.2.2⟩
  | fn ps f => exact h
  | own F hF => exact hF _ _ _ _ h b
theorem Made.val_eq {m : Made} {val : Nat → Value} {x : Value} {lo hi : Nat} {w : World} (h : m.means val x lo hi w) : m.val x = x := by
  cases m with
  | is u => exact h.symm
  | _ => rfl
abbrev Row := Nat × Option Tmp × Made
def putT (val : Nat → Value) (T : List Row) (a : Act) : Act := T.foldl (fun a e => a.put e.2.1 (e.2.2.val (val e.1))) a
/-- The table's row numbers, in order, each but once; each row's slot is its operation's. -/
def Made.deps (m : Made) : List Nat := match m with | .fn ps _ => ps | _ => []
def tabB (md : Region.Mode) (ops : Array Oper) (T : List Row) : Bool := T.all fun e => dstOf ops e.1 == e.2.1 && e.2.2.deps.all fun p => (T.map (·.1)).contains p && predOf md ops e.1 p
theorem Made.cong {m : Made} {val val' : Nat → Value} {v : Value} {lo hi : Nat} {w : World} (h : m.means val v lo hi w) (hd : ∀ p ∈ m.deps, val p = val' p) : m.means val' v lo hi w := by
  cases m with
  | fn ps f =>
    show v = f (ps.map val')
    have e : ps.map val = ps.map val' := List.map_congr_left (fun p hp => hd p hp)
    rw [← e]; exact h
  | _ => exact h
/-- The rows that must have come up ahead of operation j. -/
def predsT (md : Region.Mode) (ops : Array Oper) (T : List Row) (j : Nat) : List Row := T.filter fun e => predOf md ops j e.1
def StepsT (P : Program) (md : Region.Mode) (ops : Array Oper) (w0 : World) (a0 : Act) (T : List Row) (L : List Row) : Prop :=
  ∀ e ∈ L, ∀ w val (iv : Nat → Nat × Nat), Below w0.heap.size w0 w → (∀ p ∈ predsT md ops T e.1, p.2.2.means val (val p.1) (iv p.1).1 (iv p.1).2 w) →
    wpOp P ops (fun _ _ _ => False) e.1 (fun a' w' => ∃ v, a' = (putT val (predsT md ops T e.1) a0).put e.2.1 v ∧ e.2.2.means val v w.heap.size w'.heap.size w' ∧ Below w.heap.size w w') (putT val (predsT md ops T e.1) a0) w
theorem StepsT.nil {w0 : World} {a0 : Act} {T : List Row} : StepsT P md ops w0 a0 T [] := fun j hj => by cases hj
/-- One step: o its operation, ps the rows ahead of it. -/
theorem StepsT.cons {w0 : World} {a0 : Act} {T L : List Row} {e : Row} {o : Oper} (ps : List Row) (ho : ops[e.1]? = some o) (hp : predsT md ops T e.1 = ps) (hd : o.dst = e.2.1)
    (h : ∀ w val (iv : Nat → Nat × Nat), Below w0.heap.size w0 w → (∀ p ∈ ps, p.2.2.means val (val p.1) (iv p.1).1 (iv p.1).2 w) → ∀ K : Act → World → Prop, Shut (∀ v w', e.2.2.means val v w.heap.size w'.heap.size w' → Below w.heap.size w w' → K ((putT val ps a0).put o.dst v) w') →
      if Region.wanted o (yielded ops (putT val ps a0).tmps) = true then Oper.wp P o (putT val ps a0) w K (fun _ _ _ => False) else K ((putT val ps a0).put o.dst undef) w)
    (hs : StepsT P md ops w0 a0 T L) : StepsT P md ops w0 a0 T (e :: L) := fun i hi => by
  rcases List.mem_cons.1 hi with rfl | hi
  · intro w val iv hB hV
    rw [hp] at hV ⊢
    exact wpOp_step ho (fun K hK => h w val iv hB hV K (fun v w' hv hb => hK _ _ ⟨v, by rw [hd], hv, hb⟩))
  · exact hs i hi
theorem tab_find {T : List Row} (hn : (T.map (·.1)).Nodup) {e : Row} (he : e ∈ T) : T.find? (fun x => x.1 == e.1) = some e := by
  induction T with
  | nil => cases he
  | cons x T ih =>
    rw [List.map_cons, List.nodup_cons] at hn
    by_cases h : x.1 = e.1
    · rcases List.mem_cons.1 he with rfl | he
      · simp
      · exact absurd (List.mem_map.2 ⟨e, he, h.symm⟩) hn.1
    · have he' : e ∈ T := by
        rcases List.mem_cons.1 he with rfl | he
        · exact absurd rfl h
        · exact he
      rw [List.find?_cons_of_neg (by simpa using h)]
      exact ih hn.2 he'
theorem putT_eq {val : Nat → Value} {L : List Row} (hd : ∀ e ∈ L, dstOf ops e.1 = e.2.1) (hv : ∀ e ∈ L, e.2.2.val (val e.1) = val e.1) : ∀ a : Act, putAll ops val (L.map (·.1)) a = putT val L a := by
  induction L with
  | nil => intro a; rfl
  | cons x L ih =>
    intro a
    show putAll ops val (L.map (·.1)) (a.put (dstOf ops x.1) (val x.1)) = putT val L (a.put x.2.1 (x.2.2.val (val x.1)))
    rw [hd x List.mem_cons_self, hv x List.mem_cons_self, ih (fun e he => hd e (List.mem_cons_of_mem _ he)) (fun e he => hv e (List.mem_cons_of_mem _ he))]
/-- All operations of the table come up, in whatever order: each by its own contract; what they have made lies apart. -/
theorem wpAny_table {Q : Exit → Act → World → Prop} (T : List Row) {w0 ws : World} {a0 : Act} (n : Nat) {listed : Array Bool} (B0 : Below w0.heap.size w0 ws) (hB : jointB md ops listed (T.map (·.1)) = true) (hT : tabB md ops T = true) (hsel : Region.noSelect ops = true)
    (step : StepsT P md ops w0 a0 T T)
    (fin : ∀ w val (iv : Nat → Nat × Nat), Below w0.heap.size w0 w → (∀ e ∈ T, e.2.2.means val (val e.1) (iv e.1).1 (iv e.1).2 w ∧ w0.heap.size ≤ (iv e.1).1 ∧ (iv e.1).2 ≤ w.heap.size) → (∀ i ∈ T.map (·.1), ∀ j ∈ T.map (·.1), i ≠ j → (iv i).2 ≤ (iv j).1 ∨ (iv j).2 ≤ (iv i).1) → wpAny P md ops Q n (listAll listed (T.map (·.1))) (putT val T a0) w) :
    wpAny P md ops Q (n + T.length) listed a0 ws := by
  have hOK := jointOK hB
  have hT2 : ∀ e ∈ T, dstOf ops e.1 = e.2.1 ∧ ∀ p ∈ e.2.2.deps, p ∈ T.map (·.1) ∧ predOf md ops e.1 p = true := fun e he => by
    have := List.all_eq_true.1 hT e he
    simp only [Bool.and_eq_true, beq_iff_eq, List.all_eq_true, List.contains_iff_mem] at this
    exact this
  have hd : ∀ e ∈ T, dstOf ops e.1 = e.2.1 := fun e he => (hT2 e he).1
  have hf := fun {e : Row} (he : e ∈ T) => tab_find hOK.nodup he
  have hmem : ∀ {e : Row}, e ∈ T → e.1 ∈ T.map (·.1) := fun he => List.mem_map.2 ⟨_, he, rfl⟩
  have hpre : ∀ j, (T.map (·.1)).filter (predOf md ops j) = (predsT md ops T j).map (·.1) := fun j => by unfold predsT; rw [List.filter_map]; rfl
  have hirr : ∀ e ∈ T, predOf md ops e.1 e.1 = false := fun e he => by
    obtain ⟨-, -, ⟨o, ho, h⟩, -⟩ := hOK.each e.1 (hmem he)
    cases hp : predOf md ops e.1 e.1 with
    | false => rfl
    | true =>
      obtain ⟨ed, hed, hb, hon⟩ := (predOf_iff ho).1 hp
      have hun := (hOK.each e.1 (hmem he)).2.1
      rcases h ed hed hb with h | ⟨-, h⟩
      · rw [hon] at h
        have hs : e.1 < listed.size := by rw [hOK.size]; exact (hOK.each e.1 (hmem he)).1
        simp [hs] at h hun
        rw [hun] at h; cases h
      · omega
  have h := wpAny_core (P := P) (Q := Q) (V := fun j val iv w => match T.find? (fun x => x.1 == j) with | some e => e.2.2.means val (val j) (iv j).1 (iv j).2 w | none => True) (w0 := w0) (a0 := a0) (n := n) hOK hsel
    (fun j hj val val' iv iv' w hc hv => by
      obtain ⟨e, he, rfl⟩ := List.mem_map.1 hj
      simp only [hf he] at hv ⊢
      obtain ⟨c1, c2⟩ := hc e.1 (.inl rfl)
      rw [← c1, ← c2]
      exact Made.cong hv (fun p hp => (hc p (.inr ((hT2 e he).2 p hp))).1))
    (fun j hj val iv w w' hv b => by
      obtain ⟨e, he, rfl⟩ := List.mem_map.1 hj
      simp only [hf he] at hv ⊢
      exact Made.stable hv b)
    (fun j hj w val iv B hV => by
      obtain ⟨e, he, rfl⟩ := List.mem_map.1 hj
      simp only [hf he]
      have hV2 : ∀ p ∈ predsT md ops T e.1, p.2.2.means val (val p.1) (iv p.1).1 (iv p.1).2 w := fun p hp => by
        obtain ⟨h1, h2⟩ := List.mem_filter.1 hp
        have := hV p.1 (hmem h1) h2
        simp only [hf h1] at this
        exact this
      have := step e he w val iv B hV2
      rw [hpre, putT_eq (L := predsT md ops T e.1) (fun p hp => hd p (List.mem_filter.1 hp).1) (fun p hp => Made.val_eq (hV2 p hp)), hd e he]
      refine wpOp_mono ?_ this
      rintro a' w' ⟨v, h1, h2, h3⟩
      refine ⟨v, h1, ?_, h3⟩
      simp only [if_true]
      exact Made.cong h2 (fun p hp => by
        have hne : p ≠ e.1 := fun e2 => by
          have := ((hT2 e he).2 p hp).2
          rw [e2, hirr e he] at this; cases this
        simp only [if_neg hne]))
    (fun w val iv B hV hD => by
      have hV2 : ∀ e ∈ T, e.2.2.means val (val e.1) (iv e.1).1 (iv e.1).2 w ∧ w0.heap.size ≤ (iv e.1).1 ∧ (iv e.1).2 ≤ w.heap.size := fun e he => by
        have := hV e.1 (hmem he)
        simp only [hf he] at this
        exact this
      rw [putT_eq hd (fun e he => Made.val_eq (hV2 e he).1)]
      exact fin w val iv B hV2 hD)
    T.length (fun _ => false) (fun _ => undef) (fun _ => (0, 0)) ws ((congrArg List.length (List.filter_eq_self.2 (fun _ _ => rfl))).trans (List.length_map ..)) (fun _ _ h => by cases h) B0 (fun _ _ h => by cases h) (fun _ _ _ _ h => by cases h)
  have e : (T.map (·.1)).filter (fun _ => false) = [] := List.filter_eq_nil_iff.2 (fun _ _ => by simp)
  rw [e] at h
  exact h
/-- The next operation is forced. -/
theorem wpAny_one {Q : Exit → Act → World → Prop} {i : Nat} {o : Oper} {fuel : Nat} {listed : Array Bool} {a : Act} {w : World} (hr : Region.ready md ops listed = [i]) (ho : ops[i]? = some o)
    (h : ∀ K : Act → World → Prop, Shut (∀ a w, wpAny P md ops Q fuel (listed.setIfInBounds i true) a w → K a w) → if Region.wanted o (yielded ops a.tmps) = true then Oper.wp P o a w K Q else K (a.put o.dst undef) w) : wpAny P md ops Q (fuel + 1) listed a w :=
  ⟨fun e => (by rw [hr] at e; cases e), fun j hj => by
    rw [hr] at hj
    obtain rfl : j = i := by simpa using hj
    exact wpOp_step ho h⟩
theorem wpAny_end {Q : Exit → Act → World → Prop} {fuel : Nat} {listed : Array Bool} {a : Act} {w : World} (hr : Region.ready md ops listed = []) (h : Q .normal a w) : wpAny P md ops Q fuel listed a w := by
  cases fuel with
  | zero => exact ⟨hr, h⟩
  | succ n => exact ⟨fun _ => h, fun i hi => by rw [hr] at hi; cases hi⟩
/-- **A region that draws its order**: the table's operations in whatever order, then the rest. -/
theorem wp_region_table {Q : Exit → Act → World → Prop} {id : Nat} {a : Act} {w : World} (T : List Row) (n : Nat) (hm : P.follows .mixedOrders = true) (hn : ops.size = n + T.length) (hB : jointB .any ops (Array.replicate ops.size false) (T.map (·.1)) = true) (hT : tabB .any ops T = true) (hsel : Region.noSelect ops = true) {L : Array Bool} (hL : listAll (Array.replicate ops.size false) (T.map (·.1)) = L)
    (step : StepsT P .any ops w a T T)
    (fin : ∀ w' val (iv : Nat → Nat × Nat), Below w.heap.size w w' → (∀ e ∈ T, e.2.2.means val (val e.1) (iv e.1).1 (iv e.1).2 w' ∧ w.heap.size ≤ (iv e.1).1 ∧ (iv e.1).2 ≤ w'.heap.size) → (∀ i ∈ T.map (·.1), ∀ j ∈ T.map (·.1), i ≠ j → (iv i).2 ≤ (iv j).1 ∨ (iv j).2 ≤ (iv i).1) → wpAny P .any ops Q n L (putT val T a) w') :
    (Code.region id ops true).wp P Q a w :=
  wp_region_any hm (by
    have h := wpAny_table (P := P) (Q := Q) T n (w0 := w) (ws := w.drew) (a0 := a) ((Below.refl _ _).drew) hB hT hsel step (by rw [hL]; exact fin)
    rw [← hn] at h
    exact h)
theorem step_append_runM {Q : Exit → Act → World → Prop} {o : Oper} {a : Act} {w : World} {K : Act → World → Prop} {E : Prop} (hg : o.guard = none) (s x : Operand) (t tn : TypeId)
    (ho : o.op = .call { callee := .builtin .append, args := #[s, x], argTypes := #[t, tn] }) (vs vx : Value) (hs : a.eval s = vs) (hx : a.eval x = vx)
    (v' : Value) (w' : World) (hr : (Builtin.append_ #[t, tn] o.type #[vs, vx]).run P w = .ok v' w') (h : K (a.put o.dst v') w') : if Region.wanted o (yielded ops a.tmps) = true then Oper.wp P o a w K Q else E := by
  have hw : Region.wanted o (yielded ops a.tmps) = true := by simp [Region.wanted, hg]
  rw [if_pos hw]
  exact Lib.wp_append_run w s x t tn ho vs vx hs hx v' w' hr h
/-- An appended copy: to an empty literal. -/
theorem append_copy {w : World} {g : Nat} {vr : Value} {zs : List Int} {b : Nat} (hr : RdAt .i64 w vr zs b) (hl : zs.length ≤ 1048576) (ty : TypeId) :
    ∃ v' w', (Builtin.append_ #[23, 23] ty #[.slice (some ⟨g, 0, none⟩) 0 0, vr]).run Tryd.prog w = .ok v' w' ∧ OwnI (In w.heap.size w'.heap.size) w' v' zs ∧ Below w.heap.size w w' := by
  obtain ⟨i0, hi, hz0, hz1, hz2⟩ := info_parts info_i64
  have hwf := hr.wf
  rcases hr.open with ⟨rfl, ad, cap, rfl, hcm, hnil⟩ | ⟨hne, off, cap, rfl, hcap, hc⟩
  · refine ⟨.slice (some ⟨g, 0, none⟩) 0 0, w, ?_, OwnI.nil _ _ _, Below.refl _ _⟩
    cases ad with
    | none =>
      have hc0 := hnil rfl
      subst hc0
      simp [Builtin.append_, run_underlying Tryd.underlying23, sizeOf, typeInfo, hi, Builtin.lenOf, Builtin.firstCells, storeCells]
    | some ad => simp [Builtin.append_, run_underlying Tryd.underlying23, sizeOf, typeInfo, hi, Builtin.lenOf, Builtin.firstCells, storeCells, loadCells, loadCellsFrom]
  · obtain ⟨v', w', hrun, hown, hgr⟩ := run_append_arg_grows (P := Tryd.prog) w 23 ty 3 i0 (.int .i64 0) 1 8 Tryd.underlying23 hi hz0 hz1 hz2 rfl (by decide) ⟨g, 0, none⟩ 0 0 [] rfl (by intro j u hu; simp at hu) ⟨b, off, none⟩ zs.length cap (zs.map (Value.int .i64)) (by simp) (fun j u hu => by
        have hj : j < zs.length := by have := (List.getElem?_eq_some_iff.1 hu).1; simpa using this
        have e2 : (⟨b, off, none⟩ : Addr).add j = ⟨b, off + j, none⟩ := by simp [Addr.add]
        rw [e2, hc j hj]
        simpa [hj] using hu) (by have := List.length_pos_iff.2 hne; omega) (by unfold maxLen; omega) (by omega)
    exact ⟨v', w', hrun, OwnI.of (zs := zs) (by simpa using hown) hwf, (Below.refl _ _).grown hgr (Nat.le_refl _) (fun k hk => by cases hk)⟩
end
end Go.Proofs.YtbojhbhniollaaaDoor
namespace Go.Proofs.YtbojhbhniollaaaDoor
open Go.RowKit

/-- The world behind the stores of the values, one cell after the other. -/
def setAll (w : World) (g : Nat) (i : Nat) : List Value → World
  | [] => w
  | v :: vs => setAll (w.setCell ⟨g, i, none⟩ v) g (i + 1) vs
theorem setAll_size (g : Nat) (vs : List Value) : ∀ (w : World) (i : Nat), (setAll w g i vs).heap.size = w.heap.size := by
  induction vs with
  | nil => intro w i; rfl
  | cons v vs ih => intro w i; show (setAll _ g (i + 1) vs).heap.size = _; rw [ih]; simp [World.setCell]
theorem setAll_other (g : Nat) (vs : List Value) (k : Nat) (hk : k ≠ g) : ∀ (w : World) (i : Nat), (setAll w g i vs).heap[k]? = w.heap[k]? := by
  induction vs with
  | nil => intro w i; rfl
  | cons v vs ih => intro w i; show (setAll _ g (i + 1) vs).heap[k]? = _; rw [ih, Below.heap_setCell _ _ _ _ hk]
theorem setAll_below {B g : Nat} {w0 : World} (hg : B ≤ g) (vs : List Value) : ∀ (w : World) (i : Nat), Below B w0 w → Below B w0 (setAll w g i vs) := by
  induction vs with
  | nil => intro w i h; exact h
  | cons v vs ih => intro w i h; exact ih _ _ (h.setCell hg v)
theorem setAll_heap (g : Nat) (vs : List Value) : ∀ (w : World) (i : Nat) (cs : List Value) (t : TypeId) (fr : Nat × Nat), w.heap[g]? = some (.cells ⟨cs⟩ t fr) → i + vs.length = cs.length → (setAll w g i vs).heap[g]? = some (.cells ⟨cs.take i ++ vs⟩ t fr) := by
  induction vs with
  | nil => intro w i cs t fr h hl; simp at hl; subst hl; simpa [setAll] using h
  | cons v vs ih =>
    intro w i cs t fr h hl
    simp at hl
    have h2 : (w.setCell ⟨g, i, none⟩ v).heap[g]? = some (.cells ⟨cs.set i v⟩ t fr) := by simp [World.setCell, Array.getElem?_modify, h]
    have := ih _ (i + 1) (cs.set i v) t fr h2 (by simp; omega)
    show (setAll _ g (i + 1) vs).heap[g]? = _
    rw [this]
    have hi : i < cs.length := by omega
    rw [List.take_succ_eq_append_getElem (by simpa using hi)]
    simp [List.take_set_of_le]
theorem setAll_full {w : World} {g : Nat} {c : Array Value} {t : TypeId} {fr : Nat × Nat} (h : w.heap[g]? = some (.cells c t fr)) (vs : List Value) (hl : vs.length = c.size) : (setAll w g 0 vs).heap[g]? = some (.cells ⟨vs⟩ t fr) := by
  obtain ⟨cs⟩ := c
  have := setAll_heap g vs w 0 cs t fr h (by simpa using hl)
  simpa using this
theorem results_row_tmp {P : Program} {fn : Func} {p u : Tmp} {ty : TypeId} (h : fn.results = #[.cell p ty, .tmp u]) (tmps : Array Value) (w : World) (g : Nat) (t : TypeId) (cs : Array Value) (fr : Nat × Nat) (d : TypeDesc)
    (hp : tmps.getD p undef = .pointer (some ⟨g, 0, none⟩)) (hg : w.heap[g]? = some (.cells cs t fr))
    (hu : P.underlying ty = some d) (hd : (match d with | .struct _ | .array _ _ => true | _ => false) = true) (hi : (P.info? ty).map (·.size) = some cs.size) :
    (results fn tmps).run P w = .ok (.tuple #[.agg cs, tmps.getD u undef]) w := by
  have hp' : tmps[p]?.getD undef = .pointer (some ⟨g, 0, none⟩) := by simpa using hp
  simp [results, h, hp', asAddr, run_loadVar_row w g t ty cs fr d hg hu hd hi]
theorem two_boxesR {w w1 : World} {o1 o2 : Obj} (bb : Below ((w.alloc o1).alloc o2).heap.size ((w.alloc o1).alloc o2) w1) : Below w.heap.size w w1 ∧ w1.heap[w.heap.size]? = some o1 ∧ w1.heap[w.heap.size + 1]? = some o2 := by
  refine ⟨(((Below.refl w.heap.size w).alloc (Nat.le_refl _) o1).alloc (by simp) o2).trans (bb.mono (by simp; omega)), (bb.block _ (by simp; omega)).trans ?_, (bb.block _ (by simp)).trans ?_⟩
  · show ((w.heap.push o1).push o2)[w.heap.size]? = _
    rw [Array.getElem?_push, if_neg (by simp)]; simp
  · show ((w.heap.push o1).push o2)[w.heap.size + 1]? = _
    rw [Array.getElem?_push, if_pos (by simp)]
theorem one_boxR {w w1 : World} {o1 : Obj} (bb : Below (w.alloc o1).heap.size (w.alloc o1) w1) : Below w.heap.size w w1 ∧ w1.heap[w.heap.size]? = some o1 := by
  refine ⟨((Below.refl w.heap.size w).alloc (Nat.le_refl _) o1).trans (bb.mono (by simp)), (bb.block _ (by simp)).trans ?_⟩
  show (w.heap.push o1)[w.heap.size]? = _
  rw [Array.getElem?_push, if_pos (by simp)]

end Go.Proofs.YtbojhbhniollaaaDoor
namespace Go.Proofs.YtbojhbhniollaaaDoor
open Go.RowKit
set_option linter.unusedVariables false
set_option linter.unusedSimpArgs false

set_option maxRecDepth 100000 in
set_option maxHeartbeats 2000000 in
theorem copyRows_own (v : Value) (zss : List (List Int)) (w : World) (h : RdRows .i64 w v zss) (hl : zss.length ≤ 1048576) (hl2 : sumLen zss ≤ 1048576) :
    Calls Tryd.prog 66 #[v] w fun e w' => ∃ v', e = .returned v' ∧ OwnR (In w.heap.size w'.heap.size) w' v' zss ∧ Below w.heap.size w w' := by
  obtain ⟨i0, hi, hz0, hz1, hz2⟩ := info_parts info_rowI
  obtain ⟨i1, gi, gz0, gz1, gz2⟩ := info_parts info_i64
  have hrow := fun wx (hb : Below w.heap.size w wx) j (hj : j < zss.length) => (h.below hb).row hj
  obtain ⟨a, cap, rfl, hcap, -⟩ := id h
  obtain ⟨n, hn⟩ : ∃ n, n = zss.length := ⟨_, rfl⟩
  have Hn := Lib.hid hn
  have Hrow := Lib.hid hrow
  have Hsum : Hid (∀ j (hj : j < zss.length), zss[j].length ≤ 1048576) := Lib.hid (fun j hj => Nat.le_trans (len_le_sum zss hj) hl2)
  have Hi := Lib.hid (And.intro gi (And.intro gz0 (And.intro gz1 gz2)))
  rw [← hn] at hl ⊢
  clear hn hrow h hcap hl2 gi gz0 gz1 gz2
  go_enter Tryd.func66, Tryd.ntmps66
  go_wp2_with (at_make; refine wpList_make_full _ rfl _ _ 22 rfl w.heap.size 23 i0 (.slice none 0 0) 1 Tryd.underlying22 hi hz0 hz1 _ _ _ _ n rfl rfl rfl rfl ?c1 ?c2 ?c3 ?_)
  case c1 => rw [hz2]; omega
  case c2 => unfold maxLen; omega
  case c3 => exact Nat.le_refl _
  intro w1 hown hgr
  have hb1 : Below w.heap.size w w1 := (Below.refl _ _).grown hgr (Nat.le_refl _) (fun k hk => by cases hk)
  have hlt1 := own_madeIntS hown
  clear hgr hi hz0 hz1 hz2
  go_wp2_with fail
  go_loopw [4, 5, 11] (fun _ _ i wr => ∃ k : Nat, k ≤ n ∧ i = .int .i64 k ∧ Below w.heap.size w wr ∧ w.heap.size < wr.heap.size ∧ ∃ (xs : List Value) (bf : Nat → Nat), wr.ownsRow w.heap.size 23 1 (.slice (some ⟨w.heap.size, 0, none⟩) n n) n xs ∧
      Hid (∀ i j, i < j → j < k → bf i < bf j) ∧ Hid (∀ j (hj : j < zss.length), j < k → w.heap.size < bf j ∧ bf j < wr.heap.size ∧ ∃ r, xs[j]? = some r ∧ WrAt .i64 wr r zss[j] (bf j) ∧ ∃ p, r = .slice p zss[j].length zss[j].length)) (fun _ _ i _ => n - (intOf i).toNat)
  case atStart => exact ⟨0, Nat.zero_le _, rfl, hb1, hlt1, _, fun _ => 0, hown, Lib.hid (fun i j _ h => by omega), Lib.hid (fun j _ h => by omega)⟩
  case round =>
    clear hown hb1 hlt1
    obtain ⟨k, hk, rfl, B, hlt1, xs, bf, hown, hmono, hxs⟩ := hrel
    by_cases hlt : k < n
    · have hz : k < zss.length := by rw [← Hn.out]; exact hlt
      obtain ⟨blk, off, cap', p, c, b, hv, hcw, hrw, -⟩ := Hrow.out w (Below.refl _ _) k hz
      have ha := (Value.slice.inj hv).1
      clear hv
      subst ha
      have hc := (B.cell (World.block_lt_of_cell? _ _ hcw)).trans hcw
      have hr := hrw.below B
      have hblt := hrw.lt
      clear hcw hrw
      have hsm := Hsum.out k hz
      have Hz : Hid (k < zss.length) := Lib.hid hz
      obtain ⟨zs, hzs⟩ : ∃ zs, zs = zss[k]'hz := ⟨_, rfl⟩
      rw [← hzs] at hc hr hsm hblt
      have Hzs := Lib.hid hzs
      have Hr := Lib.hid hr
      obtain ⟨m, hm⟩ : ∃ m, m = zs.length := ⟨_, rfl⟩
      have Hm := Lib.hid hm
      rw [← hm] at hc hsm
      clear hr hzs hm
      obtain ⟨gi, gz0, gz1, gz2⟩ := Hi.out
      go_wp2_with (at_make; refine wpList_make_full _ rfl _ _ 23 rfl wr.heap.size 3 i1 (.int .i64 0) 1 Tryd.underlying23 gi gz0 gz1 _ _ _ _ m rfl rfl rfl rfl ?d1 ?d2 ?d3 ?_)
      case d1 => rw [gz2]; omega
      case d2 => unfold maxLen; omega
      case d3 => exact Nat.le_refl _
      intro w2 hmk hgr2
      have B2 : Below wr.heap.size wr w2 := (Below.refl _ _).grown hgr2 (Nat.le_refl _) (fun k hk => by cases hk)
      have hlt2 : wr.heap.size < w2.heap.size := own_madeIntS hmk
      have hown2 := own_below hown B2
      have hB2 := B.trans (B2.mono B.size)
      obtain ⟨x, hx⟩ : ∃ x, xs[k]? = some x := ⟨_, List.getElem?_eq_getElem (by rw [hown.1]; omega)⟩
      have hc2 : w2.cell? ⟨w.heap.size, k, none⟩ = some x := by rw [hown2.cellAt k (by omega), hx]
      have hf2 : w2.frozen? ⟨w.heap.size, k, none⟩ = false := hown2.frozenAt k
      have hst := (hown2.stored k (.slice (some ⟨wr.heap.size, 0, none⟩) m m)).1
      obtain ⟨ws, hws⟩ : ∃ ws, ws = w2.setCell ⟨w.heap.size, k, none⟩ (.slice (some ⟨wr.heap.size, 0, none⟩) m m) := ⟨_, rfl⟩
      have hkeep : ∀ q, q ≠ w.heap.size → ws.heap[q]? = w2.heap[q]? := fun q hq => by rw [hws]; exact Below.heap_setCell _ _ _ _ hq
      have hs3 : ws.heap.size = w2.heap.size := by rw [hws]; simp [World.setCell]
      have hBs : Below w.heap.size w ws := by rw [hws]; exact hB2.setCell (Nat.le_refl _) _
      obtain ⟨cur, hcur, hcl⟩ : ∃ cur : List Value, ws.heap[wr.heap.size]? = some (.cells cur.toArray 3 (0, 0)) ∧ cur.length = m := by
        rcases hmk.2 with ⟨e, -⟩ | ⟨g', cap', cur, e, hg, hh, hnc, hcm, hcs, htake⟩
        · cases e
        · simp only [Value.slice.injEq, Option.some.injEq, Addr.mk.injEq, and_true, true_and] at e
          obtain ⟨rfl, rfl⟩ := e
          exact ⟨cur.toList, by rw [hkeep _ (by omega)]; simpa using hh, by simpa using hcs⟩
      rw [← hws] at hst
      have HL : Hid (ws.cell? ⟨w.heap.size, k, none⟩ = some (.slice (some ⟨wr.heap.size, 0, none⟩) m m)) := Lib.hid (by
        rw [hst.cellAt k (by omega), List.getElem?_set_self (by rw [hown.1]; omega)])
      have hpos : 0 < (zs.map (Value.int .i64)).length → (some ⟨wr.heap.size, 0, none⟩ : Option Addr) = some ⟨wr.heap.size, 0, none⟩ ∧ ∃ ad, p = some ad ∧ ∀ j v, (zs.map (Value.int .i64))[j]? = some v → ws.cell? (ad.add j) = some v := fun h0 => by
        refine ⟨rfl, ?_⟩
        rcases Hr.out.open with ⟨e, -⟩ | ⟨hne, off2, cap2, e, hcap2, hcc⟩
        · rw [e] at h0; simp at h0
        · simp only [Value.slice.injEq] at e
          refine ⟨_, e.1, fun j u hu => ?_⟩
          have hj : j < zs.length := by have := (List.getElem?_eq_some_iff.1 hu).1; simpa using this
          have e2 : (⟨b, off2, none⟩ : Addr).add j = ⟨b, off2 + j, none⟩ := by simp [Addr.add]
          have hjc := hcc j hj
          have hbl := hblt (by intro e; rw [e] at hj; simp at hj)
          rw [e2, World.cell?_of_block (w := wr) (a := ⟨b, off2 + j, none⟩) ((hkeep b (by omega)).trans (B2.block b (by omega))), hjc]
          simpa [hj] using hu
      have HP := Lib.hid hpos
      have HcL : Hid ((zs.map (Value.int .i64)).length = m) := Lib.hid (by rw [List.length_map]; exact Hm.out.symm)
      have HR : Hid (ws.heap[wr.heap.size]? = some (.cells cur.toArray 3 (0, 0))) := Lib.hid hcur
      have Hcl := Lib.hid hcl
      have hone : ∀ u ∈ zs.map (Value.int .i64), u.oneCell' = true := by intro u hu; simp at hu; obtain ⟨y, _, rfl⟩ := hu; rfl
      -- what holds behind the copy
      have HN : Hid (∀ w4, w4.heap[wr.heap.size]? = some (.cells (splice cur 0 (zs.map (Value.int .i64))).toArray 3 (0, 0)) → Below wr.heap.size ws w4 → Below w.heap.size w w4 ∧ w.heap.size < w4.heap.size ∧ ∃ (xs : List Value) (bf : Nat → Nat), w4.ownsRow w.heap.size 23 1 (.slice (some ⟨w.heap.size, 0, none⟩) n n) n xs ∧
          Hid (∀ i j, i < j → j < k + 1 → bf i < bf j) ∧ Hid (∀ j (hj : j < zss.length), j < k + 1 → w.heap.size < bf j ∧ bf j < w4.heap.size ∧ ∃ r, xs[j]? = some r ∧ WrAt .i64 w4 r zss[j] (bf j) ∧ ∃ p, r = .slice p zss[j].length zss[j].length)) := Lib.hid (fun w4 h4 B4 => by
        have hsz4 := B4.size
        refine ⟨hBs.trans (B4.mono (by omega)), by omega, xs.set k (.slice (some ⟨wr.heap.size, 0, none⟩) m m), fun j => if j = k then wr.heap.size else bf j, ?_, ?_, ?_⟩
        · obtain ⟨hl0, hst⟩ := hst
          refine ⟨hl0, hst.imp id ?_⟩
          rintro ⟨g', cap', cur', e, hg, hh, r⟩
          refine ⟨g', cap', cur', e, hg, ?_, r⟩
          simp only [Value.slice.injEq, Option.some.injEq, Addr.mk.injEq, and_true, true_and] at e
          rw [B4.block g' (by omega)]; exact hh
        · refine Lib.hid (fun i j hij hj => ?_)
          have hik : i ≠ k := by omega
          have hiz : i < zss.length := by have := Hz.out; omega
          simp only [if_neg hik]
          by_cases e : j = k
          · rw [if_pos e]; exact (hxs.out i hiz (by omega)).2.1
          · rw [if_neg e]; exact hmono.out i j hij (by omega)
        · refine Lib.hid (fun j hjz hj => ?_)
          by_cases e : j = k
          · subst e
            simp only [if_true]
            refine ⟨hlt1, by omega, _, by rw [List.getElem?_set_self (by rw [hown.1]; omega)], ?_⟩
            rw [← Hzs.out]
            have hwf := Hr.out.wf
            have hsp : splice cur 0 (zs.map (Value.int .i64)) = zs.map (Value.int .i64) := by
              unfold splice
              rw [List.take_zero, List.nil_append, Nat.zero_add, HcL.out, List.drop_eq_nil_of_le (by rw [Hcl.out]; exact Nat.le_refl _), List.append_nil]
            rw [hsp] at h4
            refine ⟨⟨_, m, by rw [Hm.out], ⟨by rw [Hm.out]; exact Nat.le_refl _, by unfold maxLen; omega, fun e => by cases e⟩, hwf, .inr ⟨0, rfl, fun i hi => ?_, fun i hi => ?_⟩⟩, _, by rw [Hm.out]⟩
            · simp [World.cell?, h4, hi]
            · simp [World.frozen?, h4]
          · obtain ⟨g1, g2, r, g3, g4⟩ := hxs.out j hjz (by omega)
            simp only [if_neg e]
            refine ⟨g1, by omega, r, by rw [List.getElem?_set_ne (by omega)]; exact g3, ?_⟩
            exact ⟨g4.1.keep fun _ => (B4.block _ g2).trans ((hkeep _ (by omega)).trans (B2.block _ g2)), g4.2⟩)
      have HWS := Lib.hid hws
      have HBsz : Hid (wr.heap.size ≤ ws.heap.size) := Lib.hid (by omega)
      clear hpos hcur hcl hst hBs hs3 hkeep hmk hown2 hB2 B2 hgr2 hx hown hxs hmono B hws hblt
      go_upto_region 6 with fail
      rw [← HWS.out]
      have hld := HL.out
      go_wp2_with (first | (refine wpList_copy_splice rfl (.tmp 25) (.tmp 26) 23 23 rfl 3 Tryd.underlying23 (by kernel_rfl) (some ⟨wr.heap.size, 0, none⟩) p m m m c rfl rfl wr.heap.size 0 cur 3 HR.out (zs.map (Value.int .i64)) (by rw [HcL.out]; exact (Nat.min_self m).symm) HP.out (by rw [HcL.out, Hcl.out]; omega) hone wr.heap.size ws (Below.refl _ _) (Nat.le_refl _) ?_) | fail)
      intro w4 hg4 hb4
      obtain ⟨n1, n2, xs2, bf2, n3, n4, n5⟩ := HN.out w4 hg4.out hb4
      clear hg4 hb4 hld
      go_wp2_with fail
      go_roundw
      case rel => exact ⟨k + 1, by omega, by go_num, n1, n2, xs2, bf2, n3, n4, n5⟩
      case measure => simp [intOf]; omega
    · obtain rfl : k = n := by omega
      have hfin : Hid (OwnR (In w.heap.size wr.heap.size) wr (.slice (some ⟨w.heap.size, 0, none⟩) k k) zss) := Lib.hid (by
        have hown' : wr.ownsRow w.heap.size 23 1 (.slice (some ⟨w.heap.size, 0, none⟩) k k) zss.length xs := by rw [← Hn.out]; exact hown
        refine ⟨xs, own_to0 hown', fun g hg => ⟨own_block hown' g hg, own_lt hown' hg⟩, fun j hj => ?_, fun i j ri rj hij hi hj g hgi hgj => ?_⟩
        · obtain ⟨g1, g2, r, g3, g4, p, e⟩ := hxs.out j hj (by rw [Hn.out]; exact hj)
          exact ⟨r, g3, OwnI.full e g4 (fun _ => ⟨⟨by omega, g2⟩, by simp [Value.ownBlock]; omega⟩)⟩
        · have hl := hown'.1
          have hi' : i < zss.length := by have := (List.getElem?_eq_some_iff.1 hi).1; omega
          have hj' : j < zss.length := by have := (List.getElem?_eq_some_iff.1 hj).1; omega
          obtain ⟨-, -, r, g3, g4, p, e⟩ := hxs.out i hi' (by rw [Hn.out]; exact hi')
          obtain ⟨-, -, r', g3', g4', p', e'⟩ := hxs.out j hj' (by rw [Hn.out]; exact hj')
          obtain rfl : r = ri := Option.some.inj (g3.symm.trans hi)
          obtain rfl : r' = rj := Option.some.inj (g3'.symm.trans hj)
          have hkn := Hn.out
          have a1 : bf i = g := by
            rcases full_held e g4 with ⟨-, h⟩ | ⟨-, h⟩ <;> rw [h] at hgi
            · cases hgi
            · exact Option.some.inj hgi
          have a2 : bf j = g := by
            rcases full_held e' g4' with ⟨-, h⟩ | ⟨-, h⟩ <;> rw [h] at hgj
            · cases hgj
            · exact Option.some.inj hgj
          rcases Nat.lt_or_gt_of_ne hij with h | h
          · have := hmono.out i j h (by omega); omega
          · have := hmono.out j i h (by omega); omega)
      clear hxs hmono hown
      go_wp2_with fail
      go_ret
      exact ⟨_, rfl, hfin.out, B⟩
end Go.Proofs.YtbojhbhniollaaaDoor
namespace Go.Proofs.YtbojhbhniollaaaDoor
open Go.RowKit
set_option linter.unusedVariables false
set_option linter.unusedSimpArgs false

/-- A deal of the call's own: its lists may grow. -/
def OwnDeal (S : Nat → Prop) (w : World) (v : Value) (D : MDeal) : Prop :=
  ∃ (p0 p3 p4 p5 : Option Addr) (c0 c3 c4 c5 : Nat) (S0 S3 S4 S5 : Nat → Prop), v = .agg #[.slice p0 D.hands.length c0, .int .i64 D.leader, .int .i64 D.trump, .slice p3 D.trick.length c3, .slice p4 D.won.length c4, .slice p5 D.points.length c5, .int .i64 D.left] ∧ OwnR S0 w (.slice p0 D.hands.length c0) D.hands ∧ OwnI S3 w (.slice p3 D.trick.length c3) D.trick ∧ OwnI S4 w (.slice p4 D.won.length c4) D.won ∧ OwnI S5 w (.slice p5 D.points.length c5) D.points ∧ (∀ b, S0 b → S b) ∧ (∀ b, S3 b → S b) ∧ (∀ b, S4 b → S b) ∧ (∀ b, S5 b → S b) ∧ (∀ b, S0 b → ¬ S3 b) ∧ (∀ b, S0 b → ¬ S4 b) ∧ (∀ b, S0 b → ¬ S5 b) ∧ (∀ b, S3 b → ¬ S4 b) ∧ (∀ b, S3 b → ¬ S5 b) ∧ (∀ b, S4 b → ¬ S5 b) ∧ (Lit.int .i64 D.leader).wf = true ∧ (Lit.int .i64 D.trump).wf = true ∧ (Lit.int .i64 D.left).wf = true
theorem OwnDeal.wr {S : Nat → Prop} {w : World} {v : Value} {D : MDeal} (h : OwnDeal S w v D) : WrDeal S w v D := by
  obtain ⟨p0, p3, p4, p5, c0, c3, c4, c5, S0, S3, S4, S5, e, h0, h3, h4, h5, r⟩ := h
  exact ⟨p0, p3, p4, p5, c0, c3, c4, c5, S0, S3, S4, S5, e, h0.ss, h3.wr, h4.wr, h5.wr, r⟩
theorem OwnDeal.below {S : Nat → Prop} {w w' : World} {v : Value} {D : MDeal} (h : OwnDeal S w v D) (b : Below w.heap.size w w') : OwnDeal S w' v D := by
  obtain ⟨p0, p3, p4, p5, c0, c3, c4, c5, S0, S3, S4, S5, e, h0, h3, h4, h5, r⟩ := h
  exact ⟨p0, p3, p4, p5, c0, c3, c4, c5, S0, S3, S4, S5, e, h0.below b, h3.below b, h4.below b, h5.below b, r⟩
theorem OwnDeal.mono {S T : Nat → Prop} {w : World} {v : Value} {D : MDeal} (h : OwnDeal S w v D) (hs : ∀ b, S b → T b) : OwnDeal T w v D := by
  obtain ⟨p0, p3, p4, p5, c0, c3, c4, c5, S0, S3, S4, S5, e, h0, h3, h4, h5, s0, s3, s4, s5, r⟩ := h
  exact ⟨p0, p3, p4, p5, c0, c3, c4, c5, S0, S3, S4, S5, e, h0, h3, h4, h5, fun b hb => hs b (s0 b hb), fun b hb => hs b (s3 b hb), fun b hb => hs b (s4 b hb), fun b hb => hs b (s5 b hb), r⟩
theorem OwnDeal.touch {S T : Nat → Prop} {w w' : World} {v : Value} {D : MDeal} (h : OwnDeal S w v D) (t : Touch T w w') (hd : ∀ b, S b → ¬ T b) : OwnDeal S w' v D := by
  obtain ⟨p0, p3, p4, p5, c0, c3, c4, c5, S0, S3, S4, S5, e, h0, h3, h4, h5, s0, s3, s4, s5, r⟩ := h
  exact ⟨p0, p3, p4, p5, c0, c3, c4, c5, S0, S3, S4, S5, e, h0.touch t (fun b hb => hd b (s0 b hb)), h3.touch t (fun b hb => hd b (s3 b hb)), h4.touch t (fun b hb => hd b (s4 b hb)), h5.touch t (fun b hb => hd b (s5 b hb)), s0, s3, s4, s5, r⟩
theorem touchRow (w : World) (g : Nat) (cs : Array Value) : Touch (fun k => k = g) w (w.setRow g cs) := by
  have b : Below 0 w (w.setRow g cs) := below_setRow (Below.refl _ _) (Nat.zero_le _) _
  exact ⟨b.os, b.tape, b.output, b.size, fun k _ hn => setRow_other _ _ _ _ hn⟩
theorem touchCell (w : World) (g i : Nat) (v : Value) : Touch (fun k => k = g) w (w.setCell ⟨g, i, none⟩ v) := by
  have b : Below 0 w (w.setCell ⟨g, i, none⟩ v) := (Below.refl _ _).setCell (Nat.zero_le _) _
  exact ⟨b.os, b.tape, b.output, b.size, fun k _ hn => Below.heap_setCell _ _ _ _ hn⟩
/-- A deal laid into its box. -/
theorem deal_laid {lo r l0 u0 l3 u3 l4 u4 l5 u5 d0 d3 d4 d5 : Nat} {w0 wx : World} {q0 q3 q4 q5 : Option Addr} {old : Array Value} {D : MDeal} (h0 : OwnR (In l0 u0) wx (.slice q0 D.hands.length d0) D.hands) (h3 : OwnI (In l3 u3) wx (.slice q3 D.trick.length d3) D.trick) (h4 : OwnI (In l4 u4) wx (.slice q4 D.won.length d4) D.won) (h5 : OwnI (In l5 u5) wx (.slice q5 D.points.length d5) D.points)
    (i0 : lo ≤ l0 ∧ u0 ≤ wx.heap.size) (i3 : lo ≤ l3 ∧ u3 ≤ wx.heap.size) (i4 : lo ≤ l4 ∧ u4 ≤ wx.heap.size) (i5 : lo ≤ l5 ∧ u5 ≤ wx.heap.size)
    (x1 : u0 ≤ l3 ∨ u3 ≤ l0) (x2 : u0 ≤ l4 ∨ u4 ≤ l0) (x3 : u0 ≤ l5 ∨ u5 ≤ l0) (x4 : u3 ≤ l4 ∨ u4 ≤ l3) (x5 : u3 ≤ l5 ∨ u5 ≤ l3) (x6 : u4 ≤ l5 ∨ u5 ≤ l4)
    (wf0 : (Lit.int .i64 D.leader).wf = true) (wf1 : (Lit.int .i64 D.trump).wf = true) (wf2 : (Lit.int .i64 D.left).wf = true) (r0 : r < l0) (r3 : r < l3) (r4 : r < l4) (r5 : r < l5) (hr : lo ≤ r) (g1 : wx.heap[r]? = some (.cells old 31 (0, 0))) (B : Below lo w0 wx) :
    (wx.setRow r #[.slice q0 D.hands.length d0, .int .i64 D.leader, .int .i64 D.trump, .slice q3 D.trick.length d3, .slice q4 D.won.length d4, .slice q5 D.points.length d5, .int .i64 D.left]).heap[r]? = some (.cells #[.slice q0 D.hands.length d0, .int .i64 D.leader, .int .i64 D.trump, .slice q3 D.trick.length d3, .slice q4 D.won.length d4, .slice q5 D.points.length d5, .int .i64 D.left] 31 (0, 0)) ∧ OwnDeal (In lo (wx.setRow r #[.slice q0 D.hands.length d0, .int .i64 D.leader, .int .i64 D.trump, .slice q3 D.trick.length d3, .slice q4 D.won.length d4, .slice q5 D.points.length d5, .int .i64 D.left]).heap.size) (wx.setRow r #[.slice q0 D.hands.length d0, .int .i64 D.leader, .int .i64 D.trump, .slice q3 D.trick.length d3, .slice q4 D.won.length d4, .slice q5 D.points.length d5, .int .i64 D.left]) (.agg #[.slice q0 D.hands.length d0, .int .i64 D.leader, .int .i64 D.trump, .slice q3 D.trick.length d3, .slice q4 D.won.length d4, .slice q5 D.points.length d5, .int .i64 D.left]) D ∧ Below lo w0 (wx.setRow r #[.slice q0 D.hands.length d0, .int .i64 D.leader, .int .i64 D.trump, .slice q3 D.trick.length d3, .slice q4 D.won.length d4, .slice q5 D.points.length d5, .int .i64 D.left]) := by
  have tR := touchRow wx r #[.slice q0 D.hands.length d0, .int .i64 D.leader, .int .i64 D.trump, .slice q3 D.trick.length d3, .slice q4 D.won.length d4, .slice q5 D.points.length d5, .int .i64 D.left]
  have hs : (wx.setRow r #[.slice q0 D.hands.length d0, .int .i64 D.leader, .int .i64 D.trump, .slice q3 D.trick.length d3, .slice q4 D.won.length d4, .slice q5 D.points.length d5, .int .i64 D.left]).heap.size = wx.heap.size := by simp [World.setRow]
  refine ⟨setRow_heap _ _ _ _ _ _ g1, ⟨q0, q3, q4, q5, d0, d3, d4, d5, In l0 u0, In l3 u3, In l4 u4, In l5 u5, rfl, h0.touch tR (fun b hb e => by have := hb.1; omega), h3.touch tR (fun b hb e => by have := hb.1; omega), h4.touch tR (fun b hb e => by have := hb.1; omega), h5.touch tR (fun b hb e => by have := hb.1; omega), ?_, ?_, ?_, ?_, ?_, ?_, ?_, ?_, ?_, ?_, wf0, wf1, wf2⟩, below_setRow B hr _⟩
  · intro b hb; obtain ⟨h1, h2⟩ := hb; exact ⟨by omega, by omega⟩
  · intro b hb; obtain ⟨h1, h2⟩ := hb; exact ⟨by omega, by omega⟩
  · intro b hb; obtain ⟨h1, h2⟩ := hb; exact ⟨by omega, by omega⟩
  · intro b hb; obtain ⟨h1, h2⟩ := hb; exact ⟨by omega, by omega⟩
  all_goals (intro b hb hc; obtain ⟨h1, h2⟩ := hb; obtain ⟨h3, h4⟩ := hc; omega)
set_option maxRecDepth 100000 in
set_option maxHeartbeats 2000000 in
theorem sl12Copy_any (v : Value) (D : MDeal) (w : World) (h : RdDeal w v D) (hf : D.Few) :
    Calls Tryd.prog 45 #[v] w fun e w' => ∃ v', e = .returned v' ∧ OwnDeal (In w.heap.size w'.heap.size) w' v' D ∧ Below w.heap.size w w' := by
  obtain ⟨p0, p3, p4, p5, c0, c3, c4, c5, ev⟩ := h.shape
  obtain ⟨v0, v3, v4, v5, b3, b4, b5, e, h0, h3, h4, h5, wf0, wf1, wf2⟩ := h
  rw [ev] at e
  simp at e
  obtain ⟨rfl, rfl, rfl, rfl⟩ := e
  subst ev
  obtain ⟨f0, fs0, f3, f4, f5⟩ := hf
  obtain ⟨W0, hW0⟩ : ∃ W, W = (w.alloc (.cells #[.slice p0 D.hands.length c0, .int .i64 D.leader, .int .i64 D.trump, .slice p3 D.trick.length c3, .slice p4 D.won.length c4, .slice p5 D.points.length c5, .int .i64 D.left] 31)).alloc (.cells #[.slice none 0 0, .int .i64 0, .int .i64 0, .slice none 0 0, .slice none 0 0, .slice none 0 0, .int .i64 0] 31) := ⟨_, rfl⟩
  have G0 : W0.heap[w.heap.size]? = some (.cells #[.slice p0 D.hands.length c0, .int .i64 D.leader, .int .i64 D.trump, .slice p3 D.trick.length c3, .slice p4 D.won.length c4, .slice p5 D.points.length c5, .int .i64 D.left] 31 (0, 0)) := by rw [hW0]; exact heap_alloc2_old _ _ _
  have G1 : W0.heap[w.heap.size + 1]? = some (.cells #[.slice none 0 0, .int .i64 0, .int .i64 0, .slice none 0 0, .slice none 0 0, .slice none 0 0, .int .i64 0] 31 (0, 0)) := by rw [hW0]; exact heap_alloc2_new _ _ _
  have hsz : W0.heap.size = w.heap.size + 2 := by rw [hW0]; simp
  have B0 : Below w.heap.size w W0 := by rw [hW0]; exact ((Below.refl _ _).alloc (Nat.le_refl _) _).alloc (by simp) _
  have Bx : ∀ wx, Below W0.heap.size W0 wx → Below w.heap.size w wx := fun wx hb => B0.trans (hb.mono B0.size)
  have H3w := Lib.hid (fun wx (hb : Below W0.heap.size W0 wx) => And.intro (h3.below (Bx wx hb)) f3)
  have H4w := Lib.hid (fun wx (hb : Below W0.heap.size W0 wx) => And.intro (h4.below (Bx wx hb)) f4)
  have H5w := Lib.hid (fun wx (hb : Below W0.heap.size W0 wx) => And.intro (h5.below (Bx wx hb)) f5)
  have Hrow := Lib.hid (fun wx (hb : Below W0.heap.size W0 wx) j (hj : j < D.hands.length) => (h0.below (Bx wx hb)).row hj)
  have HCw := Lib.hid (fun wx (hb : Below W0.heap.size W0 wx) => SDeal_cells ((hb.block _ (show w.heap.size < W0.heap.size by omega)).trans G0))
  have HRw := Lib.hid (fun wx (hb : Below W0.heap.size W0 wx) => (hb.block _ (show w.heap.size + 1 < W0.heap.size by omega)).trans G1)
  obtain ⟨zss, hzs⟩ : ∃ z, z = D.hands := ⟨_, rfl⟩
  rw [← hzs] at Hrow
  obtain ⟨n, hn⟩ : ∃ n, n = zss.length := ⟨_, rfl⟩
  have Hsum : Hid (∀ j (hj : j < zss.length), zss[j].length ≤ 1048576) := Lib.hid (fun j hj => Nat.le_trans (len_le_sum zss hj) (by rw [hzs]; exact fs0))
  have hnl : n ≤ 1048576 := by rw [hn, hzs]; exact f0
  have hnD : D.hands.length = n := by rw [hn, hzs]
  have Hn := Lib.hid hn
  have Hzs := Lib.hid hzs
  have HW := Lib.hid hW0
  have HS := Lib.hid (And.intro hsz (And.intro Bx (And.intro wf0 (And.intro wf1 wf2))))
  have lit0 : Hid (OwnR (In W0.heap.size (W0.alloc (.cells #[] 23)).heap.size) (W0.alloc (.cells #[] 23)) (.slice (some ⟨W0.heap.size, 0, none⟩) 0 0) []) := Lib.hid (OwnR.empty W0)
  have BL : Below W0.heap.size W0 (W0.alloc (.cells #[] 23)) := (Below.refl _ _).alloc (Nat.le_refl _) _
  have HnD := Lib.hid hnD
  clear hW0 G0 G1 hsz B0 Bx h0 h3 h4 h5 f0 fs0 f3 f4 f5 wf0 wf1 wf2 hn hzs hnD
  go_enter Tryd.func45, Tryd.ntmps45
  go_upto_region 1 with fail
  rw [← HW.out]
  go_wp2_with fail
  go_loopw [3, 4] (fun o i wr => ∃ k : Nat, k ≤ n ∧ i = .int .i64 k ∧ Below W0.heap.size W0 wr ∧ Hid (OwnR (In W0.heap.size wr.heap.size) wr o (zss.take k))) (fun _ i _ => n - (intOf i).toNat)
  case atStart => exact ⟨0, Nat.zero_le _, rfl, BL, lit0⟩
  case round =>
    clear lit0 BL
    obtain ⟨k, hk, rfl, B, ho⟩ := hrel
    obtain ⟨k0, k1, k2, k3, k4, k5, k6⟩ := HCw.out wr B
    rw [HnD.out] at k0
    by_cases hlt : k < n
    · have hz : k < zss.length := by rw [← Hn.out]; exact hlt
      obtain ⟨blk, off, cap', p, c, b, hv, hc, hr, -⟩ := Hrow.out wr B k hz
      have hsm := Hsum.out k hz
      have hA : Below wr.heap.size wr (wr.alloc (.cells #[] 3)) := (Below.refl _ _).alloc (Nat.le_refl _) _
      have hcA : (wr.alloc (.cells #[] 3)).cell? ⟨blk, off + k, none⟩ = some (.slice p (zss[k]'hz).length c) := (hA.cell (p := ⟨blk, off + k, none⟩) (World.block_lt_of_cell? _ _ hc)).trans hc
      have ha := (Value.slice.inj hv).1
      clear hv
      subst ha
      have kA : (wr.alloc (.cells #[] 3)).cell? ⟨w.heap.size, 0, none⟩ = some (.slice (some ⟨blk, off, none⟩) n c0) := by
        have := (HCw.out _ (B.trans (hA.mono B.size))).1
        rw [HnD.out] at this; exact this
      obtain ⟨q0, d0, e0⟩ := ho.out.shape
      subst e0
      obtain ⟨r, w2, hrun2, ho2, B2⟩ := append_copy (g := wr.heap.size) (hr.below hA) hsm 23
      have B2' : Below wr.heap.size wr w2 := hA.trans (B2.mono hA.size)
      obtain ⟨v3, w3, hrun3, ho3, hg3⟩ := ho.out.snoc B2' (ho2.mono (fun b hb _ => by have := hb.1; have := hA.size; omega)) (by rw [List.length_take]; omega) 22 Tryd.underlying22 22
      have B3 : Below W0.heap.size W0 w3 := ((B.trans (B2'.mono B.size)).alloc (Nat.le_trans B.size B2'.size) _).grown hg3 (by have := B.size; have := B2'.size; simp; omega) (fun q hq => by
        obtain ⟨xs, h1, h2, -⟩ := ho.out
        exact (h2 q hq).1)
      have hw3 : Hid (OwnR (In W0.heap.size w3.heap.size) w3 v3 (zss.take (k + 1))) := Lib.hid (by
        rw [List.take_succ_eq_append_getElem hz]
        exact ho3.mono (fun b hb hl => by have := B.size; rcases hb with ⟨h1, h2⟩ | ⟨h1, h2⟩ <;> exact ⟨by omega, hl⟩))
      obtain ⟨p3', c3', e3⟩ := ho3.shape
      obtain ⟨p2, c2, e2⟩ := ho2.shape
      have Q2 := Lib.hid hrun2
      have Q3 := Lib.hid hrun3
      have HB3 := Lib.hid B3
      subst e3 e2
      clear hr hrun2 hrun3 ho3 ho2 ho B2 B2' B3 hg3 hA k1 k2 k3 k4 k5 k6
      generalize (zss[k]'hz).length = m at *
      have hlt2 : (zss.take k).length = k := by rw [List.length_take]; omega
      have hlt3 : (zss.take k ++ [zss[k]'hz]).length = k + 1 := by rw [List.length_append, hlt2]; rfl
      rw [hlt2] at Q3
      rw [hlt3] at Q3 hw3
      rw [hlt2]
      clear hlt2 hlt3
      go_wp2_with (at_builtin; first | refine Lib.wpList_append_run _ rfl _ _ _ _ rfl _ _ rfl rfl _ _ Q2.out ?_ | refine Lib.wpList_append_run _ rfl _ _ _ _ rfl _ _ rfl rfl _ _ Q3.out ?_)
      go_roundw
      case rel => exact ⟨k + 1, by omega, by go_num, HB3.out, hw3⟩
      case measure => simp [intOf]; omega
    · obtain rfl : k = n := by omega
      have hall : zss.take k = D.hands := by rw [List.take_of_length_le (by rw [Hn.out]; exact Nat.le_refl _), Hzs.out]
      obtain ⟨vh, hvh⟩ : ∃ v, v = (Value.slice none 0 0) := ⟨_, rfl⟩
      rw [hall] at ho
      obtain ⟨ph, ch, eh⟩ := ho.out.shape
      subst eh
      have Bx' : ∀ wx, Below wr.heap.size wr wx → Below W0.heap.size W0 wx := fun wx hb => B.trans (hb.mono B.size)
      have HC := Lib.hid (fun wx (hb : Below wr.heap.size wr wx) => HCw.out wx (Bx' wx hb))
      have H3 := Lib.hid (fun wx (hb : Below wr.heap.size wr wx) => H3w.out wx (Bx' wx hb))
      have H4 := Lib.hid (fun wx (hb : Below wr.heap.size wr wx) => H4w.out wx (Bx' wx hb))
      have H5 := Lib.hid (fun wx (hb : Below wr.heap.size wr wx) => H5w.out wx (Bx' wx hb))
      have HB := Lib.hid B
      clear hall hvh vh k1 k2 k3 k4 k5 k6 Bx'
      go_upto_region 6 with fail
      clear k0 B
      refine wp_region_table [(0, some 23, .is (.slice ph D.hands.length ch)), (1, some 24, .is (.pointer (some ⟨w.heap.size, 1, none⟩))), (2, some 25, .is (.int .i64 D.leader)), (3, some 26, .is (.pointer (some ⟨w.heap.size, 2, none⟩))), (4, some 27, .is (.int .i64 D.trump)), (5, some 28, .zero), (6, some 29, .is (.pointer (some ⟨w.heap.size, 3, none⟩))), (7, some 30, .is (.slice p3 D.trick.length c3)), (8, some 31, .ints D.trick), (9, some 32, .zero), (10, some 33, .is (.pointer (some ⟨w.heap.size, 4, none⟩))), (11, some 34, .is (.slice p4 D.won.length c4)), (12, some 35, .ints D.won), (13, some 36, .zero), (14, some 37, .is (.pointer (some ⟨w.heap.size, 5, none⟩))), (15, some 38, .is (.slice p5 D.points.length c5)), (16, some 39, .ints D.points), (17, some 40, .is (.pointer (some ⟨w.heap.size, 6, none⟩))), (18, some 41, .is (.int .i64 D.left))] 2 (by kernel_rfl) (by kernel_rfl) (by kernel_rfl) (by kernel_rfl) (by kernel_rfl) (L := #[true, true, true, true, true, true, true, true, true, true, true, true, true, true, true, true, true, true, true, false, false]) (by kernel_rfl) ?steps ?fin
      case steps =>
        refine StepsT.cons [] (by simp only [List.getElem?_toArray, List.getElem?_cons_succ, List.getElem?_cons_zero]; rfl) (by kernel_rfl) (by rfl) (fun wx val iv hB hV K hK => ?_) ?_
        · clear hV; simp only [putT, List.foldl_cons, List.foldl_nil, Made.val, Act.put, List.setIfInBounds_toArray, List.set_cons_zero, List.set_cons_succ]; go_simp; exact hK.out _ _ rfl (Below.refl _ _)
        refine StepsT.cons [] (by simp only [List.getElem?_toArray, List.getElem?_cons_succ, List.getElem?_cons_zero]; rfl) (by kernel_rfl) (by rfl) (fun wx val iv hB hV K hK => ?_) ?_
        · clear hV; simp only [putT, List.foldl_cons, List.foldl_nil, Made.val, Act.put, List.setIfInBounds_toArray, List.set_cons_zero, List.set_cons_succ]; go_simp; exact hK.out _ _ rfl (Below.refl _ _)
        refine StepsT.cons [(1, some 24, .is (.pointer (some ⟨w.heap.size, 1, none⟩)))] (by simp only [List.getElem?_toArray, List.getElem?_cons_succ, List.getElem?_cons_zero]; rfl) (by kernel_rfl) (by rfl) (fun wx val iv hB hV K hK => ?_) ?_
        · (obtain ⟨k0, k1, k2, k3, k4, k5, k6⟩ := HC.out wx hB); clear hV; simp only [putT, List.foldl_cons, List.foldl_nil, Made.val, Act.put, List.setIfInBounds_toArray, List.set_cons_zero, List.set_cons_succ]; go_simp; exact hK.out _ _ rfl (Below.refl _ _)
        refine StepsT.cons [] (by simp only [List.getElem?_toArray, List.getElem?_cons_succ, List.getElem?_cons_zero]; rfl) (by kernel_rfl) (by rfl) (fun wx val iv hB hV K hK => ?_) ?_
        · clear hV; simp only [putT, List.foldl_cons, List.foldl_nil, Made.val, Act.put, List.setIfInBounds_toArray, List.set_cons_zero, List.set_cons_succ]; go_simp; exact hK.out _ _ rfl (Below.refl _ _)
        refine StepsT.cons [(3, some 26, .is (.pointer (some ⟨w.heap.size, 2, none⟩)))] (by simp only [List.getElem?_toArray, List.getElem?_cons_succ, List.getElem?_cons_zero]; rfl) (by kernel_rfl) (by rfl) (fun wx val iv hB hV K hK => ?_) ?_
        · (obtain ⟨k0, k1, k2, k3, k4, k5, k6⟩ := HC.out wx hB); clear hV; simp only [putT, List.foldl_cons, List.foldl_nil, Made.val, Act.put, List.setIfInBounds_toArray, List.set_cons_zero, List.set_cons_succ]; go_simp; exact hK.out _ _ rfl (Below.refl _ _)
        refine StepsT.cons [] (by simp only [List.getElem?_toArray, List.getElem?_cons_succ, List.getElem?_cons_zero]; rfl) (by kernel_rfl) (by rfl) (fun wx val iv hB hV K hK => ?_) ?_
        · simp only [putT, List.foldl_cons, List.foldl_nil, Made.val, Act.put, List.setIfInBounds_toArray, List.set_cons_zero, List.set_cons_succ]; go_simp; exact hK.out _ _ ⟨_, rfl⟩ ((Below.refl _ _).alloc (Nat.le_refl _) _)
        refine StepsT.cons [] (by simp only [List.getElem?_toArray, List.getElem?_cons_succ, List.getElem?_cons_zero]; rfl) (by kernel_rfl) (by rfl) (fun wx val iv hB hV K hK => ?_) ?_
        · clear hV; simp only [putT, List.foldl_cons, List.foldl_nil, Made.val, Act.put, List.setIfInBounds_toArray, List.set_cons_zero, List.set_cons_succ]; go_simp; exact hK.out _ _ rfl (Below.refl _ _)
        refine StepsT.cons [(6, some 29, .is (.pointer (some ⟨w.heap.size, 3, none⟩)))] (by simp only [List.getElem?_toArray, List.getElem?_cons_succ, List.getElem?_cons_zero]; rfl) (by kernel_rfl) (by rfl) (fun wx val iv hB hV K hK => ?_) ?_
        · (obtain ⟨k0, k1, k2, k3, k4, k5, k6⟩ := HC.out wx hB); clear hV; simp only [putT, List.foldl_cons, List.foldl_nil, Made.val, Act.put, List.setIfInBounds_toArray, List.set_cons_zero, List.set_cons_succ]; go_simp; exact hK.out _ _ rfl (Below.refl _ _)
        refine StepsT.cons [(5, some 28, .zero), (7, some 30, .is (.slice p3 D.trick.length c3))] (by simp only [List.getElem?_toArray, List.getElem?_cons_succ, List.getElem?_cons_zero]; rfl) (by kernel_rfl) (by rfl) (fun wx val iv hB hV K hK => ?_) ?_
        · (obtain ⟨g, hg⟩ := hV (5, some 28, .zero) (by simp); obtain ⟨v', w', hrun, ho, hb⟩ := append_copy (g := g) (H3.out wx hB).1 (H3.out wx hB).2 23; simp only at hg; simp only [putT, List.foldl_cons, List.foldl_nil, Made.val, Act.put, List.setIfInBounds_toArray, List.set_cons_zero, List.set_cons_succ]; rw [if_pos (by rfl)]; refine Lib.wp_append_run _ (.tmp 28) (.tmp 30) 23 23 (by rfl) (val 5) (.slice p3 D.trick.length c3) (by rfl) (by rfl) v' w' (by rw [hg]; exact hrun) ?_; exact hK.out _ _ ho hb)
        refine StepsT.cons [] (by simp only [List.getElem?_toArray, List.getElem?_cons_succ, List.getElem?_cons_zero]; rfl) (by kernel_rfl) (by rfl) (fun wx val iv hB hV K hK => ?_) ?_
        · simp only [putT, List.foldl_cons, List.foldl_nil, Made.val, Act.put, List.setIfInBounds_toArray, List.set_cons_zero, List.set_cons_succ]; go_simp; exact hK.out _ _ ⟨_, rfl⟩ ((Below.refl _ _).alloc (Nat.le_refl _) _)
        refine StepsT.cons [] (by simp only [List.getElem?_toArray, List.getElem?_cons_succ, List.getElem?_cons_zero]; rfl) (by kernel_rfl) (by rfl) (fun wx val iv hB hV K hK => ?_) ?_
        · clear hV; simp only [putT, List.foldl_cons, List.foldl_nil, Made.val, Act.put, List.setIfInBounds_toArray, List.set_cons_zero, List.set_cons_succ]; go_simp; exact hK.out _ _ rfl (Below.refl _ _)
        refine StepsT.cons [(10, some 33, .is (.pointer (some ⟨w.heap.size, 4, none⟩)))] (by simp only [List.getElem?_toArray, List.getElem?_cons_succ, List.getElem?_cons_zero]; rfl) (by kernel_rfl) (by rfl) (fun wx val iv hB hV K hK => ?_) ?_
        · (obtain ⟨k0, k1, k2, k3, k4, k5, k6⟩ := HC.out wx hB); clear hV; simp only [putT, List.foldl_cons, List.foldl_nil, Made.val, Act.put, List.setIfInBounds_toArray, List.set_cons_zero, List.set_cons_succ]; go_simp; exact hK.out _ _ rfl (Below.refl _ _)
        refine StepsT.cons [(8, some 31, .ints D.trick), (9, some 32, .zero), (11, some 34, .is (.slice p4 D.won.length c4))] (by simp only [List.getElem?_toArray, List.getElem?_cons_succ, List.getElem?_cons_zero]; rfl) (by kernel_rfl) (by rfl) (fun wx val iv hB hV K hK => ?_) ?_
        · (obtain ⟨g, hg⟩ := hV (9, some 32, .zero) (by simp); obtain ⟨v', w', hrun, ho, hb⟩ := append_copy (g := g) (H4.out wx hB).1 (H4.out wx hB).2 23; simp only at hg; simp only [putT, List.foldl_cons, List.foldl_nil, Made.val, Act.put, List.setIfInBounds_toArray, List.set_cons_zero, List.set_cons_succ]; rw [if_pos (by rfl)]; refine Lib.wp_append_run _ (.tmp 32) (.tmp 34) 23 23 (by rfl) (val 9) (.slice p4 D.won.length c4) (by rfl) (by rfl) v' w' (by rw [hg]; exact hrun) ?_; exact hK.out _ _ ho hb)
        refine StepsT.cons [] (by simp only [List.getElem?_toArray, List.getElem?_cons_succ, List.getElem?_cons_zero]; rfl) (by kernel_rfl) (by rfl) (fun wx val iv hB hV K hK => ?_) ?_
        · simp only [putT, List.foldl_cons, List.foldl_nil, Made.val, Act.put, List.setIfInBounds_toArray, List.set_cons_zero, List.set_cons_succ]; go_simp; exact hK.out _ _ ⟨_, rfl⟩ ((Below.refl _ _).alloc (Nat.le_refl _) _)
        refine StepsT.cons [] (by simp only [List.getElem?_toArray, List.getElem?_cons_succ, List.getElem?_cons_zero]; rfl) (by kernel_rfl) (by rfl) (fun wx val iv hB hV K hK => ?_) ?_
        · clear hV; simp only [putT, List.foldl_cons, List.foldl_nil, Made.val, Act.put, List.setIfInBounds_toArray, List.set_cons_zero, List.set_cons_succ]; go_simp; exact hK.out _ _ rfl (Below.refl _ _)
        refine StepsT.cons [(14, some 37, .is (.pointer (some ⟨w.heap.size, 5, none⟩)))] (by simp only [List.getElem?_toArray, List.getElem?_cons_succ, List.getElem?_cons_zero]; rfl) (by kernel_rfl) (by rfl) (fun wx val iv hB hV K hK => ?_) ?_
        · (obtain ⟨k0, k1, k2, k3, k4, k5, k6⟩ := HC.out wx hB); clear hV; simp only [putT, List.foldl_cons, List.foldl_nil, Made.val, Act.put, List.setIfInBounds_toArray, List.set_cons_zero, List.set_cons_succ]; go_simp; exact hK.out _ _ rfl (Below.refl _ _)
        refine StepsT.cons [(12, some 35, .ints D.won), (13, some 36, .zero), (15, some 38, .is (.slice p5 D.points.length c5))] (by simp only [List.getElem?_toArray, List.getElem?_cons_succ, List.getElem?_cons_zero]; rfl) (by kernel_rfl) (by rfl) (fun wx val iv hB hV K hK => ?_) ?_
        · (obtain ⟨g, hg⟩ := hV (13, some 36, .zero) (by simp); obtain ⟨v', w', hrun, ho, hb⟩ := append_copy (g := g) (H5.out wx hB).1 (H5.out wx hB).2 23; simp only at hg; simp only [putT, List.foldl_cons, List.foldl_nil, Made.val, Act.put, List.setIfInBounds_toArray, List.set_cons_zero, List.set_cons_succ]; rw [if_pos (by rfl)]; refine Lib.wp_append_run _ (.tmp 36) (.tmp 38) 23 23 (by rfl) (val 13) (.slice p5 D.points.length c5) (by rfl) (by rfl) v' w' (by rw [hg]; exact hrun) ?_; exact hK.out _ _ ho hb)
        refine StepsT.cons [] (by simp only [List.getElem?_toArray, List.getElem?_cons_succ, List.getElem?_cons_zero]; rfl) (by kernel_rfl) (by rfl) (fun wx val iv hB hV K hK => ?_) ?_
        · clear hV; simp only [putT, List.foldl_cons, List.foldl_nil, Made.val, Act.put, List.setIfInBounds_toArray, List.set_cons_zero, List.set_cons_succ]; go_simp; exact hK.out _ _ rfl (Below.refl _ _)
        refine StepsT.cons [(17, some 40, .is (.pointer (some ⟨w.heap.size, 6, none⟩)))] (by simp only [List.getElem?_toArray, List.getElem?_cons_succ, List.getElem?_cons_zero]; rfl) (by kernel_rfl) (by rfl) (fun wx val iv hB hV K hK => ?_) ?_
        · (obtain ⟨k0, k1, k2, k3, k4, k5, k6⟩ := HC.out wx hB); clear hV; simp only [putT, List.foldl_cons, List.foldl_nil, Made.val, Act.put, List.setIfInBounds_toArray, List.set_cons_zero, List.set_cons_succ]; go_simp; exact hK.out _ _ rfl (Below.refl _ _)
        exact StepsT.nil
      case fin =>
        intro wx val iv BX hV hD
        obtain ⟨hsz, Bx, wf0, wf1, wf2⟩ := HS.out
        obtain ⟨hv3, l3, u3⟩ := hV (8, some 31, .ints D.trick) (by simp)
        obtain ⟨hv4, l4, u4⟩ := hV (12, some 35, .ints D.won) (by simp)
        obtain ⟨hv5, l5, u5⟩ := hV (16, some 39, .ints D.points) (by simp)
        have x4 := hD 8 (by simp) 12 (by simp) (by decide)
        have x5 := hD 8 (by simp) 16 (by simp) (by decide)
        have x6 := hD 12 (by simp) 16 (by simp) (by decide)
        obtain ⟨q3, d3, e3⟩ := OwnI.shape hv3
        obtain ⟨q4, d4, e4⟩ := OwnI.shape hv4
        obtain ⟨q5, d5, e5⟩ := OwnI.shape hv5
        (try dsimp only at e3 e4 e5)
        dsimp only [Made.means] at hv3 hv4 hv5
        dsimp only at l3 u3 l4 u4 l5 u5
        rw [e3] at hv3
        rw [e4] at hv4
        rw [e5] at hv5
        have g1 := HRw.out wx (HB.out.trans (BX.mono HB.out.size))
        have hwr := HB.out.size
        have hxs := BX.size
        have HX := Lib.hid (deal_laid (lo := w.heap.size) (r := w.heap.size + 1) (ho.out.below BX) hv3 hv4 hv5 ⟨by omega, by omega⟩ ⟨by omega, u3⟩ ⟨by omega, u4⟩ ⟨by omega, u5⟩ (by omega) (by omega) (by omega) x4 x5 x6 wf0 wf1 wf2 (by omega) (by omega) (by omega) (by omega) (by omega) g1 (Bx wx (HB.out.trans (BX.mono HB.out.size))))
        clear hV hD hv3 hv4 hv5 x4 x5 x6 l3 u3 l4 u4 l5 u5 hsz Bx wf0 wf1 wf2 hwr hxs ho
        simp only [putT, List.foldl_cons, List.foldl_nil, Made.val, Act.put, List.setIfInBounds_toArray, List.set_cons_zero, List.set_cons_succ]
        rw [e3, e4, e5]
        clear e3 e4 e5
        refine wpAny_one (i := 19) (by kernel_rfl) (by simp only [List.getElem?_toArray, List.getElem?_cons_succ, List.getElem?_cons_zero]; rfl) (fun K hK => ?_)
        go_simp
        refine hK.out _ _ ?_
        clear hK K
        refine wpAny_one (i := 20) (by kernel_rfl) (by simp only [List.getElem?_toArray, List.getElem?_cons_succ, List.getElem?_cons_zero]; rfl) (fun K hK => ?_)
        rw [if_pos (by rfl)]
        refine wp_store_row 31 (.tmp 2) (.tmp 42) (by rfl) (w.heap.size + 1) #[.slice ph D.hands.length ch, .int .i64 D.leader, .int .i64 D.trump, .slice q3 D.trick.length d3, .slice q4 D.won.length d4, .slice q5 D.points.length d5, .int .i64 D.left] (by rfl) (by rfl) 31 _ g1 (by kernel_rfl) (by rfl) (by simp [Value.oneCell']) (hK.out _ _ ?_)
        refine wpAny_end (by kernel_rfl) ?_
        clear hK K
        go_wp2_with fail
        refine bodyPost_ret (results_cell_row rfl _ _ (w.heap.size + 1) _ _ _ _ rfl HX.out.1 Tryd.underlying31 rfl (by kernel_rfl)) rfl ?_
        exact ⟨_, rfl, HX.out.2.1, HX.out.2.2⟩
end Go.Proofs.YtbojhbhniollaaaDoor
