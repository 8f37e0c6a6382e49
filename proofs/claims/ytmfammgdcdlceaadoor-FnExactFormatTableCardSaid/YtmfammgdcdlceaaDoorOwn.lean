/-
  Slices and slices of slices that a call owns, block by block: rows may grow and be replaced.
-/
import Derived.Test.YtmfammgdcdlceaaDoorFrX
import Derived.Test.YtmfammgdcdlceaaDoorCopyI
import Derived.Maps.AppendAt
import Derived.ArgAppend
namespace Go.Proofs.YtmfammgdcdlceaaDoor
open Go.RowKit
set_option linter.unusedVariables false
set_option linter.unusedSimpArgs false

theorem ownSame {w w' : World} {B : Nat} {E : TypeId} {size n : Nat} {v : Value} {xs : List Value} (h : w.ownsRow B E size v n xs) (hk : ∀ q, v.ownBlock = some q → w'.heap[q]? = w.heap[q]?) : w'.ownsRow B E size v n xs := by
  obtain ⟨hl, h⟩ := h
  refine ⟨hl, h.imp id ?_⟩
  rintro ⟨g', cap', cur, e', hg, hh, r⟩
  refine ⟨g', cap', cur, e', hg, ?_, r⟩
  rw [hk g' (by rw [e']; rfl)]; exact hh
theorem own_lt {w : World} {B : Nat} {E : TypeId} {size n : Nat} {v : Value} {xs : List Value} (h : w.ownsRow B E size v n xs) {g : Nat} (hg : v.ownBlock = some g) : g < w.heap.size := by
  rcases h.2 with ⟨e, -⟩ | ⟨g', cap', cur, e', -, hh, -⟩
  · rw [e] at hg; cases hg
  · rw [e'] at hg
    obtain rfl : g' = g := Option.some.inj hg
    exact (Array.getElem?_eq_some_iff.1 hh).1
theorem own_to0 {w : World} {B : Nat} {E : TypeId} {size n : Nat} {v : Value} {xs : List Value} (h : w.ownsRow B E size v n xs) : w.ownsRow 0 E size v n xs := by
  obtain ⟨hl, h⟩ := h
  refine ⟨hl, h.imp id ?_⟩
  rintro ⟨g', cap', cur, e', hg, r⟩
  exact ⟨g', cap', cur, e', Nat.zero_le _, r⟩
theorem own_toB {w : World} {B : Nat} {E : TypeId} {size n : Nat} {v : Value} {xs : List Value} (h : w.ownsRow 0 E size v n xs) (hb : ∀ g, v.ownBlock = some g → B ≤ g) : w.ownsRow B E size v n xs := by
  obtain ⟨hl, h⟩ := h
  refine ⟨hl, h.imp id ?_⟩
  rintro ⟨g', cap', cur, e', hg, r⟩
  exact ⟨g', cap', cur, e', hb _ (by rw [e']; rfl), r⟩
theorem one_cells' (l : List Int) : ∀ u ∈ l.map (Value.int .i64), u.oneCell' = true := by
  intro u hu
  simp at hu
  obtain ⟨y, _, rfl⟩ := hu
  rfl
/-- The block that a slice with room holds. -/
def _root_.Go.Value.held : Value → Option Nat
  | .slice (some a) _ (_ + 1) => some a.block
  | _ => none
/-- A slice of the call's own, its block out of S; one without spare room need not fill its block. -/
def OwnI (S : Nat → Prop) (w : World) (v : Value) (zs : List Int) : Prop :=
  (∀ x ∈ zs, (Lit.int .i64 x).wf = true) ∧ ((∃ p b, v = .slice p zs.length zs.length ∧ WrAt .i64 w v zs b ∧ (zs ≠ [] → S b)) ∨ ∃ g cap, v = .slice (some ⟨g, 0, none⟩) zs.length (cap + 1) ∧ w.ownsRow 0 3 1 v zs.length (zs.map (Value.int .i64)) ∧ S g)
theorem full_held {w : World} {v : Value} {zs : List Int} {p : Option Addr} {b : Nat} (e : v = .slice p zs.length zs.length) (h : WrAt .i64 w v zs b) : (zs = [] ∧ v.held = none) ∨ (zs ≠ [] ∧ v.held = some b) := by
  by_cases hz : zs = []
  · subst hz; refine .inl ⟨rfl, ?_⟩; rw [e]; cases p <;> rfl
  · obtain ⟨a, c, e2, -, -, h4⟩ := h
    rcases h4 with h4 | ⟨off, ha, -⟩
    · exact absurd h4 hz
    · refine .inr ⟨hz, ?_⟩
      obtain ⟨n, hn⟩ : ∃ n, zs.length = n + 1 := ⟨zs.length - 1, by have := List.length_pos_iff.2 hz; omega⟩
      rw [e] at e2
      have := (Value.slice.inj e2).1
      rw [e, this, ha, hn]; rfl
theorem OwnI.held {S : Nat → Prop} {w : World} {v : Value} {zs : List Int} (h : OwnI S w v zs) {g : Nat} (hg : v.held = some g) : S g ∧ g < w.heap.size := by
  rcases h.2 with ⟨p, b, e, hw, hs⟩ | ⟨g', cap, e, ho, hs⟩
  · rcases full_held e hw with ⟨-, h2⟩ | ⟨hz, h2⟩
    · rw [h2] at hg; cases hg
    · rw [h2] at hg
      obtain rfl : b = g := Option.some.inj hg
      exact ⟨hs hz, hw.rd.lt hz⟩
  · have hl := own_lt ho (g := g') (by rw [e]; rfl)
    rw [e] at hg
    obtain rfl : g' = g := Option.some.inj hg
    exact ⟨hs, hl⟩
theorem OwnI.keep {S T : Nat → Prop} {w w' : World} {v : Value} {zs : List Int} (h : OwnI S w v zs) (hk : ∀ g, v.held = some g → w'.heap[g]? = w.heap[g]?) (hs : ∀ g, v.held = some g → S g → g < w.heap.size → T g) : OwnI T w' v zs := by
  refine ⟨h.1, h.2.imp ?_ ?_⟩
  · rintro ⟨p, b, e, hw, hS⟩
    have hh : zs ≠ [] → v.held = some b := fun hz => by
      rcases full_held e hw with ⟨h2, -⟩ | ⟨-, h2⟩
      · exact absurd h2 hz
      · exact h2
    exact ⟨p, b, e, hw.keep (fun hz => hk b (hh hz)), fun hz => hs b (hh hz) (hS hz) (hw.rd.lt hz)⟩
  · rintro ⟨g, cap, e, ho, hS⟩
    have hh : v.held = some g := by rw [e]; rfl
    exact ⟨g, cap, e, ownSame ho (fun q hq => by
      have : g = q := by rw [e] at hq; exact Option.some.inj hq
      exact this ▸ hk g hh), hs g hh hS (own_lt ho (by rw [e]; rfl))⟩
theorem OwnI.touch {S T : Nat → Prop} {w w' : World} {v : Value} {zs : List Int} (h : OwnI S w v zs) (t : Touch T w w') (hd : ∀ b, S b → ¬ T b) : OwnI S w' v zs :=
  h.keep (fun g hg => t.block g (h.held hg).2 (hd g (h.held hg).1)) (fun _ _ hS _ => hS)
theorem OwnI.below {S : Nat → Prop} {w w' : World} {v : Value} {zs : List Int} (h : OwnI S w v zs) (b : Below w.heap.size w w') : OwnI S w' v zs := h.touch (Below.touch (S := fun _ => False) b) (fun _ _ hx => hx)
theorem OwnI.mono {S T : Nat → Prop} {w : World} {v : Value} {zs : List Int} (h : OwnI S w v zs) (hs : ∀ b, S b → b < w.heap.size → T b) : OwnI T w v zs :=
  h.keep (fun _ _ => rfl) (fun g _ hS hl => hs g hS hl)
theorem OwnI.nil (S : Nat → Prop) (w : World) (p : Option Addr) : OwnI S w (.slice p 0 0) [] := by
  refine ⟨(by simp), .inl ⟨p, 0, rfl, ?_, fun h => absurd rfl h⟩⟩
  cases p with
  | none => exact WrAt.nil .i64 w none 0 0 ⟨by unfold maxLen; omega, fun _ => rfl⟩
  | some p => exact WrAt.nil .i64 w (some p) 0 0 ⟨by unfold maxLen; omega, fun h => by cases h⟩
theorem OwnI.full {S : Nat → Prop} {w : World} {v : Value} {zs : List Int} {p : Option Addr} {b : Nat} (e : v = .slice p zs.length zs.length) (h : WrAt .i64 w v zs b) (hs : zs ≠ [] → S b) : OwnI S w v zs := ⟨h.rd.wf, .inl ⟨p, b, e, h, hs⟩⟩
theorem OwnI.ofS {S : Nat → Prop} {B : Nat} {w : World} {v : Value} {zs : List Int} (h : w.ownsRow B 3 1 v zs.length (zs.map (Value.int .i64))) (hw : ∀ x ∈ zs, (Lit.int .i64 x).wf = true) (hS : ∀ g, v.ownBlock = some g → B ≤ g → g < w.heap.size → S g) : OwnI S w v zs := by
  have h' := own_to0 h
  rcases h.2 with ⟨e, hn⟩ | ⟨g, cap, cur, e, hg, hh, hnc, hcm, hcs, htake⟩
  · have hz := List.length_eq_zero_iff.1 hn
    subst hz e; exact OwnI.nil _ _ _
  · cases cap with
    | zero =>
      have hz : zs = [] := List.length_eq_zero_iff.1 (by omega)
      subst hz e; exact OwnI.nil _ _ _
    | succ cap => exact ⟨hw, .inr ⟨g, cap, e, h', hS g (by rw [e]; rfl) hg (Array.getElem?_eq_some_iff.1 hh).1⟩⟩
theorem OwnI.of {B : Nat} {w : World} {v : Value} {zs : List Int} (h : w.ownsRow B 3 1 v zs.length (zs.map (Value.int .i64))) (hw : ∀ x ∈ zs, (Lit.int .i64 x).wf = true) : OwnI (In B w.heap.size) w v zs :=
  OwnI.ofS h hw (fun g _ h1 h2 => ⟨h1, h2⟩)
theorem OwnI.shape {S : Nat → Prop} {w : World} {v : Value} {zs : List Int} (h : OwnI S w v zs) : ∃ p c, v = .slice p zs.length c := by
  rcases h.2 with ⟨p, b, e, -⟩ | ⟨g, cap, e, -⟩
  · exact ⟨p, _, e⟩
  · exact ⟨_, _, e⟩
theorem OwnI.wr {S : Nat → Prop} {w : World} {v : Value} {zs : List Int} (h : OwnI S w v zs) : WrIn .i64 S w v zs := by
  rcases h.2 with ⟨p, b, e, hw, hs⟩ | ⟨g, cap, e, ho, hS⟩
  · exact ⟨b, hw, hs⟩
  · obtain ⟨b, -, hb⟩ := own_wr ho h.1
    refine ⟨b, hb, fun hz => ?_⟩
    obtain ⟨p, c, e', -, -, h4⟩ := hb
    rcases h4 with h4 | ⟨off, hp, -⟩
    · exact absurd h4 hz
    · rw [e, hp] at e'
      have := (Value.slice.inj e').1
      have : g = b := by simpa using congrArg (fun o => o.map (·.block)) this
      exact this ▸ hS
theorem below_grown' {w w' : World} (b : w.grownBy w' none) (row : Option Nat) : w.grownBy w' row := ⟨b.os, b.tape, b.output, b.size, fun k hk _ => b.block k hk (by simp)⟩
/-- A slice of one's own, grown by what lies elsewhere. -/
theorem OwnI.append {S : Nat → Prop} {w : World} {v : Value} {zs ys : List Int} (h : OwnI S w v zs) (a : Addr) (c : Nat) (hys : ys ≠ []) (hc : ∀ j (hj : j < ys.length), w.cell? (a.add j) = some (.int .i64 ys[j])) (hw : ∀ x ∈ ys, (Lit.int .i64 x).wf = true) (hl : zs.length + ys.length ≤ 2097152) (ty : TypeId) :
    ∃ v' w', (Builtin.append_ #[30, 30] ty #[v, .slice (some a) ys.length c]).run Tryd.prog w = .ok v' w' ∧ OwnI (fun b => v.held = some b ∨ (w.heap.size ≤ b ∧ b < w'.heap.size)) w' v' (zs ++ ys) ∧ w.grownBy w' v.held := by
  obtain ⟨i0, hi, hz0, hz1, hz2⟩ := info_parts info_i64
  have hws : ∀ x ∈ zs ++ ys, (Lit.int .i64 x).wf = true := fun x hx => (List.mem_append.1 hx).elim (h.1 x) (hw x)
  have hnews : ∀ j u, (ys.map (Value.int .i64))[j]? = some u → w.cell? (a.add j) = some u := fun j u hu => by
    have hj : j < ys.length := by have := (List.getElem?_eq_some_iff.1 hu).1; simpa using this
    rw [hc j hj]; simpa [hj] using hu
  have hlen : 0 < ys.length := List.length_pos_iff.2 hys
  rcases h.2 with ⟨p, b, e, hwr, hs⟩ | ⟨g, cap, e, ho, hS⟩
  · by_cases hz : zs = []
    · subst hz e
      cases p with
      | none =>
        have hown0 : w.ownsRow w.heap.size 3 1 (.slice none 0 0) 0 [] := ⟨rfl, .inl ⟨rfl, rfl⟩⟩
        obtain ⟨v', w', hrun, hown, hgr, -, -⟩ := run_append_own_at (P := Tryd.prog) w w.heap.size 30 ty 3 i0 (.int .i64 0) 1 8 Tryd.underlying30 hi hz0 hz1 hz2 rfl (by decide) _ _ _ hown0 a ys.length c (ys.map (Value.int .i64)) (by simp) hnews (one_cells' ys) (by unfold maxLen; omega) (by omega) (Nat.le_refl _)
        exact ⟨v', w', hrun, OwnI.ofS (zs := ys) (by simpa using hown) (by simpa using hws) (fun g _ h1 h2 => .inr ⟨h1, h2⟩), hgr⟩
      | some p =>
        obtain ⟨v', w', hrun, hown, hgr⟩ := run_append_arg_grows (P := Tryd.prog) w 30 ty 3 i0 (.int .i64 0) 1 8 Tryd.underlying30 hi hz0 hz1 hz2 rfl (by decide) p 0 0 [] rfl (by intro j u hu; simp at hu) a ys.length c (ys.map (Value.int .i64)) (by simp) hnews (by omega) (by unfold maxLen; omega) (by omega)
        exact ⟨v', w', hrun, OwnI.ofS (zs := ys) (by simpa using hown) (by simpa using hws) (fun g _ h1 h2 => .inr ⟨h1, h2⟩), hgr⟩
    · obtain ⟨q, cc, e2, hcap, -, h4⟩ := id hwr
      rcases h4 with h4 | ⟨off, hq, hcell, -⟩
      · exact absurd h4 hz
      · rw [e] at e2
        have e3 := (Value.slice.inj e2).1
        subst hq
        rw [e3] at e
        obtain ⟨v', w', hrun, hown, hgr⟩ := run_append_arg_grows (P := Tryd.prog) w 30 ty 3 i0 (.int .i64 0) 1 8 Tryd.underlying30 hi hz0 hz1 hz2 rfl (by decide) ⟨b, off, none⟩ zs.length zs.length (zs.map (Value.int .i64)) (by simp) (fun j u hu => by
          have hj : j < zs.length := by have := (List.getElem?_eq_some_iff.1 hu).1; simpa using this
          have e2 : (⟨b, off, none⟩ : Addr).add j = ⟨b, off + j, none⟩ := by simp [Addr.add]
          rw [e2, hcell j hj]
          simpa [hj] using hu) a ys.length c (ys.map (Value.int .i64)) (by simp) hnews (by omega) (by unfold maxLen; omega) (by omega)
        rw [e]
        exact ⟨v', w', hrun, OwnI.ofS (zs := zs ++ ys) (by simpa using hown) hws (fun g _ h1 h2 => .inr ⟨h1, h2⟩), below_grown' hgr _⟩
  · obtain ⟨v', w', hrun, hown, hgr, -, hat⟩ := run_append_own_at (P := Tryd.prog) w 0 30 ty 3 i0 (.int .i64 0) 1 8 Tryd.underlying30 hi hz0 hz1 hz2 rfl (by decide) _ _ _ ho a ys.length c (ys.map (Value.int .i64)) (by simp) hnews (one_cells' ys) (by unfold maxLen; omega) (by omega) (Nat.zero_le _)
    have hbk : v.ownBlock = v.held := by rw [e]; rfl
    refine ⟨v', w', hrun, OwnI.ofS (zs := zs ++ ys) (by simpa using hown) hws (fun g' h1 _ h2 => ?_), by rw [← hbk]; exact hgr⟩
    rcases hat with h | h
    · exact .inl (by rw [← hbk, ← h]; exact h1)
    · rw [h1] at h
      have := Option.some.inj h
      exact .inr ⟨by omega, h2⟩
/-- Slices of slices of the call's own: the heads' block, and one for each row, all out of S, all apart. -/
def OwnR (S : Nat → Prop) (w : World) (v : Value) (zss : List (List Int)) : Prop :=
  ∃ xs : List Value, w.ownsRow 0 30 1 v zss.length xs ∧ (∀ g, v.ownBlock = some g → S g) ∧ (∀ j (hj : j < zss.length), ∃ r, xs[j]? = some r ∧ OwnI (fun b => S b ∧ v.ownBlock ≠ some b) w r zss[j]) ∧
    (∀ (i j : Nat) (ri rj : Value), i ≠ j → xs[i]? = some ri → xs[j]? = some rj → ∀ g, ri.held = some g → rj.held ≠ some g)
theorem OwnR.touch {S T : Nat → Prop} {w w' : World} {v : Value} {zss : List (List Int)} (h : OwnR S w v zss) (t : Touch T w w') (hd : ∀ b, S b → ¬ T b) : OwnR S w' v zss := by
  obtain ⟨xs, h1, h2, h3, h4⟩ := h
  refine ⟨xs, ownSame h1 (fun q hq => t.block q (own_lt h1 hq) (hd q (h2 q hq))), h2, fun j hj => ?_, h4⟩
  obtain ⟨r, a1, a2⟩ := h3 j hj
  exact ⟨r, a1, a2.touch t (fun b hb => hd b hb.1)⟩
theorem OwnR.below {S : Nat → Prop} {w w' : World} {v : Value} {zss : List (List Int)} (h : OwnR S w v zss) (b : Below w.heap.size w w') : OwnR S w' v zss := h.touch (Below.touch (S := fun _ => False) b) (fun _ _ hx => hx)
theorem OwnR.mono {S T : Nat → Prop} {w : World} {v : Value} {zss : List (List Int)} (h : OwnR S w v zss) (hs : ∀ b, S b → b < w.heap.size → T b) : OwnR T w v zss := by
  obtain ⟨xs, h1, h2, h3, h4⟩ := h
  refine ⟨xs, h1, fun g hg => hs g (h2 g hg) (own_lt h1 hg), fun j hj => ?_, h4⟩
  obtain ⟨r, a1, a2⟩ := h3 j hj
  exact ⟨r, a1, a2.mono (fun b hb hl => ⟨hs b hb.1 hl, hb.2⟩)⟩
theorem OwnR.shape {S : Nat → Prop} {w : World} {v : Value} {zss : List (List Int)} (h : OwnR S w v zss) : ∃ p c, v = .slice p zss.length c := by
  obtain ⟨xs, h1, -⟩ := h; exact own_shape h1
theorem WrIn.at {k : IntKind} {S : Nat → Prop} {w : World} {r : Value} {zs : List Int} (h : WrIn k S w r zs) : ∃ b, WrAt k w r zs b ∧ (zs ≠ [] → S b ∧ r.held = some b) := by
  obtain ⟨b, hb, hs⟩ := h
  refine ⟨b, hb, fun hz => ⟨hs hz, ?_⟩⟩
  obtain ⟨p, c, e, hc, -, hq⟩ := hb
  rcases hq with hq | ⟨off, hp, -⟩
  · exact absurd hq hz
  · have := List.length_pos_iff.2 hz
    obtain ⟨c, rfl⟩ : ∃ d, c = d + 1 := ⟨c - 1, by omega⟩
    rw [e, hp]; rfl
theorem OwnR.ss {S : Nat → Prop} {w : World} {v : Value} {zss : List (List Int)} (h : OwnR S w v zss) : WrSS .i64 S w v zss := by
  obtain ⟨xs, h1, h2, h3, h4⟩ := h
  have h1' := h1
  obtain ⟨h0, h⟩ := h1
  rcases h with ⟨e, hn⟩ | ⟨g, cap, cur, e, hg, hh, hnc, hcm, hcs, htake⟩
  · have : zss = [] := List.length_eq_zero_iff.1 hn
    subst this
    exact ⟨none, 0, e, ⟨Nat.le_refl _, Nat.zero_le _, fun _ => rfl⟩, .inl rfl⟩
  · subst e
    have hx : ∀ {j : Nat} {r : Value}, xs[j]? = some r → xs.getD j undef = r := fun {j r} h => by simp [List.getD, h]
    refine ⟨_, cap, rfl, ⟨hnc, hcm, fun e => by cases e⟩, .inr ⟨g, 0, fun j => ((xs.getD j undef).held).getD 0, rfl, h2 g rfl, fun j hj => ?_, fun i j hi hj hij hzi hzj => ?_⟩⟩
    · obtain ⟨r, a1, a2⟩ := h3 j hj
      obtain ⟨b, hb, hs⟩ := a2.wr.at
      refine ⟨r, by rw [Nat.zero_add, h1'.cellAt j (by omega)]; exact a1, ?_, fun hz => ?_⟩
      · by_cases hz : zss[j] = []
        · rw [hz] at hb ⊢; exact hb.anyNil _
        · show WrAt .i64 w r zss[j] (((xs.getD j undef).held).getD 0)
          rw [hx a1, (hs hz).2]; exact hb
      · show S (((xs.getD j undef).held).getD 0) ∧ ((xs.getD j undef).held).getD 0 ≠ g
        rw [hx a1, (hs hz).2]
        exact ⟨(hs hz).1.1, fun e => (hs hz).1.2 (by rw [← e]; rfl)⟩
    · obtain ⟨ri, a1, a2⟩ := h3 i hi
      obtain ⟨rj, c1, c2⟩ := h3 j hj
      obtain ⟨bi, -, ei⟩ := a2.wr.at
      obtain ⟨bj, -, ej⟩ := c2.wr.at
      show ((xs.getD i undef).held).getD 0 ≠ ((xs.getD j undef).held).getD 0
      rw [hx a1, hx c1, (ei hzi).2, (ej hzj).2]
      intro e
      exact h4 i j ri rj hij a1 c1 bi (ei hzi).2 (by rw [(ej hzj).2]; exact congrArg some e.symm)
theorem OwnR.empty (w : World) : OwnR (In w.heap.size (w.alloc (.cells #[] 30)).heap.size) (w.alloc (.cells #[] 30)) (.slice (some ⟨w.heap.size, 0, none⟩) 0 0) [] := by
  have hown0 := World.ownsRow_lit (base := w.heap.size) (e := 30) (size := 1) w #[] 0 (Nat.le_refl _) (Nat.zero_le _) rfl
  exact ⟨[], own_to0 hown0, fun g hg => ⟨own_block hown0 g hg, own_lt hown0 hg⟩, fun j hj => by simp at hj, fun i j ri rj _ h => by simp at h⟩
/-- Row j, as it lies. -/
theorem OwnR.row {S : Nat → Prop} {w : World} {v : Value} {zss : List (List Int)} (h : OwnR S w v zss) {j : Nat} (hj : j < zss.length) :
    ∃ hb cap r, v = .slice (some ⟨hb, 0, none⟩) zss.length cap ∧ S hb ∧ hb < w.heap.size ∧ w.cell? ⟨hb, j, none⟩ = some r ∧ w.frozen? ⟨hb, j, none⟩ = false ∧ OwnI (fun b => S b ∧ b ≠ hb) w r zss[j] := by
  obtain ⟨xs, h1, h2, h3, h4⟩ := h
  have h1' := h1
  obtain ⟨h0, h⟩ := h1
  rcases h with ⟨e, hn⟩ | ⟨g, cap, cur, e, hg, hh, hnc, hcm, hcs, htake⟩
  · omega
  · subst e
    obtain ⟨r, a1, a2⟩ := h3 j hj
    exact ⟨g, cap, r, rfl, h2 g rfl, own_lt h1' rfl, by rw [h1'.cellAt j (by omega)]; exact a1, h1'.frozenAt j, a2.mono (fun b hb _ => ⟨hb.1, fun e => hb.2 (by rw [e]; rfl)⟩)⟩
theorem ownsRow_set {w : World} {B g n cap : Nat} {E : TypeId} {xs : List Value} (h : w.ownsRow B E 1 (.slice (some ⟨g, 0, none⟩) n cap) n xs) (j : Nat) (hj : j < n) (r : Value) : (w.setCell ⟨g, j, none⟩ r).ownsRow B E 1 (.slice (some ⟨g, 0, none⟩) n cap) n (xs.set j r) := by
  obtain ⟨hl, h⟩ := h
  rcases h with ⟨e, -⟩ | ⟨g', cap', cur, e', hg, hh, hnc, hcm, hcs, htake⟩
  · cases e
  · have e1 := Value.slice.inj e'
    obtain rfl : g = g' := by have := e1.1; simpa using this
    obtain rfl : cap = cap' := e1.2.2
    refine ⟨by simpa using hl, .inr ⟨g, cap, cur.setIfInBounds j r, rfl, hg, ?_, hnc, hcm, by simpa using hcs, ?_⟩⟩
    · simp [World.setCell, Array.getElem?_modify, hh]
    · rw [Array.toList_setIfInBounds, List.take_set, htake]
/-- Row j is replaced: by one that lies in its own block or in a fresh one. -/
theorem OwnR.put {S : Nat → Prop} {w w1 : World} {v r r' : Value} {zss : List (List Int)} {zs' : List Int} {j hb cap : Nat} (h : OwnR S w v zss) (hj : j < zss.length) (hv : v = .slice (some ⟨hb, 0, none⟩) zss.length cap) (hr : w.cell? ⟨hb, j, none⟩ = some r)
    (hg : w.grownBy w1 r.held) (ho : OwnI (fun b => r.held = some b ∨ (w.heap.size ≤ b ∧ b < w1.heap.size)) w1 r' zs') :
    OwnR (fun b => S b ∨ (w.heap.size ≤ b ∧ b < w1.heap.size)) (w1.setCell ⟨hb, j, none⟩ r') v (zss.set j zs') := by
  subst hv
  obtain ⟨xs, h1, h2, h3, h4⟩ := h
  have hx : xs[j]? = some r := by rw [← h1.cellAt j (by omega)]; exact hr
  obtain ⟨r0, a1, a2⟩ := h3 j hj
  obtain rfl : r0 = r := Option.some.inj (a1.symm.trans hx)
  have hbl : hb < w.heap.size := own_lt h1 rfl
  have hne : ∀ g, r0.held = some g → g ≠ hb := fun g hg e => (a2.held hg).1.2 (by rw [e]; rfl)
  have hkeep : ∀ q, q < w.heap.size → r0.held ≠ some q → w1.heap[q]? = w.heap[q]? := fun q hq hn => hg.block q hq (fun e => hn e.symm)
  have h1' := ownSame (w' := w1) h1 (fun q hq => hkeep q (own_lt h1 hq) (fun e => by
    have : q = hb := (Option.some.inj hq).symm
    exact hne q e this))
  have hs := ownsRow_set h1' j hj r'
  have hr'b : ∀ g, r'.held = some g → g ≠ hb := fun g hg e => by
    rcases (ho.held hg).1 with h | h
    · exact hne g h e
    · omega
  have hlen : xs.length = zss.length := by have := h1.1; omega
  refine ⟨xs.set j r', by rw [List.length_set]; exact hs, fun g hg => .inl (h2 g hg), fun i hi => ?_, fun i k ri rk hik hi hk g hgi hgk => ?_⟩
  · have hi' : i < zss.length := by simpa using hi
    by_cases e : i = j
    · subst e
      refine ⟨r', by rw [List.getElem?_set_self (by omega)], ?_⟩
      rw [List.getElem_set_self]
      refine ho.keep (fun q hq => Below.heap_setCell _ _ _ _ (hr'b q hq)) (fun g hg hS _ => ⟨?_, fun e => hr'b g hg (Option.some.inj e).symm⟩)
      rcases hS with h | h
      · exact .inl (a2.held h).1.1
      · exact .inr h
    · obtain ⟨ri, c1, c2⟩ := h3 i hi'
      refine ⟨ri, by rw [List.getElem?_set_ne (Ne.symm e)]; exact c1, ?_⟩
      rw [List.getElem_set_ne (Ne.symm e)]
      refine c2.keep (fun q hq => ?_) (fun g hg hS _ => ⟨.inl hS.1, hS.2⟩)
      have hqb := (c2.held hq).1.2
      rw [Below.heap_setCell _ _ _ _ (show q ≠ hb from fun e => hqb (by rw [e]; rfl))]
      exact hkeep q (c2.held hq).2 (fun e2 => h4 i j ri r0 e c1 a1 q hq e2)
  · have rest : ∀ m rm, m ≠ j → (xs.set j r')[m]? = some rm → xs[m]? = some rm := fun m rm hm h => by rwa [List.getElem?_set_ne (Ne.symm hm)] at h
    have at_ : ∀ rm, (xs.set j r')[j]? = some rm → rm = r' := fun rm h => by rw [List.getElem?_set_self (by omega)] at h; exact (Option.some.inj h).symm
    have key : ∀ m rm, m ≠ j → xs[m]? = some rm → ∀ g, rm.held = some g → r'.held ≠ some g := fun m rm hm hx2 g h1g h2g => by
      rcases (ho.held h2g).1 with h | h
      · exact h4 m j rm r0 hm hx2 a1 g h1g h
      · have hm' : m < zss.length := by have := (List.getElem?_eq_some_iff.1 hx2).1; omega
        obtain ⟨rm2, d1, d2⟩ := h3 m hm'
        obtain rfl : rm2 = rm := Option.some.inj (d1.symm.trans hx2)
        have := (d2.held h1g).2
        omega
    by_cases ei : i = j
    · subst ei
      obtain rfl := at_ ri hi
      exact key k rk (Ne.symm hik) (rest k rk (Ne.symm hik) hk) g hgk hgi
    · by_cases ek : k = j
      · subst ek
        obtain rfl := at_ rk hk
        exact key i ri ei (rest i ri ei hi) g hgi hgk
      · exact h4 i k ri rk hik (rest i ri ei hi) (rest k rk ek hk) g hgi hgk
/-- One row more. -/
theorem OwnR.snoc {S : Nat → Prop} {w wy : World} {v r : Value} {zss : List (List Int)} {zs : List Int} (h : OwnR S w v zss) (hb : Below w.heap.size w wy) (hr : OwnI (fun b => w.heap.size ≤ b) wy r zs) (hl : zss.length ≤ 1048600)
    (t : TypeId) (hu : Tryd.prog.underlying t = some (.slice 30)) (ty : TypeId) :
    ∃ v' w4, (Builtin.append_ #[t, t] ty #[v, .slice (some ⟨wy.heap.size, 0, none⟩) 1 1]).run Tryd.prog (wy.alloc (.cells #[r] 30)) = .ok v' w4 ∧ OwnR (fun b => S b ∨ (w.heap.size ≤ b ∧ b < w4.heap.size)) w4 v' (zss ++ [zs]) ∧ (wy.alloc (.cells #[r] 30)).grownBy w4 v.ownBlock := by
  obtain ⟨i0, hi, hz0, hz1, hz2⟩ := info_parts info_rowI
  obtain ⟨xs, h1, h2, h3, h4⟩ := h
  have hb1 : Below w.heap.size w (wy.alloc (.cells #[r] 30)) := hb.alloc hb.size _
  have o1 := own_below h1 hb1
  have hone : r.oneCell' = true := by obtain ⟨p, c, e⟩ := hr.shape; rw [e]; rfl
  obtain ⟨v', w4, hrun, hown, hgr, -, hat⟩ := run_append_own_at (P := Tryd.prog) (wy.alloc (.cells #[r] 30)) 0 t ty 30 i0 (.slice none 0 0) 1 24 hu hi hz0 hz1 hz2 rfl (by decide) _ _ _ o1 ⟨wy.heap.size, 0, none⟩ 1 1 [r] rfl (cell_one_new _ _ _) (by intro u hu; simp at hu; subst hu; exact hone) (by unfold maxLen; omega) (by omega) (Nat.zero_le _)
  have hby : Below wy.heap.size wy (wy.alloc (.cells #[r] 30)) := (Below.refl _ _).alloc (Nat.le_refl _) _
  have hsz1 : (wy.alloc (.cells #[r] 30)).heap.size = wy.heap.size + 1 := by simp
  have hblk : ∀ k, k < (wy.alloc (.cells #[r] 30)).heap.size → v.ownBlock ≠ some k → w4.heap[k]? = (wy.alloc (.cells #[r] 30)).heap[k]? := fun k hk hn => hgr.block k hk (fun e => hn e.symm)
  have hwsz := hb.size
  have hxl : xs.length = zss.length := by have := h1.1; omega
  have hv' : ∀ g, v'.ownBlock = some g → v.ownBlock = some g ∨ (wy.heap.size < g ∧ g < w4.heap.size) := fun g hg => by
    rcases hat with h | h
    · exact .inl (by rw [← h]; exact hg)
    · rw [hg] at h
      have := Option.some.inj h
      exact .inr ⟨by omega, own_lt hown hg⟩
  have old : ∀ (m : Nat) (hm : m < zss.length) q, xs[m]? = some q → OwnI (fun b => (S b ∨ (w.heap.size ≤ b ∧ b < w4.heap.size)) ∧ v'.ownBlock ≠ some b) w4 q zss[m] := fun m hm q hq => by
    obtain ⟨q2, a1, a2⟩ := h3 m hm
    obtain rfl : q2 = q := Option.some.inj (a1.symm.trans hq)
    have ha2 := a2.below hb1
    refine ha2.keep (fun b hb2 => hblk b (ha2.held hb2).2 (a2.held hb2).1.2) (fun g hg hS _ => ⟨.inl hS.1, fun e => ?_⟩)
    rcases hv' g e with h | ⟨h, -⟩
    · exact hS.2 h
    · have := (a2.held hg).2; omega
  have hnew : OwnI (fun b => (S b ∨ (w.heap.size ≤ b ∧ b < w4.heap.size)) ∧ v'.ownBlock ≠ some b) w4 r zs := by
    have hr1 := hr.below hby
    refine hr1.keep (fun b hb2 => hblk b (hr1.held hb2).2 (fun e => by have := own_lt h1 e; have := (hr.held hb2).1; omega)) (fun g hg hS hl => ⟨.inr ⟨hS, ?_⟩, fun e => ?_⟩)
    · have := hgr.size; omega
    · have hlt := (hr.held hg).2
      rcases hv' g e with h | ⟨h, -⟩
      · have := own_lt h1 h; omega
      · omega
  refine ⟨v', w4, hrun, ⟨xs ++ [r], by simpa using hown, fun g hg => ?_, fun j hj => ?_, fun i j ri rj hij hi hj g hgi hgj => ?_⟩, hgr⟩
  · rcases hv' g hg with h | ⟨h, h2⟩
    · exact .inl (h2 g h)
    · exact .inr ⟨by omega, h2⟩
  · by_cases e : j = zss.length
    · subst e
      exact ⟨r, by rw [List.getElem?_append_right (by omega)]; simp [hxl], by simpa using hnew⟩
    · have hj' : j < zss.length := by simp at hj; omega
      obtain ⟨q, a1, -⟩ := h3 j hj'
      refine ⟨q, by rw [List.getElem?_append_left (by omega)]; exact a1, ?_⟩
      rw [List.getElem_append_left hj']
      exact old j hj' q a1
  · have low : ∀ m rm, m < zss.length → (xs ++ [r])[m]? = some rm → xs[m]? = some rm := fun m rm hm h => by rwa [List.getElem?_append_left (by omega)] at h
    have top : ∀ m rm, ¬ m < zss.length → (xs ++ [r])[m]? = some rm → rm = r := fun m rm hm h => by
      rw [List.getElem?_append_right (by omega)] at h
      have hl := (List.getElem?_eq_some_iff.1 h).1
      have : m - xs.length = 0 := by simpa using hl
      rw [this] at h; simpa using h.symm
    have key : ∀ m rm, m < zss.length → xs[m]? = some rm → ∀ g, rm.held = some g → r.held ≠ some g := fun m rm hm hx g h1g h2g => by
      obtain ⟨q, a1, a2⟩ := h3 m hm
      obtain rfl : q = rm := Option.some.inj (a1.symm.trans hx)
      have := (a2.held h1g).2
      have := (hr.held h2g).1
      omega
    by_cases ei : i < zss.length
    · by_cases ej : j < zss.length
      · exact h4 i j ri rj hij (low i ri ei hi) (low j rj ej hj) g hgi hgj
      · obtain rfl := top j rj ej hj
        exact key i ri ei (low i ri ei hi) g hgi hgj
    · obtain rfl := top i ri ei hi
      by_cases ej : j < zss.length
      · exact key j rj ej (low j rj ej hj) g hgj hgi
      · exfalso
        have hl1 := (List.getElem?_eq_some_iff.1 hi).1
        have hl2 := (List.getElem?_eq_some_iff.1 hj).1
        simp only [List.length_append, List.length_singleton] at hl1 hl2
        omega
end Go.Proofs.YtmfammgdcdlceaaDoor
