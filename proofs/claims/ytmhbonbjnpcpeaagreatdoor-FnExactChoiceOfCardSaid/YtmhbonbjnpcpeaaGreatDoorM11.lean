/-
  Several texts in one: Slices and slices of slices that a call owns, block by block: rows may grow and be replaced. What the operations of a drawn region make, as a table: values, slices and slices of slices of their own, fresh boxes. slices.Concat of two, at []int. slices.Concat over any number of slices of integers. Games, the program's side: hasAllCards, firstWithoutCards, isAtEnd. Games, the model's side: IsGame, l24First, l24Over, Winner, IsEnded, IsDrawn, MovesLeft. Games, the model's side: l24First, l24Over, Winner, IsEnded, IsDrawn, MovesLeft.
-/
import Derived.Test.YtmhbonbjnpcpeaaGreatDoorM10
import Derived.Test.YtmhbonbjnpcpeaaGreatDoorM7
import Derived.Maps.AppendAt
import Derived.ArgAppend
import Derived.Laws.Tables
import Derived.Lib.AppendZerosOnto
import Derived.Test.YtmhbonbjnpcpeaaGreatDoorM6
import Derived.Test.YtmhbonbjnpcpeaaGreatDoorM5
import Derived.Deep.RegionHeld3
namespace Go.Proofs.YtmhbonbjnpcpeaaGreatDoor
open Go.RowKit
set_option linter.unusedVariables false
set_option linter.unusedSimpArgs false

theorem ownSame {w w' : World} {B : Nat} {E : TypeId} {size n : Nat} {v : Value} {xs : List Value} (h : w.ownsRow B E size v n xs) (hk : ∀ q, v.ownBlock = some q → w'.heap[q]? = w.heap[q]?) : w'.ownsRow B E size v n xs := by
  obtain ⟨hl, h⟩ := h
  refine ⟨hl, h.imp id ?_⟩
  rintro ⟨g', cap', cur, e', hg, hh, r⟩
  refine ⟨g', cap', cur, e', hg, ?_, r⟩
  rw [hk g' (by rw [e']; rfl)]; exact hh
theorem own_lt {w : World} {B : Nat} {E : TypeId} {size n : Nat} {v : Value} {xs : List Value} (h : w.ownsRow B E size v n xs) {g : Nat} (hg : v.ownBlock = some g) : g < w.heap.size := by
  rcases h.2 with ⟨e, -⟩ | ⟨g', cap', cur, e', -, hh, -⟩
  · rw [e] at hg; cases hg
  · rw [e'] at hg
    obtain rfl : g' = g := Option.some.inj hg
    exact (Array.getElem?_eq_some_iff.1 hh).1
theorem own_to0 {w : World} {B : Nat} {E : TypeId} {size n : Nat} {v : Value} {xs : List Value} (h : w.ownsRow B E size v n xs) : w.ownsRow 0 E size v n xs := by
  obtain ⟨hl, h⟩ := h
  refine ⟨hl, h.imp id ?_⟩
  rintro ⟨g', cap', cur, e', hg, r⟩
  exact ⟨g', cap', cur, e', Nat.zero_le _, r⟩
theorem own_toB {w : World} {B : Nat} {E : TypeId} {size n : Nat} {v : Value} {xs : List Value} (h : w.ownsRow 0 E size v n xs) (hb : ∀ g, v.ownBlock = some g → B ≤ g) : w.ownsRow B E size v n xs := by
  obtain ⟨hl, h⟩ := h
  refine ⟨hl, h.imp id ?_⟩
  rintro ⟨g', cap', cur, e', hg, r⟩
  exact ⟨g', cap', cur, e', hb _ (by rw [e']; rfl), r⟩
theorem one_cells' (l : List Int) : ∀ u ∈ l.map (Value.int .i64), u.oneCell' = true := by
  intro u hu
  simp at hu
  obtain ⟨y, _, rfl⟩ := hu
  rfl
/-- The block that a slice with room holds. -/
def _root_.Go.Value.held : Value → Option Nat
  | .slice (some a) _ (_ + 1) => some a.block
  | _ => none
/-- A slice of the call's own, its block out of S; one without spare room need not fill its block. -/
def OwnI (S : Nat → Prop) (w : World) (v : Value) (zs : List Int) : Prop :=
  (∀ x ∈ zs, (Lit.int .i64 x).wf = true) ∧ ((∃ p b, v = .slice p zs.length zs.length ∧ WrAt .i64 w v zs b ∧ (zs ≠ [] → S b)) ∨ ∃ g cap, v = .slice (some ⟨g, 0, none⟩) zs.length (cap + 1) ∧ w.ownsRow 0 3 1 v zs.length (zs.map (Value.int .i64)) ∧ S g)
theorem full_held {w : World} {v : Value} {zs : List Int} {p : Option Addr} {b : Nat} (e : v = .slice p zs.length zs.length) (h : WrAt .i64 w v zs b) : (zs = [] ∧ v.held = none) ∨ (zs ≠ [] ∧ v.held = some b) := by
  by_cases hz : zs = []
  · subst hz; refine .inl ⟨rfl, ?_⟩; rw [e]; cases p <;> rfl
  · obtain ⟨a, c, e2, -, -, h4⟩ := h
    rcases h4 with h4 | ⟨off, ha, -⟩
    · exact absurd h4 hz
    · refine .inr ⟨hz, ?_⟩
      obtain ⟨n, hn⟩ : ∃ n, zs.length = n + 1 := ⟨zs.length - 1, by have := List.length_pos_iff.2 hz; omega⟩
      rw [e] at e2
      have := (Value.slice.inj e2).1
      rw [e, this, ha, hn]; rfl
theorem OwnI.held {S : Nat → Prop} {w : World} {v : Value} {zs : List Int} (h : OwnI S w v zs) {g : Nat} (hg : v.held = some g) : S g ∧ g < w.heap.size := by
  rcases h.2 with ⟨p, b, e, hw, hs⟩ | ⟨g', cap, e, ho, hs⟩
  · rcases full_held e hw with ⟨-, h2⟩ | ⟨hz, h2⟩
    · rw [h2] at hg; cases hg
    · rw [h2] at hg
      obtain rfl : b = g := Option.some.inj hg
      exact ⟨hs hz, hw.rd.lt hz⟩
  · have hl := own_lt ho (g := g') (by rw [e]; rfl)
    rw [e] at hg
    obtain rfl : g' = g := Option.some.inj hg
    exact ⟨hs, hl⟩
theorem OwnI.keep {S T : Nat → Prop} {w w' : World} {v : Value} {zs : List Int} (h : OwnI S w v zs) (hk : ∀ g, v.held = some g → w'.heap[g]? = w.heap[g]?) (hs : ∀ g, v.held = some g → S g → g < w.heap.size → T g) : OwnI T w' v zs := by
  refine ⟨h.1, h.2.imp ?_ ?_⟩
  · rintro ⟨p, b, e, hw, hS⟩
    have hh : zs ≠ [] → v.held = some b := fun hz => by
      rcases full_held e hw with ⟨h2, -⟩ | ⟨-, h2⟩
      · exact absurd h2 hz
      · exact h2
    exact ⟨p, b, e, hw.keep (fun hz => hk b (hh hz)), fun hz => hs b (hh hz) (hS hz) (hw.rd.lt hz)⟩
  · rintro ⟨g, cap, e, ho, hS⟩
    have hh : v.held = some g := by rw [e]; rfl
    exact ⟨g, cap, e, ownSame ho (fun q hq => by
      have : g = q := by rw [e] at hq; exact Option.some.inj hq
      exact this ▸ hk g hh), hs g hh hS (own_lt ho (by rw [e]; rfl))⟩
theorem OwnI.touch {S T : Nat → Prop} {w w' : World} {v : Value} {zs : List Int} (h : OwnI S w v zs) (t : Touch T w w') (hd : ∀ b, S b → ¬ T b) : OwnI S w' v zs :=
  h.keep (fun g hg => t.block g (h.held hg).2 (hd g (h.held hg).1)) (fun _ _ hS _ => hS)
theorem OwnI.below {S : Nat → Prop} {w w' : World} {v : Value} {zs : List Int} (h : OwnI S w v zs) (b : Below w.heap.size w w') : OwnI S w' v zs := h.touch (Below.touch (S := fun _ => False) b) (fun _ _ hx => hx)
theorem OwnI.mono {S T : Nat → Prop} {w : World} {v : Value} {zs : List Int} (h : OwnI S w v zs) (hs : ∀ b, S b → b < w.heap.size → T b) : OwnI T w v zs :=
  h.keep (fun _ _ => rfl) (fun g _ hS hl => hs g hS hl)
theorem OwnI.nil (S : Nat → Prop) (w : World) (p : Option Addr) : OwnI S w (.slice p 0 0) [] := by
  refine ⟨(by simp), .inl ⟨p, 0, rfl, ?_, fun h => absurd rfl h⟩⟩
  cases p with
  | none => exact WrAt.nil .i64 w none 0 0 ⟨by unfold maxLen; omega, fun _ => rfl⟩
  | some p => exact WrAt.nil .i64 w (some p) 0 0 ⟨by unfold maxLen; omega, fun h => by cases h⟩
theorem OwnI.full {S : Nat → Prop} {w : World} {v : Value} {zs : List Int} {p : Option Addr} {b : Nat} (e : v = .slice p zs.length zs.length) (h : WrAt .i64 w v zs b) (hs : zs ≠ [] → S b) : OwnI S w v zs := ⟨h.rd.wf, .inl ⟨p, b, e, h, hs⟩⟩
theorem OwnI.ofS {S : Nat → Prop} {B : Nat} {w : World} {v : Value} {zs : List Int} (h : w.ownsRow B 3 1 v zs.length (zs.map (Value.int .i64))) (hw : ∀ x ∈ zs, (Lit.int .i64 x).wf = true) (hS : ∀ g, v.ownBlock = some g → B ≤ g → g < w.heap.size → S g) : OwnI S w v zs := by
  have h' := own_to0 h
  rcases h.2 with ⟨e, hn⟩ | ⟨g, cap, cur, e, hg, hh, hnc, hcm, hcs, htake⟩
  · have hz := List.length_eq_zero_iff.1 hn
    subst hz e; exact OwnI.nil _ _ _
  · cases cap with
    | zero =>
      have hz : zs = [] := List.length_eq_zero_iff.1 (by omega)
      subst hz e; exact OwnI.nil _ _ _
    | succ cap => exact ⟨hw, .inr ⟨g, cap, e, h', hS g (by rw [e]; rfl) hg (Array.getElem?_eq_some_iff.1 hh).1⟩⟩
theorem OwnI.of {B : Nat} {w : World} {v : Value} {zs : List Int} (h : w.ownsRow B 3 1 v zs.length (zs.map (Value.int .i64))) (hw : ∀ x ∈ zs, (Lit.int .i64 x).wf = true) : OwnI (In B w.heap.size) w v zs :=
  OwnI.ofS h hw (fun g _ h1 h2 => ⟨h1, h2⟩)
theorem OwnI.shape {S : Nat → Prop} {w : World} {v : Value} {zs : List Int} (h : OwnI S w v zs) : ∃ p c, v = .slice p zs.length c := by
  rcases h.2 with ⟨p, b, e, -⟩ | ⟨g, cap, e, -⟩
  · exact ⟨p, _, e⟩
  · exact ⟨_, _, e⟩
theorem OwnI.wr {S : Nat → Prop} {w : World} {v : Value} {zs : List Int} (h : OwnI S w v zs) : WrIn .i64 S w v zs := by
  rcases h.2 with ⟨p, b, e, hw, hs⟩ | ⟨g, cap, e, ho, hS⟩
  · exact ⟨b, hw, hs⟩
  · obtain ⟨b, -, hb⟩ := own_wr ho h.1
    refine ⟨b, hb, fun hz => ?_⟩
    obtain ⟨p, c, e', -, -, h4⟩ := hb
    rcases h4 with h4 | ⟨off, hp, -⟩
    · exact absurd h4 hz
    · rw [e, hp] at e'
      have := (Value.slice.inj e').1
      have : g = b := by simpa using congrArg (fun o => o.map (·.block)) this
      exact this ▸ hS
theorem below_grown' {w w' : World} (b : w.grownBy w' none) (row : Option Nat) : w.grownBy w' row := ⟨b.os, b.tape, b.output, b.size, fun k hk _ => b.block k hk (by simp)⟩
/-- A slice of one's own, grown by what lies elsewhere. -/
theorem OwnI.append {S : Nat → Prop} {w : World} {v : Value} {zs ys : List Int} (h : OwnI S w v zs) (a : Addr) (c : Nat) (hys : ys ≠ []) (hc : ∀ j (hj : j < ys.length), w.cell? (a.add j) = some (.int .i64 ys[j])) (hw : ∀ x ∈ ys, (Lit.int .i64 x).wf = true) (hl : zs.length + ys.length ≤ 2097152) (ty : TypeId) :
    ∃ v' w', (Builtin.append_ #[22, 22] ty #[v, .slice (some a) ys.length c]).run Tryz.prog w = .ok v' w' ∧ OwnI (fun b => v.held = some b ∨ (w.heap.size ≤ b ∧ b < w'.heap.size)) w' v' (zs ++ ys) ∧ w.grownBy w' v.held := by
  obtain ⟨i0, hi, hz0, hz1, hz2⟩ := info_parts info_i64
  have hws : ∀ x ∈ zs ++ ys, (Lit.int .i64 x).wf = true := fun x hx => (List.mem_append.1 hx).elim (h.1 x) (hw x)
  have hnews : ∀ j u, (ys.map (Value.int .i64))[j]? = some u → w.cell? (a.add j) = some u := fun j u hu => by
    have hj : j < ys.length := by have := (List.getElem?_eq_some_iff.1 hu).1; simpa using this
    rw [hc j hj]; simpa [hj] using hu
  have hlen : 0 < ys.length := List.length_pos_iff.2 hys
  rcases h.2 with ⟨p, b, e, hwr, hs⟩ | ⟨g, cap, e, ho, hS⟩
  · by_cases hz : zs = []
    · subst hz e
      cases p with
      | none =>
        have hown0 : w.ownsRow w.heap.size 3 1 (.slice none 0 0) 0 [] := ⟨rfl, .inl ⟨rfl, rfl⟩⟩
        obtain ⟨v', w', hrun, hown, hgr, -, -⟩ := run_append_own_at (P := Tryz.prog) w w.heap.size 22 ty 3 i0 (.int .i64 0) 1 8 Tryz.underlying22 hi hz0 hz1 hz2 rfl (by decide) _ _ _ hown0 a ys.length c (ys.map (Value.int .i64)) (by simp) hnews (one_cells' ys) (by unfold maxLen; omega) (by omega) (Nat.le_refl _)
        exact ⟨v', w', hrun, OwnI.ofS (zs := ys) (by simpa using hown) (by simpa using hws) (fun g _ h1 h2 => .inr ⟨h1, h2⟩), hgr⟩
      | some p =>
        obtain ⟨v', w', hrun, hown, hgr⟩ := run_append_arg_grows (P := Tryz.prog) w 22 ty 3 i0 (.int .i64 0) 1 8 Tryz.underlying22 hi hz0 hz1 hz2 rfl (by decide) p 0 0 [] rfl (by intro j u hu; simp at hu) a ys.length c (ys.map (Value.int .i64)) (by simp) hnews (by omega) (by unfold maxLen; omega) (by omega)
        exact ⟨v', w', hrun, OwnI.ofS (zs := ys) (by simpa using hown) (by simpa using hws) (fun g _ h1 h2 => .inr ⟨h1, h2⟩), hgr⟩
    · obtain ⟨q, cc, e2, hcap, -, h4⟩ := id hwr
      rcases h4 with h4 | ⟨off, hq, hcell, -⟩
      · exact absurd h4 hz
      · rw [e] at e2
        have e3 := (Value.slice.inj e2).1
        subst hq
        rw [e3] at e
        obtain ⟨v', w', hrun, hown, hgr⟩ := run_append_arg_grows (P := Tryz.prog) w 22 ty 3 i0 (.int .i64 0) 1 8 Tryz.underlying22 hi hz0 hz1 hz2 rfl (by decide) ⟨b, off, none⟩ zs.length zs.length (zs.map (Value.int .i64)) (by simp) (fun j u hu => by
          have hj : j < zs.length := by have := (List.getElem?_eq_some_iff.1 hu).1; simpa using this
          have e2 : (⟨b, off, none⟩ : Addr).add j = ⟨b, off + j, none⟩ := by simp [Addr.add]
          rw [e2, hcell j hj]
          simpa [hj] using hu) a ys.length c (ys.map (Value.int .i64)) (by simp) hnews (by omega) (by unfold maxLen; omega) (by omega)
        rw [e]
        exact ⟨v', w', hrun, OwnI.ofS (zs := zs ++ ys) (by simpa using hown) hws (fun g _ h1 h2 => .inr ⟨h1, h2⟩), below_grown' hgr _⟩
  · obtain ⟨v', w', hrun, hown, hgr, -, hat⟩ := run_append_own_at (P := Tryz.prog) w 0 22 ty 3 i0 (.int .i64 0) 1 8 Tryz.underlying22 hi hz0 hz1 hz2 rfl (by decide) _ _ _ ho a ys.length c (ys.map (Value.int .i64)) (by simp) hnews (one_cells' ys) (by unfold maxLen; omega) (by omega) (Nat.zero_le _)
    have hbk : v.ownBlock = v.held := by rw [e]; rfl
    refine ⟨v', w', hrun, OwnI.ofS (zs := zs ++ ys) (by simpa using hown) hws (fun g' h1 _ h2 => ?_), by rw [← hbk]; exact hgr⟩
    rcases hat with h | h
    · exact .inl (by rw [← hbk, ← h]; exact h1)
    · rw [h1] at h
      have := Option.some.inj h
      exact .inr ⟨by omega, h2⟩
/-- Slices of slices of the call's own: the heads' block, and one for each row, all out of S, all apart. -/
def OwnR (S : Nat → Prop) (w : World) (v : Value) (zss : List (List Int)) : Prop :=
  ∃ xs : List Value, w.ownsRow 0 22 1 v zss.length xs ∧ (∀ g, v.ownBlock = some g → S g) ∧ (∀ j (hj : j < zss.length), ∃ r, xs[j]? = some r ∧ OwnI (fun b => S b ∧ v.ownBlock ≠ some b) w r zss[j]) ∧
    (∀ (i j : Nat) (ri rj : Value), i ≠ j → xs[i]? = some ri → xs[j]? = some rj → ∀ g, ri.held = some g → rj.held ≠ some g)
theorem OwnR.touch {S T : Nat → Prop} {w w' : World} {v : Value} {zss : List (List Int)} (h : OwnR S w v zss) (t : Touch T w w') (hd : ∀ b, S b → ¬ T b) : OwnR S w' v zss := by
  obtain ⟨xs, h1, h2, h3, h4⟩ := h
  refine ⟨xs, ownSame h1 (fun q hq => t.block q (own_lt h1 hq) (hd q (h2 q hq))), h2, fun j hj => ?_, h4⟩
  obtain ⟨r, a1, a2⟩ := h3 j hj
  exact ⟨r, a1, a2.touch t (fun b hb => hd b hb.1)⟩
theorem OwnR.below {S : Nat → Prop} {w w' : World} {v : Value} {zss : List (List Int)} (h : OwnR S w v zss) (b : Below w.heap.size w w') : OwnR S w' v zss := h.touch (Below.touch (S := fun _ => False) b) (fun _ _ hx => hx)
theorem OwnR.mono {S T : Nat → Prop} {w : World} {v : Value} {zss : List (List Int)} (h : OwnR S w v zss) (hs : ∀ b, S b → b < w.heap.size → T b) : OwnR T w v zss := by
  obtain ⟨xs, h1, h2, h3, h4⟩ := h
  refine ⟨xs, h1, fun g hg => hs g (h2 g hg) (own_lt h1 hg), fun j hj => ?_, h4⟩
  obtain ⟨r, a1, a2⟩ := h3 j hj
  exact ⟨r, a1, a2.mono (fun b hb hl => ⟨hs b hb.1 hl, hb.2⟩)⟩
theorem OwnR.shape {S : Nat → Prop} {w : World} {v : Value} {zss : List (List Int)} (h : OwnR S w v zss) : ∃ p c, v = .slice p zss.length c := by
  obtain ⟨xs, h1, -⟩ := h; exact own_shape h1
theorem WrIn.at {k : IntKind} {S : Nat → Prop} {w : World} {r : Value} {zs : List Int} (h : WrIn k S w r zs) : ∃ b, WrAt k w r zs b ∧ (zs ≠ [] → S b ∧ r.held = some b) := by
  obtain ⟨b, hb, hs⟩ := h
  refine ⟨b, hb, fun hz => ⟨hs hz, ?_⟩⟩
  obtain ⟨p, c, e, hc, -, hq⟩ := hb
  rcases hq with hq | ⟨off, hp, -⟩
  · exact absurd hq hz
  · have := List.length_pos_iff.2 hz
    obtain ⟨c, rfl⟩ : ∃ d, c = d + 1 := ⟨c - 1, by omega⟩
    rw [e, hp]; rfl
theorem OwnR.ss {S : Nat → Prop} {w : World} {v : Value} {zss : List (List Int)} (h : OwnR S w v zss) : WrSS .i64 S w v zss := by
  obtain ⟨xs, h1, h2, h3, h4⟩ := h
  have h1' := h1
  obtain ⟨h0, h⟩ := h1
  rcases h with ⟨e, hn⟩ | ⟨g, cap, cur, e, hg, hh, hnc, hcm, hcs, htake⟩
  · have : zss = [] := List.length_eq_zero_iff.1 hn
    subst this
    exact ⟨none, 0, e, ⟨Nat.le_refl _, Nat.zero_le _, fun _ => rfl⟩, .inl rfl⟩
  · subst e
    have hx : ∀ {j : Nat} {r : Value}, xs[j]? = some r → xs.getD j undef = r := fun {j r} h => by simp [List.getD, h]
    refine ⟨_, cap, rfl, ⟨hnc, hcm, fun e => by cases e⟩, .inr ⟨g, 0, fun j => ((xs.getD j undef).held).getD 0, rfl, h2 g rfl, fun j hj => ?_, fun i j hi hj hij hzi hzj => ?_⟩⟩
    · obtain ⟨r, a1, a2⟩ := h3 j hj
      obtain ⟨b, hb, hs⟩ := a2.wr.at
      refine ⟨r, by rw [Nat.zero_add, h1'.cellAt j (by omega)]; exact a1, ?_, fun hz => ?_⟩
      · by_cases hz : zss[j] = []
        · rw [hz] at hb ⊢; exact hb.anyNil _
        · show WrAt .i64 w r zss[j] (((xs.getD j undef).held).getD 0)
          rw [hx a1, (hs hz).2]; exact hb
      · show S (((xs.getD j undef).held).getD 0) ∧ ((xs.getD j undef).held).getD 0 ≠ g
        rw [hx a1, (hs hz).2]
        exact ⟨(hs hz).1.1, fun e => (hs hz).1.2 (by rw [← e]; rfl)⟩
    · obtain ⟨ri, a1, a2⟩ := h3 i hi
      obtain ⟨rj, c1, c2⟩ := h3 j hj
      obtain ⟨bi, -, ei⟩ := a2.wr.at
      obtain ⟨bj, -, ej⟩ := c2.wr.at
      show ((xs.getD i undef).held).getD 0 ≠ ((xs.getD j undef).held).getD 0
      rw [hx a1, hx c1, (ei hzi).2, (ej hzj).2]
      intro e
      exact h4 i j ri rj hij a1 c1 bi (ei hzi).2 (by rw [(ej hzj).2]; exact congrArg some e.symm)
theorem OwnR.empty (w : World) : OwnR (In w.heap.size (w.alloc (.cells #[] 22)).heap.size) (w.alloc (.cells #[] 22)) (.slice (some ⟨w.heap.size, 0, none⟩) 0 0) [] := by
  have hown0 := World.ownsRow_lit (base := w.heap.size) (e := 22) (size := 1) w #[] 0 (Nat.le_refl _) (Nat.zero_le _) rfl
  exact ⟨[], own_to0 hown0, fun g hg => ⟨own_block hown0 g hg, own_lt hown0 hg⟩, fun j hj => by simp at hj, fun i j ri rj _ h => by simp at h⟩
/-- Row j, as it lies. -/
theorem OwnR.row {S : Nat → Prop} {w : World} {v : Value} {zss : List (List Int)} (h : OwnR S w v zss) {j : Nat} (hj : j < zss.length) :
    ∃ hb cap r, v = .slice (some ⟨hb, 0, none⟩) zss.length cap ∧ S hb ∧ hb < w.heap.size ∧ w.cell? ⟨hb, j, none⟩ = some r ∧ w.frozen? ⟨hb, j, none⟩ = false ∧ OwnI (fun b => S b ∧ b ≠ hb) w r zss[j] := by
  obtain ⟨xs, h1, h2, h3, h4⟩ := h
  have h1' := h1
  obtain ⟨h0, h⟩ := h1
  rcases h with ⟨e, hn⟩ | ⟨g, cap, cur, e, hg, hh, hnc, hcm, hcs, htake⟩
  · omega
  · subst e
    obtain ⟨r, a1, a2⟩ := h3 j hj
    exact ⟨g, cap, r, rfl, h2 g rfl, own_lt h1' rfl, by rw [h1'.cellAt j (by omega)]; exact a1, h1'.frozenAt j, a2.mono (fun b hb _ => ⟨hb.1, fun e => hb.2 (by rw [e]; rfl)⟩)⟩
theorem ownsRow_set {w : World} {B g n cap : Nat} {E : TypeId} {xs : List Value} (h : w.ownsRow B E 1 (.slice (some ⟨g, 0, none⟩) n cap) n xs) (j : Nat) (hj : j < n) (r : Value) : (w.setCell ⟨g, j, none⟩ r).ownsRow B E 1 (.slice (some ⟨g, 0, none⟩) n cap) n (xs.set j r) := by
  obtain ⟨hl, h⟩ := h
  rcases h with ⟨e, -⟩ | ⟨g', cap', cur, e', hg, hh, hnc, hcm, hcs, htake⟩
  · cases e
  · have e1 := Value.slice.inj e'
    obtain rfl : g = g' := by have := e1.1; simpa using this
    obtain rfl : cap = cap' := e1.2.2
    refine ⟨by simpa using hl, .inr ⟨g, cap, cur.setIfInBounds j r, rfl, hg, ?_, hnc, hcm, by simpa using hcs, ?_⟩⟩
    · simp [World.setCell, Array.getElem?_modify, hh]
    · rw [Array.toList_setIfInBounds, List.take_set, htake]
/-- Row j is replaced: by one that lies in its own block or in a fresh one. -/
theorem OwnR.put {S : Nat → Prop} {w w1 : World} {v r r' : Value} {zss : List (List Int)} {zs' : List Int} {j hb cap : Nat} (h : OwnR S w v zss) (hj : j < zss.length) (hv : v = .slice (some ⟨hb, 0, none⟩) zss.length cap) (hr : w.cell? ⟨hb, j, none⟩ = some r)
    (hg : w.grownBy w1 r.held) (ho : OwnI (fun b => r.held = some b ∨ (w.heap.size ≤ b ∧ b < w1.heap.size)) w1 r' zs') :
    OwnR (fun b => S b ∨ (w.heap.size ≤ b ∧ b < w1.heap.size)) (w1.setCell ⟨hb, j, none⟩ r') v (zss.set j zs') := by
  subst hv
  obtain ⟨xs, h1, h2, h3, h4⟩ := h
  have hx : xs[j]? = some r := by rw [← h1.cellAt j (by omega)]; exact hr
  obtain ⟨r0, a1, a2⟩ := h3 j hj
  obtain rfl : r0 = r := Option.some.inj (a1.symm.trans hx)
  have hbl : hb < w.heap.size := own_lt h1 rfl
  have hne : ∀ g, r0.held = some g → g ≠ hb := fun g hg e => (a2.held hg).1.2 (by rw [e]; rfl)
  have hkeep : ∀ q, q < w.heap.size → r0.held ≠ some q → w1.heap[q]? = w.heap[q]? := fun q hq hn => hg.block q hq (fun e => hn e.symm)
  have h1' := ownSame (w' := w1) h1 (fun q hq => hkeep q (own_lt h1 hq) (fun e => by
    have : q = hb := (Option.some.inj hq).symm
    exact hne q e this))
  have hs := ownsRow_set h1' j hj r'
  have hr'b : ∀ g, r'.held = some g → g ≠ hb := fun g hg e => by
    rcases (ho.held hg).1 with h | h
    · exact hne g h e
    · omega
  have hlen : xs.length = zss.length := by have := h1.1; omega
  refine ⟨xs.set j r', by rw [List.length_set]; exact hs, fun g hg => .inl (h2 g hg), fun i hi => ?_, fun i k ri rk hik hi hk g hgi hgk => ?_⟩
  · have hi' : i < zss.length := by simpa using hi
    by_cases e : i = j
    · subst e
      refine ⟨r', by rw [List.getElem?_set_self (by omega)], ?_⟩
      rw [List.getElem_set_self]
      refine ho.keep (fun q hq => Below.heap_setCell _ _ _ _ (hr'b q hq)) (fun g hg hS _ => ⟨?_, fun e => hr'b g hg (Option.some.inj e).symm⟩)
      rcases hS with h | h
      · exact .inl (a2.held h).1.1
      · exact .inr h
    · obtain ⟨ri, c1, c2⟩ := h3 i hi'
      refine ⟨ri, by rw [List.getElem?_set_ne (Ne.symm e)]; exact c1, ?_⟩
      rw [List.getElem_set_ne (Ne.symm e)]
      refine c2.keep (fun q hq => ?_) (fun g hg hS _ => ⟨.inl hS.1, hS.2⟩)
      have hqb := (c2.held hq).1.2
      rw [Below.heap_setCell _ _ _ _ (show q ≠ hb from fun e => hqb (by rw [e]; rfl))]
      exact hkeep q (c2.held hq).2 (fun e2 => h4 i j ri r0 e c1 a1 q hq e2)
  · have rest : ∀ m rm, m ≠ j → (xs.set j r')[m]? = some rm → xs[m]? = some rm := fun m rm hm h => by rwa [List.getElem?_set_ne (Ne.symm hm)] at h
    have at_ : ∀ rm, (xs.set j r')[j]? = some rm → rm = r' := fun rm h => by rw [List.getElem?_set_self (by omega)] at h; exact (Option.some.inj h).symm
    have key : ∀ m rm, m ≠ j → xs[m]? = some rm → ∀ g, rm.held = some g → r'.held ≠ some g := fun m rm hm hx2 g h1g h2g => by
      rcases (ho.held h2g).1 with h | h
      · exact h4 m j rm r0 hm hx2 a1 g h1g h
      · have hm' : m < zss.length := by have := (List.getElem?_eq_some_iff.1 hx2).1; omega
        obtain ⟨rm2, d1, d2⟩ := h3 m hm'
        obtain rfl : rm2 = rm := Option.some.inj (d1.symm.trans hx2)
        have := (d2.held h1g).2
        omega
    by_cases ei : i = j
    · subst ei
      obtain rfl := at_ ri hi
      exact key k rk (Ne.symm hik) (rest k rk (Ne.symm hik) hk) g hgk hgi
    · by_cases ek : k = j
      · subst ek
        obtain rfl := at_ rk hk
        exact key i ri ei (rest i ri ei hi) g hgi hgk
      · exact h4 i k ri rk hik (rest i ri ei hi) (rest k rk ek hk) g hgi hgk
/-- One row more. -/
theorem OwnR.snoc {S : Nat → Prop} {w wy : World} {v r : Value} {zss : List (List Int)} {zs : List Int} (h : OwnR S w v zss) (hb : Below w.heap.size w wy) (hr : OwnI (fun b => w.heap.size ≤ b) wy r zs) (hl : zss.length ≤ 1048600)
    (t : TypeId) (hu : Tryz.prog.underlying t = some (.slice 22)) (ty : TypeId) :
    ∃ v' w4, (Builtin.append_ #[t, t] ty #[v, .slice (some ⟨wy.heap.size, 0, none⟩) 1 1]).run Tryz.prog (wy.alloc (.cells #[r] 22)) = .ok v' w4 ∧ OwnR (fun b => S b ∨ (w.heap.size ≤ b ∧ b < w4.heap.size)) w4 v' (zss ++ [zs]) ∧ (wy.alloc (.cells #[r] 22)).grownBy w4 v.ownBlock := by
  obtain ⟨i0, hi, hz0, hz1, hz2⟩ := info_parts info_rowI
  obtain ⟨xs, h1, h2, h3, h4⟩ := h
  have hb1 : Below w.heap.size w (wy.alloc (.cells #[r] 22)) := hb.alloc hb.size _
  have o1 := own_below h1 hb1
  have hone : r.oneCell' = true := by obtain ⟨p, c, e⟩ := hr.shape; rw [e]; rfl
  obtain ⟨v', w4, hrun, hown, hgr, -, hat⟩ := run_append_own_at (P := Tryz.prog) (wy.alloc (.cells #[r] 22)) 0 t ty 22 i0 (.slice none 0 0) 1 24 hu hi hz0 hz1 hz2 rfl (by decide) _ _ _ o1 ⟨wy.heap.size, 0, none⟩ 1 1 [r] rfl (cell_one_new _ _ _) (by intro u hu; simp at hu; subst hu; exact hone) (by unfold maxLen; omega) (by omega) (Nat.zero_le _)
  have hby : Below wy.heap.size wy (wy.alloc (.cells #[r] 22)) := (Below.refl _ _).alloc (Nat.le_refl _) _
  have hsz1 : (wy.alloc (.cells #[r] 22)).heap.size = wy.heap.size + 1 := by simp
  have hblk : ∀ k, k < (wy.alloc (.cells #[r] 22)).heap.size → v.ownBlock ≠ some k → w4.heap[k]? = (wy.alloc (.cells #[r] 22)).heap[k]? := fun k hk hn => hgr.block k hk (fun e => hn e.symm)
  have hwsz := hb.size
  have hxl : xs.length = zss.length := by have := h1.1; omega
  have hv' : ∀ g, v'.ownBlock = some g → v.ownBlock = some g ∨ (wy.heap.size < g ∧ g < w4.heap.size) := fun g hg => by
    rcases hat with h | h
    · exact .inl (by rw [← h]; exact hg)
    · rw [hg] at h
      have := Option.some.inj h
      exact .inr ⟨by omega, own_lt hown hg⟩
  have old : ∀ (m : Nat) (hm : m < zss.length) q, xs[m]? = some q → OwnI (fun b => (S b ∨ (w.heap.size ≤ b ∧ b < w4.heap.size)) ∧ v'.ownBlock ≠ some b) w4 q zss[m] := fun m hm q hq => by
    obtain ⟨q2, a1, a2⟩ := h3 m hm
    obtain rfl : q2 = q := Option.some.inj (a1.symm.trans hq)
    have ha2 := a2.below hb1
    refine ha2.keep (fun b hb2 => hblk b (ha2.held hb2).2 (a2.held hb2).1.2) (fun g hg hS _ => ⟨.inl hS.1, fun e => ?_⟩)
    rcases hv' g e with h | ⟨h, -⟩
    · exact hS.2 h
    · have := (a2.held hg).2; omega
  have hnew : OwnI (fun b => (S b ∨ (w.heap.size ≤ b ∧ b < w4.heap.size)) ∧ v'.ownBlock ≠ some b) w4 r zs := by
    have hr1 := hr.below hby
    refine hr1.keep (fun b hb2 => hblk b (hr1.held hb2).2 (fun e => by have := own_lt h1 e; have := (hr.held hb2).1; omega)) (fun g hg hS hl => ⟨.inr ⟨hS, ?_⟩, fun e => ?_⟩)
    · have := hgr.size; omega
    · have hlt := (hr.held hg).2
      rcases hv' g e with h | ⟨h, -⟩
      · have := own_lt h1 h; omega
      · omega
  refine ⟨v', w4, hrun, ⟨xs ++ [r], by simpa using hown, fun g hg => ?_, fun j hj => ?_, fun i j ri rj hij hi hj g hgi hgj => ?_⟩, hgr⟩
  · rcases hv' g hg with h | ⟨h, h2⟩
    · exact .inl (h2 g h)
    · exact .inr ⟨by omega, h2⟩
  · by_cases e : j = zss.length
    · subst e
      exact ⟨r, by rw [List.getElem?_append_right (by omega)]; simp [hxl], by simpa using hnew⟩
    · have hj' : j < zss.length := by simp at hj; omega
      obtain ⟨q, a1, -⟩ := h3 j hj'
      refine ⟨q, by rw [List.getElem?_append_left (by omega)]; exact a1, ?_⟩
      rw [List.getElem_append_left hj']
      exact old j hj' q a1
  · have low : ∀ m rm, m < zss.length → (xs ++ [r])[m]? = some rm → xs[m]? = some rm := fun m rm hm h => by rwa [List.getElem?_append_left (by omega)] at h
    have top : ∀ m rm, ¬ m < zss.length → (xs ++ [r])[m]? = some rm → rm = r := fun m rm hm h => by
      rw [List.getElem?_append_right (by omega)] at h
      have hl := (List.getElem?_eq_some_iff.1 h).1
      have : m - xs.length = 0 := by simpa using hl
      rw [this] at h; simpa using h.symm
    have key : ∀ m rm, m < zss.length → xs[m]? = some rm → ∀ g, rm.held = some g → r.held ≠ some g := fun m rm hm hx g h1g h2g => by
      obtain ⟨q, a1, a2⟩ := h3 m hm
      obtain rfl : q = rm := Option.some.inj (a1.symm.trans hx)
      have := (a2.held h1g).2
      have := (hr.held h2g).1
      omega
    by_cases ei : i < zss.length
    · by_cases ej : j < zss.length
      · exact h4 i j ri rj hij (low i ri ei hi) (low j rj ej hj) g hgi hgj
      · obtain rfl := top j rj ej hj
        exact key i ri ei (low i ri ei hi) g hgi hgj
    · obtain rfl := top i ri ei hi
      by_cases ej : j < zss.length
      · exact key j rj ej (low j rj ej hj) g hgj hgi
      · exfalso
        have hl1 := (List.getElem?_eq_some_iff.1 hi).1
        have hl2 := (List.getElem?_eq_some_iff.1 hj).1
        simp only [List.length_append, List.length_singleton] at hl1 hl2
        omega
end Go.Proofs.YtmhbonbjnpcpeaaGreatDoor
namespace Go.Proofs.YtmhbonbjnpcpeaaGreatDoor
open Go.RowKit
set_option linter.unusedVariables false
set_option linter.unusedSimpArgs false
section
variable {P : Program} {ops : Array Oper} {md : Region.Mode}

/-- What an operation of the list yields: this value; a slice, or a slice of slices, of its own; the empty literal; a fresh box; something else that stays where blocks are only added. -/
inductive Made where
  | is (v : Value)
  | ints (zs : List Int)
  | rows (zss : List (List Int))
  | zero
  | box (cs : Array Value) (t : TypeId)
  | fn (ps : List Nat) (f : List Value → Value)
  | own (F : (Nat → Prop) → World → Value → Prop) (h : ∀ S w w' v, F S w v → Below w.heap.size w w' → F S w' v)
def Made.means (m : Made) (val : Nat → Value) (v : Value) (lo hi : Nat) (w : World) : Prop :=
  match m with
  | .is u => v = u
  | .ints zs => OwnI (In lo hi) w v zs
  | .rows zss => OwnR (In lo hi) w v zss
  | .zero => ∃ g, v = .slice (some ⟨g, 0, none⟩) 0 0
  | .box cs t => v = .pointer (some ⟨lo, 0, none⟩) ∧ w.heap[lo]? = some (.cells cs t (0, 0)) ∧ lo < hi
  | .fn ps f => v = f (ps.map val)
  | .own F _ => F (In lo hi) w v
def Made.val (m : Made) (x : Value) : Value := match m with | .is v => v | _ => x
theorem Made.stable {m : Made} {val : Nat → Value} {v : Value} {lo hi : Nat} {w w' : World} (h : m.means val v lo hi w) (b : Below w.heap.size w w') : m.means val v lo hi w' := by
  cases m with
  | is u => exact h
  | ints zs => exact OwnI.below h b
  | rows zss => exact OwnR.below h b
  | zero => exact h
  | box cs t => exact ⟨h.1, (b.block _ (Array.getElem?_eq_some_iff.1 h.2.1).1).trans h.2.1, h.2.2⟩
  | fn ps f => exact h
  | own F hF => exact hF _ _ _ _ h b
theorem Made.val_eq {m : Made} {val : Nat → Value} {x : Value} {lo hi : Nat} {w : World} (h : m.means val x lo hi w) : m.val x = x := by
  cases m with
  | is u => exact h.symm
  | _ => rfl
abbrev Row := Nat × Option Tmp × Made
def putT (val : Nat → Value) (T : List Row) (a : Act) : Act := T.foldl (fun a e => a.put e.2.1 (e.2.2.val (val e.1))) a
/-- The table's row numbers, in order, each but once; each row's slot is its operation's. -/
def Made.deps (m : Made) : List Nat := match m with | .fn ps _ => ps | _ => []
def tabB (md : Region.Mode) (ops : Array Oper) (T : List Row) : Bool := T.all fun e => dstOf ops e.1 == e.2.1 && e.2.2.deps.all fun p => (T.map (·.1)).contains p && predOf md ops e.1 p
theorem Made.cong {m : Made} {val val' : Nat → Value} {v : Value} {lo hi : Nat} {w : World} (h : m.means val v lo hi w) (hd : ∀ p ∈ m.deps, val p = val' p) : m.means val' v lo hi w := by
  cases m with
  | fn ps f =>
    show v = f (ps.map val')
    have e : ps.map val = ps.map val' := List.map_congr_left (fun p hp => hd p hp)
    rw [← e]; exact h
  | _ => exact h
/-- The rows that must have come up ahead of operation j. -/
def predsT (md : Region.Mode) (ops : Array Oper) (T : List Row) (j : Nat) : List Row := T.filter fun e => predOf md ops j e.1
def StepsT (P : Program) (md : Region.Mode) (ops : Array Oper) (w0 : World) (a0 : Act) (T : List Row) (L : List Row) : Prop :=
  ∀ e ∈ L, ∀ w val (iv : Nat → Nat × Nat), Below w0.heap.size w0 w → (∀ p ∈ predsT md ops T e.1, p.2.2.means val (val p.1) (iv p.1).1 (iv p.1).2 w) →
    wpOp P ops (fun _ _ _ => False) e.1 (fun a' w' => ∃ v, a' = (putT val (predsT md ops T e.1) a0).put e.2.1 v ∧ e.2.2.means val v w.heap.size w'.heap.size w' ∧ Below w.heap.size w w') (putT val (predsT md ops T e.1) a0) w
theorem StepsT.nil {w0 : World} {a0 : Act} {T : List Row} : StepsT P md ops w0 a0 T [] := fun j hj => by cases hj
/-- One step: o its operation, ps the rows ahead of it. -/
theorem StepsT.cons {w0 : World} {a0 : Act} {T L : List Row} {e : Row} {o : Oper} (ps : List Row) (ho : ops[e.1]? = some o) (hp : predsT md ops T e.1 = ps) (hd : o.dst = e.2.1)
    (h : ∀ w val (iv : Nat → Nat × Nat), Below w0.heap.size w0 w → (∀ p ∈ ps, p.2.2.means val (val p.1) (iv p.1).1 (iv p.1).2 w) → ∀ K : Act → World → Prop, Shut (∀ v w', e.2.2.means val v w.heap.size w'.heap.size w' → Below w.heap.size w w' → K ((putT val ps a0).put o.dst v) w') →
      if Region.wanted o (yielded ops (putT val ps a0).tmps) = true then Oper.wp P o (putT val ps a0) w K (fun _ _ _ => False) else K ((putT val ps a0).put o.dst undef) w)
    (hs : StepsT P md ops w0 a0 T L) : StepsT P md ops w0 a0 T (e :: L) := fun i hi => by
  rcases List.mem_cons.1 hi with rfl | hi
  · intro w val iv hB hV
    rw [hp] at hV ⊢
    exact wpOp_step ho (fun K hK => h w val iv hB hV K (fun v w' hv hb => hK _ _ ⟨v, by rw [hd], hv, hb⟩))
  · exact hs i hi
theorem tab_find {T : List Row} (hn : (T.map (·.1)).Nodup) {e : Row} (he : e ∈ T) : T.find? (fun x => x.1 == e.1) = some e := by
  induction T with
  | nil => cases he
  | cons x T ih =>
    rw [List.map_cons, List.nodup_cons] at hn
    by_cases h : x.1 = e.1
    · rcases List.mem_cons.1 he with rfl | he
      · simp
      · exact absurd (List.mem_map.2 ⟨e, he, h.symm⟩) hn.1
    · have he' : e ∈ T := by
        rcases List.mem_cons.1 he with rfl | he
        · exact absurd rfl h
        · exact he
      rw [List.find?_cons_of_neg (by simpa using h)]
      exact ih hn.2 he'
theorem putT_eq {val : Nat → Value} {L : List Row} (hd : ∀ e ∈ L, dstOf ops e.1 = e.2.1) (hv : ∀ e ∈ L, e.2.2.val (val e.1) = val e.1) : ∀ a : Act, putAll ops val (L.map (·.1)) a = putT val L a := by
  induction L with
  | nil => intro a; rfl
  | cons x L ih =>
    intro a
    show putAll ops val (L.map (·.1)) (a.put (dstOf ops x.1) (val x.1)) = putT val L (a.put x.2.1 (x.2.2.val (val x.1)))
    rw [hd x List.mem_cons_self, hv x List.mem_cons_self, ih (fun e he => hd e (List.mem_cons_of_mem _ he)) (fun e he => hv e (List.mem_cons_of_mem _ he))]
/-- All operations of the table come up, in whatever order: each by its own contract; what they have made lies apart. -/
theorem wpAny_table {Q : Exit → Act → World → Prop} (T : List Row) {w0 ws : World} {a0 : Act} (n : Nat) {listed : Array Bool} (B0 : Below w0.heap.size w0 ws) (hB : jointB md ops listed (T.map (·.1)) = true) (hT : tabB md ops T = true) (hsel : Region.noSelect ops = true)
    (step : StepsT P md ops w0 a0 T T)
    (fin : ∀ w val (iv : Nat → Nat × Nat), Below w0.heap.size w0 w → (∀ e ∈ T, e.2.2.means val (val e.1) (iv e.1).1 (iv e.1).2 w ∧ w0.heap.size ≤ (iv e.1).1 ∧ (iv e.1).2 ≤ w.heap.size) → (∀ i ∈ T.map (·.1), ∀ j ∈ T.map (·.1), i ≠ j → (iv i).2 ≤ (iv j).1 ∨ (iv j).2 ≤ (iv i).1) → wpAny P md ops Q n (listAll listed (T.map (·.1))) (putT val T a0) w) :
    wpAny P md ops Q (n + T.length) listed a0 ws := by
  have hOK := jointOK hB
  have hT2 : ∀ e ∈ T, dstOf ops e.1 = e.2.1 ∧ ∀ p ∈ e.2.2.deps, p ∈ T.map (·.1) ∧ predOf md ops e.1 p = true := fun e he => by
    have := List.all_eq_true.1 hT e he
    simp only [Bool.and_eq_true, beq_iff_eq, List.all_eq_true, List.contains_iff_mem] at this
    exact this
  have hd : ∀ e ∈ T, dstOf ops e.1 = e.2.1 := fun e he => (hT2 e he).1
  have hf := fun {e : Row} (he : e ∈ T) => tab_find hOK.nodup he
  have hmem : ∀ {e : Row}, e ∈ T → e.1 ∈ T.map (·.1) := fun he => List.mem_map.2 ⟨_, he, rfl⟩
  have hpre : ∀ j, (T.map (·.1)).filter (predOf md ops j) = (predsT md ops T j).map (·.1) := fun j => by unfold predsT; rw [List.filter_map]; rfl
  have hirr : ∀ e ∈ T, predOf md ops e.1 e.1 = false := fun e he => by
    obtain ⟨-, -, ⟨o, ho, h⟩, -⟩ := hOK.each e.1 (hmem he)
    cases hp : predOf md ops e.1 e.1 with
    | false => rfl
    | true =>
      obtain ⟨ed, hed, hb, hon⟩ := (predOf_iff ho).1 hp
      have hun := (hOK.each e.1 (hmem he)).2.1
      rcases h ed hed hb with h | ⟨-, h⟩
      · rw [hon] at h
        have hs : e.1 < listed.size := by rw [hOK.size]; exact (hOK.each e.1 (hmem he)).1
        simp [hs] at h hun
        rw [hun] at h; cases h
      · omega
  have h := wpAny_core (P := P) (Q := Q) (V := fun j val iv w => match T.find? (fun x => x.1 == j) with | some e => e.2.2.means val (val j) (iv j).1 (iv j).2 w | none => True) (w0 := w0) (a0 := a0) (n := n) hOK hsel
    (fun j hj val val' iv iv' w hc hv => by
      obtain ⟨e, he, rfl⟩ := List.mem_map.1 hj
      simp only [hf he] at hv ⊢
      obtain ⟨c1, c2⟩ := hc e.1 (.inl rfl)
      rw [← c1, ← c2]
      exact Made.cong hv (fun p hp => (hc p (.inr ((hT2 e he).2 p hp))).1))
    (fun j hj val iv w w' hv b => by
      obtain ⟨e, he, rfl⟩ := List.mem_map.1 hj
      simp only [hf he] at hv ⊢
      exact Made.stable hv b)
    (fun j hj w val iv B hV => by
      obtain ⟨e, he, rfl⟩ := List.mem_map.1 hj
      simp only [hf he]
      have hV2 : ∀ p ∈ predsT md ops T e.1, p.2.2.means val (val p.1) (iv p.1).1 (iv p.1).2 w := fun p hp => by
        obtain ⟨h1, h2⟩ := List.mem_filter.1 hp
        have := hV p.1 (hmem h1) h2
        simp only [hf h1] at this
        exact this
      have := step e he w val iv B hV2
      rw [hpre, putT_eq (L := predsT md ops T e.1) (fun p hp => hd p (List.mem_filter.1 hp).1) (fun p hp => Made.val_eq (hV2 p hp)), hd e he]
      refine wpOp_mono ?_ this
      rintro a' w' ⟨v, h1, h2, h3⟩
      refine ⟨v, h1, ?_, h3⟩
      simp only [if_true]
      exact Made.cong h2 (fun p hp => by
        have hne : p ≠ e.1 := fun e2 => by
          have := ((hT2 e he).2 p hp).2
          rw [e2, hirr e he] at this; cases this
        simp only [if_neg hne]))
    (fun w val iv B hV hD => by
      have hV2 : ∀ e ∈ T, e.2.2.means val (val e.1) (iv e.1).1 (iv e.1).2 w ∧ w0.heap.size ≤ (iv e.1).1 ∧ (iv e.1).2 ≤ w.heap.size := fun e he => by
        have := hV e.1 (hmem he)
        simp only [hf he] at this
        exact this
      rw [putT_eq hd (fun e he => Made.val_eq (hV2 e he).1)]
      exact fin w val iv B hV2 hD)
    T.length (fun _ => false) (fun _ => undef) (fun _ => (0, 0)) ws ((congrArg List.length (List.filter_eq_self.2 (fun _ _ => rfl))).trans (List.length_map ..)) (fun _ _ h => by cases h) B0 (fun _ _ h => by cases h) (fun _ _ _ _ h => by cases h)
  have e : (T.map (·.1)).filter (fun _ => false) = [] := List.filter_eq_nil_iff.2 (fun _ _ => by simp)
  rw [e] at h
  exact h
/-- The next operation is forced. -/
theorem wpAny_one {Q : Exit → Act → World → Prop} {i : Nat} {o : Oper} {fuel : Nat} {listed : Array Bool} {a : Act} {w : World} (hr : Region.ready md ops listed = [i]) (ho : ops[i]? = some o)
    (h : ∀ K : Act → World → Prop, Shut (∀ a w, wpAny P md ops Q fuel (listed.setIfInBounds i true) a w → K a w) → if Region.wanted o (yielded ops a.tmps) = true then Oper.wp P o a w K Q else K (a.put o.dst undef) w) : wpAny P md ops Q (fuel + 1) listed a w :=
  ⟨fun e => (by rw [hr] at e; cases e), fun j hj => by
    rw [hr] at hj
    obtain rfl : j = i := by simpa using hj
    exact wpOp_step ho h⟩
theorem wpAny_end {Q : Exit → Act → World → Prop} {fuel : Nat} {listed : Array Bool} {a : Act} {w : World} (hr : Region.ready md ops listed = []) (h : Q .normal a w) : wpAny P md ops Q fuel listed a w := by
  cases fuel with
  | zero => exact ⟨hr, h⟩
  | succ n => exact ⟨fun _ => h, fun i hi => by rw [hr] at hi; cases hi⟩
/-- **A region that draws its order**: the table's operations in whatever order, then the rest. -/
theorem wp_region_table {Q : Exit → Act → World → Prop} {id : Nat} {a : Act} {w : World} (T : List Row) (n : Nat) (hm : P.follows .mixedOrders = true) (hn : ops.size = n + T.length) (hB : jointB .any ops (Array.replicate ops.size false) (T.map (·.1)) = true) (hT : tabB .any ops T = true) (hsel : Region.noSelect ops = true) {L : Array Bool} (hL : listAll (Array.replicate ops.size false) (T.map (·.1)) = L)
    (step : StepsT P .any ops w a T T)
    (fin : ∀ w' val (iv : Nat → Nat × Nat), Below w.heap.size w w' → (∀ e ∈ T, e.2.2.means val (val e.1) (iv e.1).1 (iv e.1).2 w' ∧ w.heap.size ≤ (iv e.1).1 ∧ (iv e.1).2 ≤ w'.heap.size) → (∀ i ∈ T.map (·.1), ∀ j ∈ T.map (·.1), i ≠ j → (iv i).2 ≤ (iv j).1 ∨ (iv j).2 ≤ (iv i).1) → wpAny P .any ops Q n L (putT val T a) w') :
    (Code.region id ops true).wp P Q a w :=
  wp_region_any hm (by
    have h := wpAny_table (P := P) (Q := Q) T n (w0 := w) (ws := w.drew) (a0 := a) ((Below.refl _ _).drew) hB hT hsel step (by rw [hL]; exact fin)
    rw [← hn] at h
    exact h)
theorem step_append_runM {Q : Exit → Act → World → Prop} {o : Oper} {a : Act} {w : World} {K : Act → World → Prop} {E : Prop} (hg : o.guard = none) (s x : Operand) (t tn : TypeId)
    (ho : o.op = .call { callee := .builtin .append, args := #[s, x], argTypes := #[t, tn] }) (vs vx : Value) (hs : a.eval s = vs) (hx : a.eval x = vx)
    (v' : Value) (w' : World) (hr : (Builtin.append_ #[t, tn] o.type #[vs, vx]).run P w = .ok v' w') (h : K (a.put o.dst v') w') : if Region.wanted o (yielded ops a.tmps) = true then Oper.wp P o a w K Q else E := by
  have hw : Region.wanted o (yielded ops a.tmps) = true := by simp [Region.wanted, hg]
  rw [if_pos hw]
  exact Lib.wp_append_run w s x t tn ho vs vx hs hx v' w' hr h
/-- An appended copy: to an empty literal. -/
theorem append_copy {w : World} {g : Nat} {vr : Value} {zs : List Int} {b : Nat} (hr : RdAt .i64 w vr zs b) (hl : zs.length ≤ 1048576) (ty : TypeId) :
    ∃ v' w', (Builtin.append_ #[22, 22] ty #[.slice (some ⟨g, 0, none⟩) 0 0, vr]).run Tryz.prog w = .ok v' w' ∧ OwnI (In w.heap.size w'.heap.size) w' v' zs ∧ Below w.heap.size w w' := by
  obtain ⟨i0, hi, hz0, hz1, hz2⟩ := info_parts info_i64
  have hwf := hr.wf
  rcases hr.open with ⟨rfl, ad, cap, rfl, hcm, hnil⟩ | ⟨hne, off, cap, rfl, hcap, hc⟩
  · refine ⟨.slice (some ⟨g, 0, none⟩) 0 0, w, ?_, OwnI.nil _ _ _, Below.refl _ _⟩
    cases ad with
    | none =>
      have hc0 := hnil rfl
      subst hc0
      simp [Builtin.append_, run_underlying Tryz.underlying22, sizeOf, typeInfo, hi, Builtin.lenOf, Builtin.firstCells, storeCells]
    | some ad => simp [Builtin.append_, run_underlying Tryz.underlying22, sizeOf, typeInfo, hi, Builtin.lenOf, Builtin.firstCells, storeCells, loadCells, loadCellsFrom]
  · obtain ⟨v', w', hrun, hown, hgr⟩ := run_append_arg_grows (P := Tryz.prog) w 22 ty 3 i0 (.int .i64 0) 1 8 Tryz.underlying22 hi hz0 hz1 hz2 rfl (by decide) ⟨g, 0, none⟩ 0 0 [] rfl (by intro j u hu; simp at hu) ⟨b, off, none⟩ zs.length cap (zs.map (Value.int .i64)) (by simp) (fun j u hu => by
        have hj : j < zs.length := by have := (List.getElem?_eq_some_iff.1 hu).1; simpa using this
        have e2 : (⟨b, off, none⟩ : Addr).add j = ⟨b, off + j, none⟩ := by simp [Addr.add]
        rw [e2, hc j hj]
        simpa [hj] using hu) (by have := List.length_pos_iff.2 hne; omega) (by unfold maxLen; omega) (by omega)
    exact ⟨v', w', hrun, OwnI.of (zs := zs) (by simpa using hown) hwf, (Below.refl _ _).grown hgr (Nat.le_refl _) (fun k hk => by cases hk)⟩
end
end Go.Proofs.YtmhbonbjnpcpeaaGreatDoor
namespace Go.Proofs.YtmhbonbjnpcpeaaGreatDoor
open Go.RowKit

theorem growI_nil (n : Nat) (w : World) (hn : n ≤ 4194304) :
    Calls Tryz.prog 59 #[.slice none 0 0, .int .i64 n] w fun e w' => ∃ v', e = .returned v' ∧ w'.ownsRow w.heap.size 3 1 v' 0 [] ∧ w.grownBy w' none := by
  obtain ⟨i0, hi, hz0, hz1, hz2⟩ := info_parts info_i64
  by_cases h0 : n = 0
  · subst h0
    go_enter Tryz.func59, Tryz.ntmps59
    go_wp2_with fail
    go_ret
    exact ⟨_, rfl, World.ownsRow_nil w w.heap.size 3 1, ⟨rfl, rfl, rfl, Nat.le_refl _, fun _ _ _ => rfl⟩⟩
  · have hs : 0 < i0.size := by rw [hz1]; decide
    have hrz : ∀ ty, (Builtin.append_ #[22, 3] ty #[.slice none 0 0, .int .i64 (n : Int)]).run Tryz.prog w =
        .ok (.slice (some ⟨w.heap.size, 0, none⟩) n (grownCap w n 0 3)) (w.drew.alloc (.cells (Builtin.zeroCells #[.int .i64 0] n ++ Builtin.zeroCells #[.int .i64 0] (grownCap w n 0 3 - n)) 3)) := fun ty => by
      have h := Lib.run_append_grow_zeros w 22 3 ty 3 i0 (.int .i64 0) .i64 .i64 Tryz.underlying22 Tryz.underlying3 hi hz0 none 0 0 [] (run_firstCells_none _ _ _ _ _) n (by omega) hs (by omega) (by omega) (by rw [hz2]; omega)
        (by have := growslice_fits (need := 0 + n) (old := 0) (bytes := i0.bytes) (by omega) (by rw [hz2]; omega); exact this)
      simpa [Value.cells] using h
    have hG := grownCap_ge w n 0 3
    have hGm := grownCap_le_maxLen w n 0 3 (by unfold maxLen; omega)
    obtain ⟨G, hGe⟩ : ∃ G, G = grownCap w n 0 3 := ⟨_, rfl⟩
    rw [← hGe] at hrz hG hGm
    have Hm := Lib.hid hGm
    have hG2 : G ≤ 9223372036854775807 := by unfold maxLen at hGm; omega
    clear hGe hGm hi hz0 hz1 hz2 hs
    have hnz : (n : Int) > 0 := by omega
    go_enter Tryz.func59, Tryz.ntmps59
    go_wp2_with (at_builtin; refine Lib.wpList_append_run _ rfl _ _ _ _ rfl _ _ rfl rfl _ _ (hrz _) ?_)
    all_goals
      go_ret
      refine ⟨_, rfl, ⟨rfl, .inr ⟨w.heap.size, G, _, rfl, Nat.le_refl _, heap_alloc_new _ _, Nat.zero_le _, Hm.out, ?_, by simp⟩⟩, ⟨rfl, rfl, rfl, by simp, fun k hk _ => by
        show (w.heap.push _)[k]? = w.heap[k]?
        rw [Array.getElem?_push, if_neg (by omega)]⟩⟩
      simp [Builtin.zeroCells]
      omega

set_option linter.unusedVariables false in
set_option maxRecDepth 100000 in
set_option maxHeartbeats 1000000 in
theorem catI_any (va vb : Value) (ua ub : List Value) (blk off cap : Nat) (w : World) (ha : RdVals w va ua) (hb : RdVals w vb ub) (h0 : w.cell? ⟨blk, off, none⟩ = some va) (h1 : w.cell? ⟨blk, off + 1, none⟩ = some vb)
    (hcap : 2 ≤ cap) (la : ua.length ≤ 1048576) (lb : ub.length ≤ 1048576) (oa : ∀ u ∈ ua, u.oneCell' = true) (ob : ∀ u ∈ ub, u.oneCell' = true) :
    Calls Tryz.prog 44 #[.slice (some ⟨blk, off, none⟩) 2 cap] w fun e w' => ∃ v', e = .returned v' ∧ w'.ownsRow w.heap.size 3 1 v' (ua.length + ub.length) (ua ++ ub) ∧ Below w.heap.size w w' := by
  obtain ⟨i0, hi, hz0, hz1, hz2⟩ := info_parts info_i64
  obtain ⟨pa, ca, ea, -⟩ := id ha
  obtain ⟨pb, cb, eb, -⟩ := id hb
  subst ea eb
  obtain ⟨na, hna⟩ : ∃ na, na = ua.length := ⟨_, rfl⟩
  obtain ⟨nb, hnb⟩ : ∃ nb, nb = ub.length := ⟨_, rfl⟩
  rw [← hna] at la h0 ha ⊢
  rw [← hnb] at lb h1 hb ⊢
  have Hna := Lib.hid hna
  have Hnb := Lib.hid hnb
  have HA := Lib.hid ha
  have HB := Lib.hid hb
  have HC := Lib.hid (fun wx (hx : Below w.heap.size w wx) => And.intro (show wx.cell? ⟨blk, off, none⟩ = some _ by rw [hx.cell (p := ⟨blk, off, none⟩) (World.block_lt_of_cell? _ _ h0)]; exact h0) (show wx.cell? ⟨blk, off + 1, none⟩ = some _ by rw [hx.cell (p := ⟨blk, off + 1, none⟩) (World.block_lt_of_cell? _ _ h1)]; exact h1))
  have HG := Lib.hid (growI_nil (na + nb) w (by omega))
  have hpc : ((na + nb : Nat) : Int) = (na : Int) + (nb : Int) := by omega
  rw [hpc] at HG
  clear hna hnb ha hb hpc
  go_enter Tryz.func44, Tryz.ntmps44
  go_wp2_with fail
  refine wp_loop_rounds 3 ?_
  rw [rounds_succ]
  go_wp2_with fail
  rw [rounds_succ]
  go_wp2_with fail
  rw [rounds_succ]
  go_wp2_with fail
  refine HG.out.mono ?_
  rintro e w2 ⟨v2, rfl, hown2, hgr2⟩
  obtain ⟨p2, c2, e2⟩ := own_shape hown2
  subst e2
  have B2 : Below w.heap.size w w2 := (Below.refl _ _).grown hgr2 (Nat.le_refl _) (fun k hk => by cases hk)
  obtain ⟨v3, w3, hr3, hown3, hgr3⟩ := run_append_vals w2 w.heap.size 22 22 3 i0 (.int .i64 0) 8 Tryz.underlying22 hi hz0 hz1 hz2 rfl _ 0 [] hown2 _ ua (HA.out.below B2) oa (by rw [← Hna.out]; unfold maxLen; omega) (by rw [← Hna.out]; omega) B2.size
  have B3 := B2.grown hgr3 B2.size (own_block hown2)
  rw [← Hna.out, Nat.zero_add, List.nil_append] at hown3
  obtain ⟨p3, c3, e3⟩ := own_shape hown3
  subst e3
  obtain ⟨v4, w4, hr4, hown4, hgr4⟩ := run_append_vals w3 w.heap.size 22 22 3 i0 (.int .i64 0) 8 Tryz.underlying22 hi hz0 hz1 hz2 rfl _ _ _ hown3 _ ub (HB.out.below B3) ob (by rw [← Hnb.out]; unfold maxLen; omega) (by rw [← Hnb.out]; omega) B3.size
  have B4 := B3.grown hgr4 B3.size (own_block hown3)
  rw [← Hnb.out] at hown4
  obtain ⟨p4, c4, e4⟩ := own_shape hown4
  subst e4
  obtain ⟨d0, d1⟩ := HC.out w2 B2
  obtain ⟨d2, d3⟩ := HC.out w3 B3
  have Hown4 := Lib.hid hown4
  have HB4 := Lib.hid B4
  clear hown2 hown3 hown4 hgr2 hgr3 hgr4 B2 B3 B4 hi hz0 hz1 hz2
  have Q3 := Lib.hid hr3
  have Q4 := Lib.hid hr4
  clear hr3 hr4
  go_wp2_with fail
  refine wp_loop_rounds 3 ?_
  rw [rounds_succ]
  go_wp2_with (at_builtin; refine Lib.wpList_append_run _ rfl _ _ _ _ rfl _ _ rfl rfl _ _ Q3.out ?_)
  rw [rounds_succ]
  go_wp2_with (at_builtin; refine Lib.wpList_append_run _ rfl _ _ _ _ rfl _ _ rfl rfl _ _ Q4.out ?_)
  rw [rounds_succ]
  go_wp2_with fail
  go_ret
  exact ⟨_, rfl, Hown4.out, HB4.out⟩
end Go.Proofs.YtmhbonbjnpcpeaaGreatDoor
namespace Go.Proofs.YtmhbonbjnpcpeaaGreatDoor
open Go.RowKit
set_option linter.unusedVariables false
set_option linter.unusedSimpArgs false

set_option maxRecDepth 100000 in
set_option maxHeartbeats 1000000 in
theorem catAll_any (v : Value) (zss : List (List Int)) (w : World) (h : RdRows .i64 w v zss) (hl : zss.length ≤ 1048576) (hl2 : sumLen zss ≤ 4194304) :
    Calls Tryz.prog 44 #[v] w fun e w' => ∃ v', e = .returned v' ∧ w'.ownsRow w.heap.size 3 1 v' (sumLen zss) (zss.flatten.map (Value.int .i64)) ∧ Below w.heap.size w w' := by
  obtain ⟨i0, hi, hz0, hz1, hz2⟩ := info_parts info_i64
  have Hrow := Lib.hid (fun wx (hb : Below w.heap.size w wx) j (hj : j < zss.length) => (h.below hb).row hj)
  obtain ⟨a, cap, rfl, hcap, -⟩ := id h
  obtain ⟨n, hn⟩ : ∃ n, n = zss.length := ⟨_, rfl⟩
  have Hn := Lib.hid hn
  have Hst : Hid (∀ j, sumLen (zss.take j) ≤ 4194304) := Lib.hid (fun j => Nat.le_trans (sumLen_take_le zss j) hl2)
  have Hsum : Hid (∀ j (hj : j < zss.length), zss[j].length ≤ 4194304) := Lib.hid (fun j hj => Nat.le_trans (len_le_sum zss hj) hl2)
  have HTk := Lib.hid (fun j (hj : j < zss.length) => sumLen_take zss j hj)
  have HFk := Lib.hid (fun j (hj : j < zss.length) => flat_take zss j hj)
  have HAll : Hid (sumLen (zss.take n) = sumLen zss ∧ (zss.take n) = zss) := Lib.hid ⟨by rw [hn, List.take_length], by rw [hn, List.take_length]⟩
  obtain ⟨tot, htot⟩ : ∃ t, t = sumLen zss := ⟨_, rfl⟩
  rw [← htot] at hl2 HAll ⊢
  rw [← hn] at hl ⊢
  have HG := Lib.hid (growI_nil tot w hl2)
  clear hn h hcap htot
  go_enter Tryz.func44, Tryz.ntmps44
  go_wp2_with fail
  go_loopw [3, 5, 11] (fun s _ i wr => ∃ k : Nat, k ≤ n ∧ i = .int .i64 k ∧ w = wr ∧ s = .int .i64 (sumLen (zss.take k) : Nat)) (fun _ _ i _ => n - (intOf i).toNat)
  case atStart => exact ⟨0, Nat.zero_le _, rfl, by trivial, rfl⟩
  case round =>
    obtain ⟨k, hk, rfl, rfl, rfl⟩ := hrel
    have hst := Hst.out k
    by_cases hlt : k < n
    · have hz : k < zss.length := by rw [← Hn.out]; exact hlt
      obtain ⟨blk, off, cap', p, c, b, hv, hc, hr, -⟩ := Hrow.out w (Below.refl _ _) k hz
      have ha := (Value.slice.inj hv).1
      clear hv
      subst ha
      have hsm := Hsum.out k hz
      have HTj := Lib.hid (HTk.out k hz)
      obtain ⟨m, hm⟩ : ∃ m, m = zss[k].length := ⟨_, rfl⟩
      obtain ⟨s, hs⟩ : ∃ s, s = sumLen (zss.take k) := ⟨_, rfl⟩
      rw [← hm] at hc hsm HTj
      rw [← hs] at hst HTj ⊢
      clear hm hs hr
      have nn : decide ((s : Int) + (m : Int) < 0) = false := by simp; omega
      go_wp2_with fail
      go_roundw
      case rel => exact ⟨k + 1, by omega, by go_num, by trivial, by rw [HTj.out]; go_num⟩
      case measure => simp [intOf]; omega
    · obtain rfl : k = n := by omega
      rw [HAll.out.1]
      clear hst
      go_wp2_with fail
      refine HG.out.mono ?_
      rintro e w2 ⟨v2, rfl, hown2, hgr2⟩
      have B2 : Below w.heap.size w w2 := (Below.refl _ _).grown hgr2 (Nat.le_refl _) (fun k hk => by cases hk)
      clear hgr2
      go_wp2_with fail
      go_loopw [6, 8, 27] (fun o _ i wr => ∃ q : Nat, q ≤ k ∧ i = .int .i64 q ∧ Below w.heap.size w wr ∧ wr.ownsRow w.heap.size 3 1 o (sumLen (zss.take q)) ((zss.take q).flatten.map (Value.int .i64))) (fun _ _ i _ => k - (intOf i).toNat)
      case atStart => exact ⟨0, Nat.zero_le _, rfl, B2, by simpa [sumLen] using hown2⟩
      case round =>
        clear hown2 B2
        obtain ⟨q, hq, rfl, B, hown⟩ := hrel
        by_cases hqlt : q < k
        · have hz : q < zss.length := by rw [← Hn.out]; exact hqlt
          obtain ⟨blk, off, cap', p, c, b, hv, hc, hr, -⟩ := Hrow.out wr B q hz
          have ha := (Value.slice.inj hv).1
          clear hv
          subst ha
          have hsm := Hsum.out q hz
          have hst := Hst.out (q + 1)
          have HTj := HTk.out q hz
          have HFj := HFk.out q hz
          obtain ⟨op, oc, eo⟩ := own_shape hown
          subst eo
          obtain ⟨v3, w3, hr3, hown3, hgr3⟩ := run_append_vals wr w.heap.size 22 22 3 i0 (.int .i64 0) 8 Tryz.underlying22 hi hz0 hz1 hz2 rfl _ _ _ hown _ _ hr.vals int_one (by rw [List.length_map]; unfold maxLen; omega) (by rw [List.length_map]; omega) B.size
          rw [List.length_map] at hown3
          have hown4 : Hid (w3.ownsRow w.heap.size 3 1 v3 (sumLen (zss.take (q + 1))) ((zss.take (q + 1)).flatten.map (Value.int .i64))) := Lib.hid (by rw [HTj, HFj, List.map_append]; exact hown3)
          have B3 := B.grown hgr3 B.size (own_block hown)
          obtain ⟨op3, oc3, eo3⟩ := own_shape hown3
          subst eo3
          have Q3 := Lib.hid hr3
          clear hown hown3 hr3 hgr3 hr HTj HFj B hst
          obtain ⟨m, hm⟩ : ∃ m, m = zss[q].length := ⟨_, rfl⟩
          rw [← hm] at hc Q3 hsm hown4
          clear hm
          go_wp2_with (at_builtin; refine Lib.wpList_append_run _ rfl _ _ _ _ rfl _ _ rfl rfl _ _ Q3.out ?_)
          go_roundw
          case rel => exact ⟨q + 1, by omega, by go_num, B3, hown4.out⟩
          case measure => simp [intOf]; omega
        · obtain rfl : q = k := by omega
          rw [HAll.out.1, HAll.out.2] at hown
          have HO := Lib.hid hown
          obtain ⟨op, oc, eo⟩ := own_shape hown
          clear hown
          subst eo
          go_wp2_with fail
          go_ret
          exact ⟨_, rfl, HO.out, B⟩
end Go.Proofs.YtmhbonbjnpcpeaaGreatDoor
namespace Go.Proofs.YtmhbonbjnpcpeaaGreatDoor
open Go.RowKit
set_option linter.unusedVariables false
set_option linter.unusedSimpArgs false

theorem RdAt.ofOwn {w : World} {B : Nat} {v : Value} {zs : List Int} {n : Nat} (h : w.ownsRow B 3 1 v n (zs.map (Value.int .i64))) (hn : n = zs.length) (hw : ∀ x ∈ zs, (Lit.int .i64 x).wf = true) : ∃ b, B ≤ b ∧ RdAt .i64 w v zs b := by
  subst hn
  obtain ⟨b, hb, hr⟩ := own_wr h hw
  exact ⟨b, hb, hr.rd⟩
theorem own_baseG {w : World} {B B' : Nat} {E : TypeId} {size n : Nat} {v : Value} {xs : List Value} (h : w.ownsRow B E size v n xs) (hb : B' ≤ B) : w.ownsRow B' E size v n xs := by
  obtain ⟨h1, h2⟩ := h
  refine ⟨h1, h2.imp id ?_⟩
  rintro ⟨g, cap, cur, e, hg, r⟩
  exact ⟨g, cap, cur, e, Nat.le_trans hb hg, r⟩
/-- Three slices laid side by side. -/
theorem rows_three {w : World} {g : Nat} {v0 v1 v2 : Value} {z0 z1 z2 : List Int} {b0 b1 b2 : Nat} {t : TypeId} (hg : w.heap[g]? = some (.cells #[v0, v1, v2] t (0, 0))) (h0 : RdAt .i64 w v0 z0 b0) (h1 : RdAt .i64 w v1 z1 b1) (h2 : RdAt .i64 w v2 z2 b2) :
    RdRows .i64 w (.slice (some ⟨g, 0, none⟩) 3 3) [z0, z1, z2] := by
  refine ⟨_, 3, rfl, ⟨Nat.le_refl _, by unfold maxLen; decide, fun e => by cases e⟩, .inr ⟨g, 0, rfl, fun j hj => ?_⟩⟩
  have hc : ∀ i, w.cell? ⟨g, i, none⟩ = #[v0, v1, v2][i]? := fun i => by simp [World.cell?, hg]
  match j, hj with
  | 0, _ => exact ⟨v0, b0, by rw [hc]; rfl, h0⟩
  | 1, _ => exact ⟨v1, b1, by rw [hc]; rfl, h1⟩
  | 2, _ => exact ⟨v2, b2, by rw [hc]; rfl, h2⟩
theorem flat_wf {w : World} {v : Value} {zss : List (List Int)} (h : RdRows .i64 w v zss) : ∀ x ∈ zss.flatten, (Lit.int .i64 x).wf = true := by
  intro x hx
  obtain ⟨zs, hz, hx⟩ := List.mem_flatten.1 hx
  obtain ⟨j, hj, rfl⟩ := List.getElem_of_mem hz
  obtain ⟨blk, off, cap', p, c, b, hv, hc, hr, -⟩ := h.row hj
  exact hr.wf x hx
set_option maxRecDepth 100000 in
theorem isWhole_any (v : Value) (zs : List Int) (b : Nat) (w : World) (h : RdAt .i64 w v zs b) (hl : zs.length ≤ 1099511627776) (r : Bool) (hr : wholeB zs = r) :
    Calls Tryz.prog 73 #[v] w fun e w' => e = .returned (.bool r) ∧ Below w.heap.size w w' := by
  have HI := Lib.hid (isHand_any v zs b w h hl)
  obtain ⟨a, cap, rfl, -⟩ := h
  unfold wholeB at hr
  obtain ⟨n, hn⟩ : ∃ n, n = zs.length := ⟨_, rfl⟩
  rw [← hn] at hr hl HI ⊢
  clear hn
  obtain ⟨q, hq⟩ : ∃ q, ((n : Int) == 52) = q := ⟨_, rfl⟩
  obtain ⟨p, hp⟩ : ∃ p, isHand zs = p := ⟨_, rfl⟩
  rw [hq, hp] at hr
  rw [hp] at HI
  have HR := Lib.hid hr
  clear hr hp
  cases q with
  | false =>
    obtain rfl : false = r := HR.out
    go_enter Tryz.func73, Tryz.ntmps73
    go_wp2_with fail
    go_ret
    exact ⟨rfl, Below.refl _ _⟩
  | true =>
    obtain rfl : p = r := HR.out
    go_enter Tryz.func73, Tryz.ntmps73
    go_wp2_with fail
    refine HI.out.mono ?_
    rintro e w1 ⟨rfl, B1⟩
    go_wp2_with fail
    go_ret
    exact ⟨rfl, B1⟩
set_option maxRecDepth 100000 in
set_option maxHeartbeats 400000 in
theorem hasAll_any (v : Value) (D : MGame) (w : World) (h : RdGame w v D) (hf : D.Few) (r : Bool) (hr : wholeB (allG D) = r) :
    Calls Tryz.prog 57 #[v] w fun e w' => e = .returned (.bool r) ∧ Below w.heap.size w w' := by
  obtain ⟨p4, p5, p8, p9, p10, c4, c5, c8, c9, c10, b9, b10, rfl, h0, h8, h9, h10, wf0, wf1, wf2⟩ := h
  obtain ⟨f0, f8, fs8, f9, f10⟩ := hf
  have hfl := flat_len D.hands
  have hwf := flat_wf h8
  have HC := Lib.hid (fun wx (hb : Below w.heap.size w wx) => catAll_any _ D.hands wx (h8.below hb) f8 (by omega))
  have HC2 : Hid (∀ wx, Below w.heap.size w wx → ∀ v1 n1, wx.ownsRow w.heap.size 3 1 v1 n1 (D.hands.flatten.map (Value.int .i64)) → n1 = sumLen D.hands → ∀ g t, wx.heap[g]? = some (.cells #[v1, .slice p9 D.stock.length c9, .slice p10 D.heap.length c10] t (0, 0)) → Calls Tryz.prog 44 #[.slice (some ⟨g, 0, none⟩) 3 3] wx fun e w' => ∃ v' b', e = .returned v' ∧ RdAt .i64 w' v' (allG D) b' ∧ Below wx.heap.size wx w') := Lib.hid (fun wx hb v1 n1 hown hn g t hg => by
    obtain ⟨b1, -, hr1⟩ := RdAt.ofOwn hown (by rw [hn, hfl]) hwf
    have hrows := rows_three hg hr1 (h9.below hb) (h10.below hb)
    refine (catAll_any _ _ wx hrows (by simp) (by simp [sumLen, List.length_flatten]; simp [sumLen] at fs8; omega)).mono ?_
    rintro e w' ⟨v', rfl, hown', B'⟩
    have hfx : [D.hands.flatten, D.stock, D.heap].flatten = allG D := by simp [allG]
    rw [hfx] at hown'
    obtain ⟨b', -, hr'⟩ := RdAt.ofOwn hown' (by rw [← hfx, flat_len]) (fun x hx => by
      unfold allG at hx
      rcases List.mem_append.1 hx with hx | hx
      · exact hwf x hx
      · rcases List.mem_append.1 hx with hx | hx
        · exact h9.wf x hx
        · exact h10.wf x hx)
    exact ⟨v', b', rfl, hr', B'⟩)
  have hla : (allG D).length ≤ 1099511627776 := by unfold allG; simp only [List.length_append]; omega
  obtain ⟨W0, hW0⟩ : ∃ W0, W0 = w.alloc (.cells #[.int .i64 D.rules.players, .int .i64 D.rules.each, .bool D.rules.sameSuit, .bool D.rules.sameRank, .slice p4 D.rules.wild.length c4, .slice p5 D.rules.skip.length c5, .int .i64 D.rules.take, .int .i64 D.rules.limit, .slice p8 D.hands.length c8, .slice p9 D.stock.length c9, .slice p10 D.heap.length c10, .int .i64 D.turn, .int .i64 D.moves, .int .i64 D.passes] 32) := ⟨_, rfl⟩
  have G0 : W0.heap[w.heap.size]? = some (.cells #[.int .i64 D.rules.players, .int .i64 D.rules.each, .bool D.rules.sameSuit, .bool D.rules.sameRank, .slice p4 D.rules.wild.length c4, .slice p5 D.rules.skip.length c5, .int .i64 D.rules.take, .int .i64 D.rules.limit, .slice p8 D.hands.length c8, .slice p9 D.stock.length c9, .slice p10 D.heap.length c10, .int .i64 D.turn, .int .i64 D.moves, .int .i64 D.passes] 32 (0, 0)) := by rw [hW0]; exact heap_alloc_new _ _
  have BW0 : Below w.heap.size w W0 := by rw [hW0]; exact (Below.refl _ _).alloc (Nat.le_refl _) _
  have lW0 : w.heap.size < W0.heap.size := by rw [hW0]; simp
  have HW0 := Lib.hid hW0
  have HG : Hid (∀ wx, Below W0.heap.size W0 wx → wx.cell? ⟨w.heap.size, 8, none⟩ = some (.slice p8 D.hands.length c8) ∧ wx.cell? ⟨w.heap.size, 9, none⟩ = some (.slice p9 D.stock.length c9) ∧ wx.cell? ⟨w.heap.size, 10, none⟩ = some (.slice p10 D.heap.length c10)) := Lib.hid (fun wx hx => by
    have G := (hx.block _ lW0).trans G0
    refine ⟨?_, ?_, ?_⟩ <;> rw [box_cell G] <;> rfl)
  have HB := Lib.hid BW0
  obtain ⟨k8, k9, k10⟩ := HG.out W0 (Below.refl _ _)
  have HD := Lib.hid (fun wx v b (hrd : RdAt .i64 wx v (allG D) b) => isWhole_any v (allG D) b wx hrd hla r hr)
  clear hW0 h0 h8 h9 h10 f0 f8 fs8 f9 f10 hfl hwf hla BW0 hr
  go_enter Tryz.func57, Tryz.ntmps57
  go_wp2_with fail
  rw [← HW0.out]
  go_region_held3 (fun w' => w'.cell? ⟨w.heap.size, 8, none⟩ = some (.slice p8 D.hands.length c8) ∧ w'.cell? ⟨w.heap.size, 9, none⟩ = some (.slice p9 D.stock.length c9) ∧ w'.cell? ⟨w.heap.size, 10, none⟩ = some (.slice p10 D.heap.length c10)) (go_keep) (first
    | (go_at_call 44; (with_reducible refine (HC.out _ HB.out.drew).mono ?_); rintro e wu0 ⟨v1, rfl, hown, Bu0⟩; obtain ⟨q1, d1, e1⟩ := own_shape hown; subst e1; have Ba := (Below.refl W0.heap.size W0).drew.trans Bu0; obtain ⟨x8, x9, x10⟩ := HG.out wu0 Ba; have HN := Lib.hid (HC2.out (wu0.alloc (.cells #[.slice q1 (sumLen D.hands) d1, .slice p9 D.stock.length c9, .slice p10 D.heap.length c10] 22)) ((HB.out.trans (Ba.mono HB.out.size)).alloc (HB.out.trans (Ba.mono HB.out.size)).size _) _ _ ((own_baseG hown HB.out.drew.size).alloc _) rfl _ _ (patNew _ _)))
    | (go_at_call 44; (with_reducible refine HN.out.mono ?_); rintro e wu1 ⟨v2, b2, rfl, hrd2, Bu1⟩; obtain ⟨q2, d2, e2, -⟩ := id hrd2; subst e2; have Bb := (Ba.alloc Ba.size _).trans (Bu1.mono (Ba.alloc Ba.size _).size); obtain ⟨y8, y9, y10⟩ := HG.out wu1 Bb)
    | (go_at_call 73; (with_reducible refine (HD.out _ _ _ hrd2).mono ?_); rintro e wu2 ⟨rfl, Bu2⟩; have Bc := Bb.trans (Bu2.mono Bb.size); obtain ⟨z8, z9, z10⟩ := HG.out wu2 Bc))
  all_goals
    have B3 := HB.out.trans (Bc.mono HB.out.size)
    clear k8 k9 k10 x8 x9 x10 y8 y9 y10 z8 z9 z10 hown hrd2
    go_wp2_with fail
    go_ret
    exact ⟨rfl, B3⟩
end Go.Proofs.YtmhbonbjnpcpeaaGreatDoor
namespace Go.Proofs.YtmhbonbjnpcpeaaGreatDoor
open Go.RowKit
set_option linter.unusedVariables false
set_option linter.unusedSimpArgs false

theorem flat_takeG (zss : List (List Int)) (k : Nat) (h : k < zss.length) : (zss.take (k + 1)).flatten = (zss.take k).flatten ++ zss[k] := flat_take zss k h
theorem game_movesS {D : MGame} (h : gameB D = true) : 0 ≤ D.moves ∧ D.moves ≤ D.rules.limit ∧ D.rules.limit ≤ 400 := by
  unfold gameB at h
  simp only [Bool.and_eq_true] at h
  obtain ⟨h0, -, -, -, h4, -⟩ := h
  unfold rulesB at h0
  simp only [Bool.and_eq_true] at h0
  obtain ⟨-, -, -, -, -, -, h7⟩ := h0
  unfold inB at h4 h7
  simp at h4 h7
  omega
theorem winner_neg (D : MGame) : decide (winnerG D < 0) = (winnerG D == -1) := by
  have h : -1 ≤ winnerG D := by
    unfold winnerG
    split
    · unfold firstOut
      split
      · omega
      · omega
    · omega
  by_cases e : winnerG D = -1
  · rw [e]; rfl
  · have h2 : (winnerG D == -1) = false := by simpa using e
    rw [h2]; simp; omega
set_option maxRecDepth 100000 in
set_option maxHeartbeats 2000000 in
theorem sIsGame_any (v : Value) (D : MGame) (w : World) (h : RdGame w v D) (hf : D.Few) (r : Bool) (hr : gameB D = r) :
    Calls Tryz.prog 25 #[v] w fun e w' => e = .returned (.bool r) ∧ Below w.heap.size w w' := by
  obtain ⟨i0, hi, hz0, hz1, hz2⟩ := info_parts info_i64
  obtain ⟨p4, p5, p8, p9, p10, c4, c5, c8, c9, c10, b9, b10, rfl, h0, h8, h9, h10, wf0, wf1, wf2⟩ := h
  obtain ⟨f0, f8, fs8, f9, f10⟩ := hf
  have HF := Lib.hid (fun wx (hb : Below w.heap.size w wx) => sIsRules_any _ D.rules wx (h0.below hb) f0 _ rfl)
  have HI := Lib.hid (fun n lo hi wx => inM_any n lo hi wx (inB n lo hi) rfl)
  have hpl : rulesB D.rules = true → 2 ≤ D.rules.players ∧ D.rules.players ≤ 6 := fun e => by
    unfold rulesB at e
    cases e2 : inB D.rules.players 2 6 with
    | false => rw [e2] at e; cases e
    | true => unfold inB at e2; simpa using e2
  unfold gameB at hr
  rw [← all_perm] at hr
  obtain ⟨q0, hq0⟩ : ∃ q, rulesB D.rules = q := ⟨_, rfl⟩
  obtain ⟨q1, hq1⟩ : ∃ q, ((D.hands.length : Int) == D.rules.players) = q := ⟨_, rfl⟩
  obtain ⟨q2, hq2⟩ : ∃ q, ((D.heap.length : Int) == 0) = q := ⟨_, rfl⟩
  obtain ⟨q3, hq3⟩ : ∃ q, inB D.turn 0 (D.rules.players - 1) = q := ⟨_, rfl⟩
  obtain ⟨q4, hq4⟩ : ∃ q, inB D.moves 0 D.rules.limit = q := ⟨_, rfl⟩
  obtain ⟨q5, hq5⟩ : ∃ q, inB D.passes 0 D.moves = q := ⟨_, rfl⟩
  have hq1' : ((D.hands.length : Int) != D.rules.players) = !q1 := by rw [← hq1]; rfl
  have H3 := Lib.hid (fun wx => HI.out D.turn 0 (D.rules.players - 1) wx)
  have H4 := Lib.hid (fun wx => HI.out D.moves 0 D.rules.limit wx)
  have H5 := Lib.hid (fun wx => HI.out D.passes 0 D.moves wx)
  rw [hq0, hq1, hq2, hq3, hq4, hq5] at hr
  rw [hq0] at hpl HF
  rw [hq3] at H3
  rw [hq4] at H4
  rw [hq5] at H5
  have HR := Lib.hid hr
  have HPl := Lib.hid hpl
  have H9 := Lib.hid (fun wx (hb : Below w.heap.size w wx) => (h9.below hb).vals)
  have H10 := Lib.hid (fun wx (hb : Below w.heap.size w wx) => (h10.below hb).vals)
  have Hwf : Hid (∀ x ∈ allS D, (Lit.int .i64 x).wf = true) := Lib.hid (fun x hx => by
    unfold allS at hx
    rcases List.mem_append.1 hx with hx | hx
    · rcases List.mem_append.1 hx with hx | hx
      · exact h9.wf x hx
      · exact h10.wf x hx
    · exact flat_wf h8 x hx)
  have Hrow := Lib.hid (fun wx (hb : Below w.heap.size w wx) j (hj : j < D.hands.length) => (h8.below hb).row hj)
  have Hsum : Hid (∀ j (hj : j < D.hands.length), D.hands[j].length ≤ 1048576) := Lib.hid (fun j hj => Nat.le_trans (len_le_sum D.hands hj) fs8)
  have Hst : Hid (∀ j, sumLen (D.hands.take j) ≤ 1048576) := Lib.hid (fun j => Nat.le_trans (sumLen_take_le D.hands j) fs8)
  have B0 : ∀ o1, Below w.heap.size w (w.alloc o1) := fun o1 => (Below.refl w.heap.size w).alloc (Nat.le_refl _) o1
  have H1 := Lib.hid (fun w1 o1 bb => one_boxR (w := w) (w1 := w1) (o1 := o1) bb)
  clear hr hpl hq0 hq1 hq3 hq4 hq5 h0 h8 h9 h10 f0 HI
  go_enter Tryz.func25, Tryz.ntmps25
  go_wp2_with fail
  refine (HF.out _ (B0 _)).mono ?_
  rintro e w1 ⟨rfl, B1⟩
  have l1 : w.heap.size < w1.heap.size := by have := B1.size; simp at this; omega
  obtain ⟨Bw1, G1⟩ := H1.out _ _ B1
  clear B1
  obtain ⟨k0, k1, k2, k3, k4, k5, k6, k7, k8, k9, k10, k11, k12, k13⟩ := SGame_cells G1
  cases q0 with
  | false =>
    obtain rfl : false = r := HR.out
    go_wp2_with fail
    go_ret
    exact ⟨rfl, Bw1⟩
  | true =>
    obtain ⟨hp2, hp6⟩ := HPl.out rfl
    cases q1 with
    | false =>
      obtain rfl : false = r := HR.out
      go_wp2_with fail
      go_ret
      exact ⟨rfl, Bw1⟩
    | true =>
      cases q2 with
      | true =>
        obtain rfl : false = r := HR.out
        go_wp2_with fail
        go_ret
        exact ⟨rfl, Bw1⟩
      | false =>
        go_wp2_with fail
        refine (H3.out _).mono ?_
        rintro e _w ⟨rfl, rfl⟩
        cases q3 with
        | false =>
          obtain rfl : false = r := HR.out
          go_wp2_with fail
          go_ret
          exact ⟨rfl, Bw1⟩
        | true =>
          go_wp2_with fail
          refine (H4.out _).mono ?_
          rintro e _w ⟨rfl, rfl⟩
          cases q4 with
          | false =>
            obtain rfl : false = r := HR.out
            go_wp2_with fail
            go_ret
            exact ⟨rfl, Bw1⟩
          | true =>
            go_wp2_with fail
            refine (H5.out _).mono ?_
            rintro e _w ⟨rfl, rfl⟩
            cases q5 with
            | false =>
              obtain rfl : false = r := HR.out
              go_wp2_with fail
              go_ret
              exact ⟨rfl, Bw1⟩
            | true =>
              -- the stock and the heap, side by side in a row of its own
              have hown0 := World.ownsRow_lit (base := w1.heap.size) (e := 3) (size := 1) w1.drew #[] 0 (Nat.le_refl _) (Nat.zero_le _) rfl
              have b0 : Below w1.heap.size w1 (w1.drew.alloc (.cells #[] 3)) := ((Below.refl _ _).drew).alloc (Nat.le_refl _) _
              obtain ⟨v2, w2, hr2, hown2, hgr2⟩ := run_append_vals (w1.drew.alloc (.cells #[] 3)) w1.heap.size 22 22 3 i0 (.int .i64 0) 8 Tryz.underlying22 hi hz0 hz1 hz2 rfl _ 0 [] hown0 _ _ (H9.out _ (Bw1.trans (b0.mono Bw1.size))) int_one (by rw [List.length_map]; unfold maxLen; omega) (by rw [List.length_map]; omega) b0.size
              have b2 := b0.grown hgr2 b0.size (own_block hown0)
              rw [List.length_map, Nat.zero_add, List.nil_append] at hown2
              obtain ⟨pa, ca, ea⟩ := own_shape hown2
              subst ea
              obtain ⟨v3, w3, hr3, hown3, hgr3⟩ := run_append_vals w2 w1.heap.size 22 22 3 i0 (.int .i64 0) 8 Tryz.underlying22 hi hz0 hz1 hz2 rfl _ _ _ hown2 _ _ (H10.out _ (Bw1.trans (b2.mono Bw1.size))) int_one (by rw [List.length_map]; unfold maxLen; omega) (by rw [List.length_map]; omega) b2.size
              have b3 := b2.grown hgr3 b2.size (own_block hown2)
              rw [List.length_map, ← List.map_append] at hown3
              obtain ⟨pb, cb, eb⟩ := own_shape hown3
              subst eb
              have Q2 := Lib.hid hr2
              have Q3 := Lib.hid hr3
              have HO3 := Lib.hid hown3
              have HB3 := Lib.hid b3
              have HG : Hid (∀ wx, Below w1.heap.size w1 wx → wx.cell? ⟨w.heap.size, 9, none⟩ = some (.slice p9 D.stock.length c9) ∧ wx.cell? ⟨w.heap.size, 10, none⟩ = some (.slice p10 D.heap.length c10)) := Lib.hid (fun wx hx => by
                have G := (hx.block _ l1).trans G1
                refine ⟨?_, ?_⟩ <;> rw [box_cell G] <;> rfl)
              obtain ⟨x9, x10⟩ := HG.out w2 b2
              obtain ⟨y9, y10⟩ := HG.out w3 b3
              have HX := Lib.hid (And.intro (And.intro x9 x10) (And.intro y9 y10))
              clear hown0 hr2 hown2 hgr2 hr3 hown3 hgr3 b0 b2 b3 x9 x10 y9 y10
              go_wp2_with fail
              go_region_held3 (fun w' => w'.cell? ⟨w.heap.size, 9, none⟩ = some (.slice p9 D.stock.length c9) ∧ w'.cell? ⟨w.heap.size, 10, none⟩ = some (.slice p10 D.heap.length c10)) (go_keep) (first
                | (refine step_append_runP rfl _ _ _ _ rfl _ _ rfl rfl _ _ Q2.out ?_; obtain ⟨⟨x9, x10⟩, -⟩ := HX.out)
                | (refine step_append_runP rfl _ _ _ _ rfl _ _ rfl rfl _ _ Q3.out ?_; obtain ⟨-, ⟨y9, y10⟩⟩ := HX.out))
              all_goals
                have hown := HO3.out
                have B3 := HB3.out
                have Bw3 := Bw1.trans (B3.mono Bw1.size)
                have HR2 : Hid (wholeB (allS D) = r) := Lib.hid HR.out
                have lw3 : w.heap.size < w3.heap.size := Nat.lt_of_lt_of_le l1 B3.size
                have G3 := (B3.block _ l1).trans G1
                have kk := box_cell G3 8
                simp at kk
                clear k0 k1 k2 k3 k4 k5 k6 k7 k8 k9 k10 k11 k12 k13 x9 x10 y9 y10 HR HX Q2 Q3 HO3 HB3 HG hi hp2 hp6 hq1' hq2 G1
                obtain ⟨i1, hi, hz0, hz1, hz2⟩ := info_parts info_i64
                obtain ⟨n, hn⟩ : ∃ n, n = D.hands.length := ⟨_, rfl⟩
                have Hn := Lib.hid hn
                obtain ⟨m0, hm0⟩ : ∃ m, m = D.stock.length + D.heap.length := ⟨_, rfl⟩
                have Hm0 := Lib.hid hm0
                have hm0b : m0 ≤ 2097152 := by omega
                rw [← hm0] at hown
                rw [← hn] at kk f8
                clear f9 f10
                go_wp2_with fail
                rw [← hm0, ← hn]
                clear hm0 hn kk
                go_loopw [3, 4] (fun o i wr => ∃ k : Nat, k ≤ n ∧ i = .int .i64 k ∧ Below w.heap.size w wr ∧ wr.heap[w.heap.size]? = w3.heap[w.heap.size]? ∧ w1.heap.size ≤ wr.heap.size ∧ wr.ownsRow w1.heap.size 3 1 o (m0 + sumLen (D.hands.take k)) (((D.stock ++ D.heap) ++ (D.hands.take k).flatten).map (Value.int .i64))) (fun _ i _ => n - (intOf i).toNat)
                case atStart => exact ⟨0, Nat.zero_le _, rfl, Bw3, rfl, B3.size, by simpa [sumLen] using hown⟩
                case round =>
                  have HG3 := Lib.hid G3
                  clear hown Bw3 G3 lw3
                  obtain ⟨k, hk, rfl, hB, hGm, hsz, hown⟩ := hrel
                  have kk := box_cell (hGm.trans HG3.out) 8
                  simp at kk
                  rw [← Hn.out] at kk
                  have hst := Hst.out (k + 1)
                  have hst0 := Hst.out k
                  by_cases hlt : k < n
                  · have hz : k < D.hands.length := by rw [← Hn.out]; exact hlt
                    obtain ⟨blk, off, cap', p, c, b, hv, hc, hr', -⟩ := Hrow.out wr hB k hz
                    have ha := (Value.slice.inj hv).1
                    clear hv
                    subst ha
                    have hsm := Hsum.out k hz
                    have HTj := sumLen_take D.hands k hz
                    have HFj := flat_takeG D.hands k hz
                    obtain ⟨op, oc, eo⟩ := own_shape hown
                    subst eo
                    obtain ⟨v5, w5, hr5, hown5, hgr5⟩ := run_append_vals wr w1.heap.size 22 22 3 i1 (.int .i64 0) 8 Tryz.underlying22 hi hz0 hz1 hz2 rfl _ _ _ hown _ _ hr'.vals int_one (by rw [List.length_map]; unfold maxLen; omega) (by rw [List.length_map]; omega) hsz
                    rw [List.length_map] at hown5
                    have hown6 : Hid (w5.ownsRow w1.heap.size 3 1 v5 (m0 + sumLen (D.hands.take (k + 1))) (((D.stock ++ D.heap) ++ (D.hands.take (k + 1)).flatten).map (Value.int .i64))) := Lib.hid (by rw [HTj, HFj, ← List.append_assoc, List.map_append, ← Nat.add_assoc]; exact hown5)
                    have hb5 : Below w1.heap.size wr w5 := (Below.refl _ _).grown hgr5 hsz (own_block hown)
                    have HB5 : Hid (Below w.heap.size w w5) := Lib.hid (hB.trans (hb5.mono (Nat.le_of_lt l1)))
                    have HG5 : Hid (w5.heap[w.heap.size]? = w3.heap[w.heap.size]?) := Lib.hid ((hb5.block _ l1).trans hGm)
                    have HS5 : Hid (w1.heap.size ≤ w5.heap.size) := Lib.hid (Nat.le_trans hsz hb5.size)
                    obtain ⟨op5, oc5, eo5⟩ := own_shape hown5
                    subst eo5
                    have Q5 := Lib.hid hr5
                    clear hown hown5 hr5 hgr5 hr' HTj HFj hB hb5 hGm hsz
                    obtain ⟨m, hm⟩ : ∃ m, m = D.hands[k].length := ⟨_, rfl⟩
                    rw [← hm] at hc Q5 hsm hown6
                    clear hm
                    go_wp2_with (at_builtin; refine Lib.wpList_append_run _ rfl _ _ _ _ rfl _ _ rfl rfl _ _ Q5.out ?_)
                    go_roundw
                    case rel => exact ⟨k + 1, by omega, by go_num, HB5.out, HG5.out, HS5.out, hown6.out⟩
                    case measure => simp [intOf]; omega
                  · obtain rfl : k = n := by omega
                    have et : D.hands.take k = D.hands := by rw [Hn.out, List.take_length]
                    have eS : (D.stock ++ D.heap) ++ D.hands.flatten = allS D := rfl
                    have eL : (allS D).length = m0 + sumLen D.hands := by rw [← eS]; simp only [List.length_append, flat_len]; have := Hm0.out; omega
                    rw [et, eS] at hown
                    rw [et] at hst0
                    obtain ⟨b', -, hrd⟩ := RdAt.ofOwn hown eL.symm Hwf.out
                    have HIs := Lib.hid (sIsHand_any _ _ b' wr hrd (by rw [eL]; omega))
                    obtain ⟨op, oc, eo⟩ := own_shape hown
                    subst eo
                    have hW : ((((m0 + sumLen D.hands : Nat) : Int) == 52) && isHand (allS D)) = r := by rw [← HR2.out]; unfold wholeB; rw [eL]
                    obtain ⟨x, hx⟩ : ∃ x, x = m0 + sumLen D.hands := ⟨_, rfl⟩
                    rw [← hx] at HIs hW
                    have hx2 : (m0 : Int) + (sumLen D.hands : Int) = (x : Int) := by omega
                    rw [← hx]
                    obtain ⟨qa, hqa⟩ : ∃ q, ((x : Int) == 52) = q := ⟨_, rfl⟩
                    obtain ⟨qb, hqb⟩ : ∃ q, isHand (allS D) = q := ⟨_, rfl⟩
                    rw [hqa, hqb] at hW
                    rw [hqb] at HIs
                    have HW2 := Lib.hid hW
                    have hxb : x ≤ 4194304 := by omega
                    clear hown hrd eL eS hx hW hqb et hst hst0 hx2
                    cases qa with
                    | false =>
                      obtain rfl : false = r := HW2.out
                      go_wp2_with fail
                      go_ret
                      exact ⟨rfl, hB⟩
                    | true =>
                      obtain rfl : qb = r := HW2.out
                      go_wp2_with fail
                      refine HIs.out.mono ?_
                      rintro e w6 ⟨rfl, B6⟩
                      have B7 := hB.trans (B6.mono hB.size)
                      go_wp2_with fail
                      go_ret
                      exact ⟨rfl, B7⟩
end Go.Proofs.YtmhbonbjnpcpeaaGreatDoor
namespace Go.Proofs.YtmhbonbjnpcpeaaGreatDoor
open Go.RowKit
set_option linter.unusedVariables false
set_option linter.unusedSimpArgs false

set_option maxRecDepth 100000 in
set_option maxHeartbeats 1000000 in
theorem sFirst_any (v : Value) (D : MGame) (w : World) (h : RdGame w v D) (hf : D.Few) :
    Calls Tryz.prog 38 #[v] w fun e w' => e = .returned (.int .i64 (firstOut D.hands)) ∧ Below w.heap.size w w' := by
  obtain ⟨p4, p5, p8, p9, p10, c4, c5, c8, c9, c10, b9, b10, rfl, h0, h8, h9, h10, wf0, wf1, wf2⟩ := h
  obtain ⟨f0, f8, fs8, f9, f10⟩ := hf
  have Hrow := Lib.hid (fun wx (hb : Below w.heap.size w wx) j (hj : j < D.hands.length) => (h8.below hb).row hj)
  have Hsum : Hid (∀ j (hj : j < D.hands.length), D.hands[j].length ≤ 1048576) := Lib.hid (fun j hj => Nat.le_trans (len_le_sum D.hands hj) fs8)
  obtain ⟨n, hn⟩ : ∃ n, n = D.hands.length := ⟨_, rfl⟩
  have Hn := Lib.hid hn
  obtain ⟨W0, hW0⟩ : ∃ W0, W0 = w.alloc (.cells #[.int .i64 D.rules.players, .int .i64 D.rules.each, .bool D.rules.sameSuit, .bool D.rules.sameRank, .slice p4 D.rules.wild.length c4, .slice p5 D.rules.skip.length c5, .int .i64 D.rules.take, .int .i64 D.rules.limit, .slice p8 D.hands.length c8, .slice p9 D.stock.length c9, .slice p10 D.heap.length c10, .int .i64 D.turn, .int .i64 D.moves, .int .i64 D.passes] 32) := ⟨_, rfl⟩
  have G0 : W0.heap[w.heap.size]? = some (.cells #[.int .i64 D.rules.players, .int .i64 D.rules.each, .bool D.rules.sameSuit, .bool D.rules.sameRank, .slice p4 D.rules.wild.length c4, .slice p5 D.rules.skip.length c5, .int .i64 D.rules.take, .int .i64 D.rules.limit, .slice p8 D.hands.length c8, .slice p9 D.stock.length c9, .slice p10 D.heap.length c10, .int .i64 D.turn, .int .i64 D.moves, .int .i64 D.passes] 32 (0, 0)) := by rw [hW0]; exact heap_alloc_new _ _
  have BW0 : Below w.heap.size w W0 := by rw [hW0]; exact (Below.refl _ _).alloc (Nat.le_refl _) _
  have kk := box_cell G0 8
  simp at kk
  have HW0 := Lib.hid hW0
  obtain ⟨r, hr⟩ : ∃ r, r = firstOut D.hands := ⟨_, rfl⟩
  have Hr := Lib.hid hr
  rw [← hr]
  rw [← hn] at f8 kk
  clear hn hr hW0 h0 h8 h9 h10 f0 f9 f10 fs8 G0
  go_enter Tryz.func38, Tryz.ntmps38
  go_wp2_with fail
  rw [← HW0.out]
  go_loopw [3] (fun i wr => ∃ k : Nat, k ≤ n ∧ i = .int .i64 k ∧ W0 = wr ∧ Hid (∀ j (hj : j < D.hands.length), j < k → D.hands[j] ≠ [])) (fun i _ => n - (intOf i).toNat)
  case atStart => exact ⟨0, Nat.zero_le _, rfl, by first | trivial | rfl, Lib.hid (fun j _ h => by omega)⟩
  case round =>
    obtain ⟨k, hk, rfl, rfl, hno⟩ := hrel
    by_cases hlt : k < n
    · have hz : k < D.hands.length := by rw [← Hn.out]; exact hlt
      obtain ⟨blk, off, cap', p, c1, b, hv, hc, hrd, -⟩ := Hrow.out W0 BW0 k hz
      have ha := (Value.slice.inj hv).1
      clear hv
      subst ha
      have hsm := Hsum.out k hz
      obtain ⟨m, hm⟩ : ∃ m, m = D.hands[k].length := ⟨_, rfl⟩
      have Hm := Lib.hid hm
      rw [← hm] at hc hsm
      clear hm hrd
      by_cases h0 : m = 0
      · have hq : ((m : Int) == 0) = true := by simp [h0]
        have hr1 : Hid (r = (k : Int)) := Lib.hid (by rw [Hr.out]; exact first_hit hz (List.length_eq_zero_iff.1 (by rw [← Hm.out]; exact h0)) hno.out)
        clear h0
        go_wp2_with fail
        go_ret
        exact ⟨by rw [hr1.out]; rfl, BW0⟩
      · have hq : ((m : Int) == 0) = false := by simp [h0]
        have hno2 : Hid (∀ j (hj : j < D.hands.length), j < k + 1 → D.hands[j] ≠ []) := Lib.hid (fun j hj hjk => by
          by_cases e : j = k
          · subst e; intro e2; exact h0 (by rw [Hm.out, e2]; rfl)
          · exact hno.out j hj (by omega))
        go_wp2_with fail
        go_roundw
        case rel => exact ⟨k + 1, by omega, by go_num, by first | trivial | rfl, hno2⟩
        case measure => simp [intOf]; omega
    · obtain rfl : k = n := by omega
      have hr1 : Hid (r = -1) := Lib.hid (by rw [Hr.out]; exact first_miss (fun j hj => hno.out j hj (by rw [Hn.out]; exact hj)))
      go_wp2_with fail
      go_ret
      exact ⟨by rw [hr1.out]; rfl, BW0⟩
set_option maxRecDepth 100000 in
set_option maxHeartbeats 1000000 in
theorem sOver_any (v : Value) (D : MGame) (w : World) (h : RdGame w v D) (hf : D.Few) (r : Bool) (hr : overB D = r) :
    Calls Tryz.prog 26 #[v] w fun e w' => e = .returned (.bool r) ∧ Below w.heap.size w w' := by
  have HO := Lib.hid (fun wx (hb : Below w.heap.size w wx) => sFirst_any v D wx (h.below hb) hf)
  obtain ⟨p4, p5, p8, p9, p10, c4, c5, c8, c9, c10, b9, b10, rfl, h0, h8, h9, h10, wf0, wf1, wf2⟩ := h
  obtain ⟨f0, f8, fs8, f9, f10⟩ := hf
  have B0 : ∀ o1, Below w.heap.size w (w.alloc o1) := fun o1 => (Below.refl w.heap.size w).alloc (Nat.le_refl _) o1
  have H1 := Lib.hid (fun w1 o1 bb => one_boxR (w := w) (w1 := w1) (o1 := o1) bb)
  unfold overB at hr
  obtain ⟨x, hx⟩ : ∃ x, firstOut D.hands = x := ⟨_, rfl⟩
  rw [hx] at hr HO
  obtain ⟨q1, hq1⟩ : ∃ q, decide (0 ≤ x) = q := ⟨_, rfl⟩
  obtain ⟨q2, hq2⟩ : ∃ q, (D.moves == D.rules.limit) = q := ⟨_, rfl⟩
  obtain ⟨q3, hq3⟩ : ∃ q, decide (D.rules.players ≤ D.passes) = q := ⟨_, rfl⟩
  rw [hq1, hq2, hq3] at hr
  have HR := Lib.hid hr
  clear h0 h8 h9 h10 f0 f8 fs8 f9 f10 hr hx
  go_enter Tryz.func26, Tryz.ntmps26
  go_wp2_with fail
  refine (HO.out _ (B0 _)).mono ?_
  rintro e w1 ⟨rfl, B1⟩
  obtain ⟨Bw1, G1⟩ := H1.out _ _ B1
  clear B1
  obtain ⟨k0, k1, k2, k3, k4, k5, k6, k7, k8, k9, k10, k11, k12, k13⟩ := SGame_cells G1
  cases q1 with
  | true =>
    obtain rfl : true = r := HR.out
    go_wp2_with fail
    go_ret
    exact ⟨rfl, Bw1⟩
  | false =>
    cases q2 with
    | true =>
      obtain rfl : true = r := HR.out
      go_wp2_with fail
      go_ret
      exact ⟨rfl, Bw1⟩
    | false =>
      obtain rfl : q3 = r := HR.out
      cases q3 with
      | true =>
        go_wp2_with fail
        go_ret
        exact ⟨rfl, Bw1⟩
      | false =>
        go_wp2_with fail
        go_ret
        exact ⟨rfl, Bw1⟩
end Go.Proofs.YtmhbonbjnpcpeaaGreatDoor
