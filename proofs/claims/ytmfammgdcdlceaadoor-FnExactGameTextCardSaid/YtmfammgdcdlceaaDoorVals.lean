/-
  Slices of values that can be read, whatever they are; appending them to a row of one's own.
-/
import Derived.Test.YtmfammgdcdlceaaDoorMarksI
import Derived.Laws.AppendOwnNone
import Derived.Lib.AppendZerosOnto
namespace Go.Proofs.YtmfammgdcdlceaaDoor
open Go.RowKit
set_option linter.unusedVariables false
set_option linter.unusedSimpArgs false

/-- The value v is a slice that holds the values us. -/
def RdVals (w : World) (v : Value) (us : List Value) : Prop :=
  ∃ (a : Option Addr) (cap : Nat), v = .slice a us.length cap ∧ (us.length ≤ cap ∧ cap ≤ maxLen ∧ (a = none → cap = 0)) ∧
    (us = [] ∨ ∃ blk off, a = some ⟨blk, off, none⟩ ∧ ∀ j (hj : j < us.length), w.cell? ⟨blk, off + j, none⟩ = some us[j])
theorem RdVals.below {w w' : World} {v : Value} {us : List Value} (h : RdVals w v us) (hb : Below w.heap.size w w') : RdVals w' v us := by
  obtain ⟨a, cap, h1, h2, h3⟩ := h
  refine ⟨a, cap, h1, h2, ?_⟩
  rcases h3 with h3 | ⟨blk, off, h4, h5⟩
  · exact .inl h3
  · exact .inr ⟨blk, off, h4, fun j hj => by rw [hb.cell (p := ⟨blk, off + j, none⟩) (World.block_lt_of_cell? _ _ (h5 j hj))]; exact h5 j hj⟩
theorem RdAt.vals {k : IntKind} {w : World} {v : Value} {zs : List Int} {b : Nat} (h : RdAt k w v zs b) : RdVals w v (zs.map (.int k)) := by
  obtain ⟨a, cap, h1, h2, -, h3⟩ := h
  refine ⟨a, cap, by rw [List.length_map]; exact h1, by rw [List.length_map]; exact h2, ?_⟩
  rcases h3 with h3 | ⟨off, h4, h5⟩
  · subst h3; exact .inl rfl
  · exact .inr ⟨b, off, h4, fun j hj => by rw [List.length_map] at hj; rw [h5 j hj]; simp⟩
theorem int_one {k : IntKind} {zs : List Int} : ∀ u ∈ zs.map (Value.int k), u.oneCell' = true := by
  intro u hu; obtain ⟨n, -, rfl⟩ := List.mem_map.1 hu; rfl
theorem own_cut {w : World} {B : Nat} {E : TypeId} {n : Nat} {p : Option Addr} {c : Nat} {xs : List Value} (h : w.ownsRow B E 1 (.slice p n c) n xs) : w.ownsRow B E 1 (.slice p 0 c) 0 [] := by
  refine ⟨rfl, ?_⟩
  rcases h.2 with ⟨e, h0⟩ | ⟨g, cap, cur, e, h1, h2, h3, h4, h5, h6⟩
  · injection e with e1 e2 e3; subst e1 e2 e3; exact .inl ⟨rfl, rfl⟩
  · injection e with e1 e2 e3; subst e1 e3; exact .inr ⟨g, _, cur, rfl, h1, h2, Nat.zero_le _, h4, h5, by simp⟩

theorem run_append_vals {P : Program} (w : World) (base : Nat) (t ty e : TypeId) (i : TypeInfo) (z : Value) (bytes : Nat) (ht : P.underlying t = some (.slice e)) (hi : P.info? e = some i) (hz : i.zero = some z) (hsize : i.size = 1) (hby : i.bytes = bytes) (hzs : z.cells.size = 1)
    (v : Value) (n : Nat) (xs : List Value) (hown : w.ownsRow base e 1 v n xs) (x : Value) (us : List Value) (hx : RdVals w x us) (h1 : ∀ u ∈ us, u.oneCell' = true)
    (h63 : n + us.length ≤ maxLen) (hbytes : (n + us.length) * bytes ≤ 140737488355328) (hbase : base ≤ w.heap.size) :
    ∃ v' w', (Builtin.append_ #[t, t] ty #[v, x]).run P w = .ok v' w' ∧ w'.ownsRow base e 1 v' (n + us.length) (xs ++ us) ∧ w.grownBy w' v.ownBlock := by
  obtain ⟨a, cap, rfl, hcap, hc⟩ := hx
  cases a with
  | none =>
    have h0 := hcap.2.2 rfl
    have hu : us = [] := List.length_eq_zero_iff.1 (by omega)
    subst hu
    refine ⟨v, w, ?_, by simpa using hown, ⟨rfl, rfl, rfl, Nat.le_refl _, fun _ _ _ => rfl⟩⟩
    subst h0
    exact run_append_owned_none (P := P) (w := w) base t ty e i 1 ht hi v n xs hown
  | some ad =>
    obtain ⟨v', w', g1, g2, g3, -⟩ := run_append_own (P := P) w base t ty e i z 1 bytes ht hi hz hsize hby hzs (by decide) v n xs hown ad us.length cap us (by simp)
      (by
        intro j u hj
        rcases hc with rfl | ⟨blk, off, ha, hc⟩
        · simp at hj
        · cases ha
          obtain ⟨hl, rfl⟩ := List.getElem?_eq_some_iff.1 hj
          have e : (⟨blk, off, none⟩ : Addr).add j = ⟨blk, off + j, none⟩ := by simp [Addr.add]
          rw [e]; exact hc j hl) h1 h63 hbytes hbase
    exact ⟨v', w', g1, g2, g3⟩
end Go.Proofs.YtmfammgdcdlceaaDoor
