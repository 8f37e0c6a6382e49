/-
  Slices of slices of integers: what can be read, what may be written; the laws' helpers over them.
-/
import Derived.Test.YtoeobpdgfhgpiaaSzI
import Derived.Deep.Matrix
namespace Go.Proofs.Ytoeobpdgfhgpiaa
open Go.RowKit

/-- The value v is a slice of slices, which hold the numbers zss. -/
def RdRows (k : IntKind) (w : World) (v : Value) (zss : List (List Int)) : Prop :=
  ∃ (a : Option Addr) (cap : Nat), v = .slice a zss.length cap ∧ (zss.length ≤ cap ∧ cap ≤ maxLen ∧ (a = none → cap = 0)) ∧
    (zss = [] ∨ ∃ blk off, a = some ⟨blk, off, none⟩ ∧ ∀ j (hj : j < zss.length), ∃ (r : Value) (b : Nat), w.cell? ⟨blk, off + j, none⟩ = some r ∧ RdAt k w r zss[j] b)
theorem RdRows.below {k : IntKind} {w w' : World} {v : Value} {zss : List (List Int)} (h : RdRows k w v zss) (hb : Below w.heap.size w w') : RdRows k w' v zss := by
  obtain ⟨a, cap, h1, h2, h3⟩ := h
  refine ⟨a, cap, h1, h2, ?_⟩
  rcases h3 with h3 | ⟨blk, off, h4, h5⟩
  · exact .inl h3
  · refine .inr ⟨blk, off, h4, fun j hj => ?_⟩
    obtain ⟨r, b, hc, hr⟩ := h5 j hj
    exact ⟨r, b, by rw [hb.cell (p := ⟨blk, off + j, none⟩) (World.block_lt_of_cell? _ _ hc)]; exact hc, hr.below hb⟩
/-- A row that is read. -/
theorem RdRows.row {k : IntKind} {w : World} {v : Value} {zss : List (List Int)} (h : RdRows k w v zss) {j : Nat} (hj : j < zss.length) :
    ∃ (blk off cap : Nat) (p : Option Addr) (c b : Nat), v = .slice (some ⟨blk, off, none⟩) zss.length cap ∧ w.cell? ⟨blk, off + j, none⟩ = some (.slice p zss[j].length c) ∧ RdAt k w (.slice p zss[j].length c) zss[j] b ∧ zss[j].length ≤ maxLen := by
  obtain ⟨a, cap, h1, h2, h3⟩ := h
  rcases h3 with h3 | ⟨blk, off, rfl, h5⟩
  · subst h3; simp at hj
  · obtain ⟨r, b, hc, hr⟩ := h5 j hj
    obtain ⟨p, c, rfl, hcap, -⟩ := id hr
    exact ⟨blk, off, cap, p, c, b, h1, hc, hr, Nat.le_trans hcap.1 hcap.2.1⟩
/-- A slice of slices that came in. -/
def IsRows (k : IntKind) (w : World) (a : Option Addr) (len cap : Nat) (zss : List (List Int)) : Prop := RdRows k w (.slice a len cap) zss
theorem isRows_nil {k : IntKind} {w : World} : IsRows k w none 0 0 [] := ⟨none, 0, rfl, ⟨Nat.le_refl _, Nat.zero_le _, fun _ => rfl⟩, .inl rfl⟩
theorem rows_of_open {k : IntKind} {w : World} {a : Addr} {len cap : Nat} (hl : len ≤ cap) (hm : cap ≤ maxLen) (A : Nat → Option Addr) (L C : Nat → Nat) (Z : Nat → List Int)
    (h : ∀ r, r < cap → w.cell? (a.add r) = some (.slice (A r) (L r) (C r)) ∧ L r ≤ C r ∧ C r ≤ maxLen ∧ (Z r).length = C r ∧ (∀ n ∈ Z r, (Lit.int k n).wf = true) ∧ (A r = none → C r = 0) ∧
        ∀ a', A r = some a' → 0 ≤ a'.block ∧ ∀ c, c < C r → w.cell? (a'.add c) = some (.int k ((Z r).getD c 0))) :
    RdRows k w (.slice (some a) len cap) ((List.range len).map fun r => (Z r).take (L r)) := by
  refine ⟨some a, cap, by simp, ⟨by simpa using hl, hm, fun h => by cases h⟩, ?_⟩
  by_cases h0 : len = 0
  · subst h0; exact .inl rfl
  obtain ⟨blk, off, spot⟩ := a
  have hs : spot = none := by
    have := (h 0 (by omega)).1
    simpa [Addr.add] using World.cell?_spot this
  subst hs
  refine .inr ⟨blk, off, rfl, fun j hj => ?_⟩
  have hj' : j < len := by simpa using hj
  obtain ⟨h1, h2, h3, h4, h5, h6, h7⟩ := h j (by omega)
  have e : (⟨blk, off, none⟩ : Addr).add j = ⟨blk, off + j, none⟩ := by simp [Addr.add]
  rw [e] at h1
  have hrow : IsRow k w (A j) (L j) (C j) (Z j) := by
    cases hA : A j with
    | none =>
      have hc0 := h6 hA
      have hz : Z j = [] := List.length_eq_zero_iff.1 (by omega)
      exact .inl ⟨rfl, by omega, hc0, hz⟩
    | some x => exact .inr ⟨x, rfl, h2, h3, h4, fun i hi => (h7 x hA).2 i (by omega), h5⟩
  obtain ⟨b, hr, -⟩ := hrow.rd
  exact ⟨_, b, h1, by simpa using hr⟩

def sumLen (zss : List (List Int)) : Nat := (zss.map List.length).sum
theorem sumLen_take (zss : List (List Int)) (k : Nat) (h : k < zss.length) : sumLen (zss.take (k + 1)) = sumLen (zss.take k) + zss[k].length := by
  unfold sumLen
  rw [List.take_succ_eq_append_getElem h, List.map_append, List.sum_append]; simp
theorem sumLen_take_le (zss : List (List Int)) (k : Nat) : sumLen (zss.take k) ≤ sumLen zss := by
  have : sumLen zss = sumLen (zss.take k) + sumLen (zss.drop k) := by
    unfold sumLen; rw [← List.sum_append, ← List.map_append, List.take_append_drop]
  omega
theorem len_le_sum : ∀ (zss : List (List Int)) {j : Nat} (h : j < zss.length), zss[j].length ≤ sumLen zss
  | [], j, h => by simp at h
  | z :: zss, 0, h => by simp [sumLen]
  | z :: zss, j + 1, h => by
    have := len_le_sum zss (j := j) (by simpa using h)
    simp only [sumLen, List.map_cons, List.sum_cons, List.getElem_cons_succ] at this ⊢
    omega


theorem info_rowI : (Try.prog.info? 22).map (fun i => (i.zero, i.size, i.bytes)) = some (some (.slice none 0 0), 1, 24) := by kernel_rfl

/-- .. and may be written: each row in a block of its own, the blocks behind one another. -/
def WrRows (k : IntKind) (w : World) (B : Nat) (v : Value) (zss : List (List Int)) : Prop :=
  ∃ (blk cap : Nat) (bf : Nat → Nat), v = .slice (some ⟨blk, 0, none⟩) zss.length cap ∧ (zss.length ≤ cap ∧ cap ≤ maxLen) ∧ B ≤ blk ∧ blk < w.heap.size ∧
    (∀ i j, i < j → j < zss.length → bf i < bf j) ∧ ∀ j (hj : j < zss.length), blk < bf j ∧ bf j < w.heap.size ∧ w.frozen? ⟨blk, j, none⟩ = false ∧ ∃ r, w.cell? ⟨blk, j, none⟩ = some r ∧ WrAt k w r zss[j] (bf j)
theorem WrRows.rd {k : IntKind} {w : World} {B : Nat} {v : Value} {zss : List (List Int)} (h : WrRows k w B v zss) : RdRows k w v zss := by
  obtain ⟨blk, cap, bf, rfl, ⟨h1, h2⟩, -, -, -, h3⟩ := h
  refine ⟨_, cap, rfl, ⟨h1, h2, fun h => by cases h⟩, ?_⟩
  by_cases h0 : zss = []
  · exact .inl h0
  · refine .inr ⟨blk, 0, rfl, fun j hj => ?_⟩
    obtain ⟨-, -, -, r, hc, hr⟩ := h3 j hj
    exact ⟨r, bf j, by rw [Nat.zero_add]; exact hc, hr.rd⟩

theorem WrRows.keepS {k : IntKind} {w w' : World} {B : Nat} {v : Value} {zss : List (List Int)} (h : WrRows k w B v zss) (hk : ∀ i, B ≤ i → i < w.heap.size → w'.heap[i]? = w.heap[i]?) (hs : w.heap.size ≤ w'.heap.size) : WrRows k w' B v zss := by
  obtain ⟨blk, cap, bf, rfl, h12, hB, hlt, hm, h3⟩ := h
  refine ⟨blk, cap, bf, rfl, h12, hB, by omega, hm, fun j hj => ?_⟩
  obtain ⟨q1, q2, q3, r, hc, hr⟩ := h3 j hj
  have e := hk blk hB hlt
  refine ⟨q1, by omega, by rw [World.frozen?_of_block (a := ⟨blk, j, none⟩) e]; exact q3, r, by rw [World.cell?_of_block (a := ⟨blk, j, none⟩) e]; exact hc, hr.keep fun _ => hk _ (by omega) q2⟩
end Go.Proofs.Ytoeobpdgfhgpiaa
