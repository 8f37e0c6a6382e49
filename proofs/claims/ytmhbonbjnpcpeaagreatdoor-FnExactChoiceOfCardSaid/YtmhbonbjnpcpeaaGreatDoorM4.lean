/-
  Several texts in one: Slices of integers in memory: what can be read, what may be written, and the lists of marks. No program in this text. The helpers of the laws over slices (int): copied, compared, marked, found marked. The laws' size of a list. Slices of slices of integers: what can be read, what may be written; the laws' helpers over them. What lies in which blocks: facts that survive where other blocks are written; slices of integers and slices of slices, marked and found marked. A whole row stored: what stays below. The struct Rules: its numbers, what can be read of it; the laws' helpers over it.
-/
import Derived.WalkKit
import Derived.WalkLawsBesides
import Derived.WalkSpells
import Derived.OpenShut
import Derived.WalkSmall
import Derived.Lib.Hide
import Derived.Laws.AppendOwnNone
import Derived.Test.YtmhbonbjnpcpeaaGreatDoorRows
import Derived.LoopTactic
import Derived.Deep.QuietTactic
import Derived.BigQuiet
import Derived.Deep.Matrix
import Derived.Laws.Rows
namespace Go.Proofs.YtmhbonbjnpcpeaaGreatDoor
open Go.RowKit

/-- The value v is a slice of the numbers zs of kind k, all of them readable, in block b (whatever b is, where there are none). -/
def RdAt (k : IntKind) (w : World) (v : Value) (zs : List Int) (b : Nat) : Prop :=
  ∃ (a : Option Addr) (cap : Nat), v = .slice a zs.length cap ∧ (zs.length ≤ cap ∧ cap ≤ maxLen ∧ (a = none → cap = 0)) ∧ (∀ n ∈ zs, (Lit.int k n).wf = true) ∧
    (zs = [] ∨ ∃ off, a = some ⟨b, off, none⟩ ∧ ∀ j (hj : j < zs.length), w.cell? ⟨b, off + j, none⟩ = some (.int k zs[j]))
/-- .. and may be written. -/
def WrAt (k : IntKind) (w : World) (v : Value) (zs : List Int) (b : Nat) : Prop :=
  ∃ (a : Option Addr) (cap : Nat), v = .slice a zs.length cap ∧ (zs.length ≤ cap ∧ cap ≤ maxLen ∧ (a = none → cap = 0)) ∧ (∀ n ∈ zs, (Lit.int k n).wf = true) ∧
    (zs = [] ∨ ∃ off, a = some ⟨b, off, none⟩ ∧ (∀ j (hj : j < zs.length), w.cell? ⟨b, off + j, none⟩ = some (.int k zs[j])) ∧ ∀ j, j < zs.length → w.frozen? ⟨b, off + j, none⟩ = false)

theorem WrAt.rd {k : IntKind} {w : World} {v : Value} {zs : List Int} {b : Nat} (h : WrAt k w v zs b) : RdAt k w v zs b := by
  obtain ⟨a, cap, h1, hcap, h2, h3⟩ := h
  refine ⟨a, cap, h1, hcap, h2, ?_⟩
  rcases h3 with h3 | ⟨off, h4, h5, _⟩
  · exact .inl h3
  · exact .inr ⟨off, h4, h5⟩
theorem RdAt.wf {k : IntKind} {w : World} {v : Value} {zs : List Int} {b : Nat} (h : RdAt k w v zs b) : ∀ n ∈ zs, (Lit.int k n).wf = true := by
  obtain ⟨a, cap, h1, hcap, h2, h3⟩ := h; exact h2
theorem RdAt.lt {k : IntKind} {w : World} {v : Value} {zs : List Int} {b : Nat} (h : RdAt k w v zs b) (hz : zs ≠ []) : b < w.heap.size := by
  obtain ⟨a, cap, h1, hcap, h2, h3⟩ := h
  rcases h3 with h3 | ⟨off, h4, h5⟩
  · exact absurd h3 hz
  · have : 0 < zs.length := List.length_pos_iff.2 hz
    exact World.block_lt_of_cell? _ _ (h5 0 this)
/-- What is read stays as it is where its block does. -/
theorem RdAt.keep {k : IntKind} {w w' : World} {v : Value} {zs : List Int} {b : Nat} (h : RdAt k w v zs b) (hb : zs ≠ [] → w'.heap[b]? = w.heap[b]?) : RdAt k w' v zs b := by
  obtain ⟨a, cap, h1, hcap, h2, h3⟩ := h
  refine ⟨a, cap, h1, hcap, h2, ?_⟩
  rcases h3 with h3 | ⟨off, h4, h5⟩
  · exact .inl h3
  · refine .inr ⟨off, h4, fun j hj => ?_⟩
    have hz : zs ≠ [] := by intro e; rw [e] at hj; simp at hj
    rw [World.cell?_of_block (w := w) (a := ⟨b, off + j, none⟩) (hb hz)]; exact h5 j hj
theorem WrAt.keep {k : IntKind} {w w' : World} {v : Value} {zs : List Int} {b : Nat} (h : WrAt k w v zs b) (hb : zs ≠ [] → w'.heap[b]? = w.heap[b]?) : WrAt k w' v zs b := by
  obtain ⟨a, cap, h1, hcap, h2, h3⟩ := h
  refine ⟨a, cap, h1, hcap, h2, ?_⟩
  rcases h3 with h3 | ⟨off, h4, h5, h6⟩
  · exact .inl h3
  · refine .inr ⟨off, h4, fun j hj => ?_, fun j hj => ?_⟩
    · have hz : zs ≠ [] := by intro e; rw [e] at hj; simp at hj
      rw [World.cell?_of_block (w := w) (a := ⟨b, off + j, none⟩) (hb hz)]; exact h5 j hj
    · have hz : zs ≠ [] := by intro e; rw [e] at hj; simp at hj
      rw [World.frozen?_of_block (w := w) (a := ⟨b, off + j, none⟩) (hb hz)]; exact h6 j hj
theorem RdAt.below {k : IntKind} {w w' : World} {v : Value} {zs : List Int} {b : Nat} (h : RdAt k w v zs b) (hb : Below w.heap.size w w') : RdAt k w' v zs b :=
  h.keep fun hz => hb.block b (h.lt hz)
theorem WrAt.below {k : IntKind} {w w' : World} {v : Value} {zs : List Int} {b : Nat} (h : WrAt k w v zs b) (hb : Below w.heap.size w w') : WrAt k w' v zs b :=
  h.keep fun hz => hb.block b (h.rd.lt hz)
theorem RdAt.grown {k : IntKind} {w w' : World} {v : Value} {zs : List Int} {b c : Nat} (h : RdAt k w v zs b) (hg : w.grownBy w' (some c)) (hne : b ≠ c) : RdAt k w' v zs b :=
  h.keep fun hz => hg.block b (h.lt hz) (fun e => hne (Option.some.inj e))
theorem WrAt.grown {k : IntKind} {w w' : World} {v : Value} {zs : List Int} {b c : Nat} (h : WrAt k w v zs b) (hg : w.grownBy w' (some c)) (hne : b ≠ c) : WrAt k w' v zs b :=
  h.keep fun hz => hg.block b (h.rd.lt hz) (fun e => hne (Option.some.inj e))

/-- The marks k, k + 1, .. n of them: as bytes, as ints. -/
def marksB (k : Int) (n : Nat) : List Int := (List.range n).map fun (i : Nat) => (k + (i : Int)) % 256
def marksI (k : Int) (n : Nat) : List Int := (List.range n).map fun (i : Nat) => k + (i : Int)
theorem marksB_length (k : Int) (n : Nat) : (marksB k n).length = n := by simp [marksB]
theorem marksI_length (k : Int) (n : Nat) : (marksI k n).length = n := by simp [marksI]
theorem marksB_at (k : Int) (n j : Nat) (h : j < (marksB k n).length) : (marksB k n)[j] = (k + (j : Int)) % 256 := by simp [marksB]
theorem marksI_at (k : Int) (n j : Nat) (h : j < (marksI k n).length) : (marksI k n)[j] = k + (j : Int) := by simp [marksI]

theorem list_eq_of {a b : List Int} (hl : a.length = b.length) (h : ∀ j (ha : j < a.length) (hb : j < b.length), a[j] = b[j]) : a = b := List.ext_getElem hl h
theorem list_ne_of {a b : List Int} {j : Nat} (ha : j < a.length) (hb : j < b.length) (h : a[j] ≠ b[j]) : a ≠ b := fun e => h (by subst e; rfl)

theorem grown_store {w0 w : World} {b : Nat} (h : w0.grownBy w (some b)) (a : Addr) (ha : a.block = b) (v : Value) : w0.grownBy (w.setCell a v) (some b) :=
  ⟨h.os, h.tape, h.output, by simp [World.setCell]; exact h.size, fun k hk hne => by rw [Below.heap_setCell _ _ _ _ (fun e => hne (by rw [e, ha]))]; exact h.block k hk hne⟩

/-- The cells of block b from off on hold the numbers zs. -/
def Cells (k : IntKind) (w : World) (b off : Nat) (zs : List Int) : Prop := ∀ j (hj : j < zs.length), w.cell? ⟨b, off + j, none⟩ = some (.int k zs[j])
def Free (w : World) (b off n : Nat) : Prop := ∀ j, j < n → w.frozen? ⟨b, off + j, none⟩ = false
theorem Cells.store {k : IntKind} {w : World} {b off : Nat} {zs : List Int} (h : Cells k w b off zs) {j : Nat} (hj : j < zs.length) (y : Int) : Cells k (w.setCell ⟨b, off + j, none⟩ (.int k y)) b off (zs.set j y) := by
  intro i hi
  have hi' : i < zs.length := by simpa using hi
  by_cases e : i = j
  · subst e
    rw [World.cell?_setCell_same _ _ _ (h i hi')]
    simp
  · rw [World.cell?_setCell_other _ _ _ _ (by intro e2; simp at e2), h i hi']
    simp [show ¬ j = i by omega]
theorem Free.store {w : World} {b off n : Nat} (h : Free w b off n) (a : Addr) (v : Value) : Free (w.setCell a v) b off n := by
  intro j hj
  rw [World.frozen?_setCell]; exact h j hj
theorem WrAt.of {k : IntKind} {w : World} {b off : Nat} {zs : List Int} (cap : Nat) (hcap : zs.length ≤ cap ∧ cap ≤ maxLen) (hw : ∀ n ∈ zs, (Lit.int k n).wf = true) (h : Cells k w b off zs) (hf : Free w b off zs.length) : WrAt k w (.slice (some ⟨b, off, none⟩) zs.length cap) zs b :=
  ⟨_, _, rfl, ⟨hcap.1, hcap.2, fun h => by cases h⟩, hw, .inr ⟨off, rfl, h, hf⟩⟩
/-- A writable slice, opened: empty, or a row of cells. -/
theorem WrAt.open {k : IntKind} {w : World} {v : Value} {zs : List Int} {b : Nat} (h : WrAt k w v zs b) : (zs = [] ∧ ∃ a cap, v = .slice a 0 cap ∧ cap ≤ maxLen ∧ (a = none → cap = 0)) ∨ (zs ≠ [] ∧ ∃ off cap, v = .slice (some ⟨b, off, none⟩) zs.length cap ∧ (zs.length ≤ cap ∧ cap ≤ maxLen) ∧ Cells k w b off zs ∧ Free w b off zs.length) := by
  obtain ⟨a, cap, h1, hcap, h2, h3⟩ := h
  by_cases hz : zs = []
  · subst hz; exact .inl ⟨rfl, a, cap, h1, hcap.2⟩
  · rcases h3 with h3 | ⟨off, rfl, h5, h6⟩
    · exact absurd h3 hz
    · exact .inr ⟨hz, off, cap, h1, ⟨hcap.1, hcap.2.1⟩, h5, h6⟩
theorem RdAt.open {k : IntKind} {w : World} {v : Value} {zs : List Int} {b : Nat} (h : RdAt k w v zs b) : (zs = [] ∧ ∃ a cap, v = .slice a 0 cap ∧ cap ≤ maxLen ∧ (a = none → cap = 0)) ∨ (zs ≠ [] ∧ ∃ off cap, v = .slice (some ⟨b, off, none⟩) zs.length cap ∧ (zs.length ≤ cap ∧ cap ≤ maxLen) ∧ Cells k w b off zs) := by
  obtain ⟨a, cap, h1, hcap, h2, h3⟩ := h
  by_cases hz : zs = []
  · subst hz; exact .inl ⟨rfl, a, cap, h1, hcap.2⟩
  · rcases h3 with h3 | ⟨off, rfl, h5⟩
    · exact absurd h3 hz
    · exact .inr ⟨hz, off, cap, h1, ⟨hcap.1, hcap.2.1⟩, h5⟩
theorem WrAt.nil (k : IntKind) (w : World) (a : Option Addr) (cap b : Nat) (h : cap ≤ maxLen ∧ (a = none → cap = 0)) : WrAt k w (.slice a 0 cap) [] b := ⟨a, cap, rfl, ⟨Nat.zero_le _, h⟩, by simp, .inl rfl⟩

theorem marksB_wf (k : Int) (n : Nat) : ∀ x ∈ marksB k n, (Lit.int .u8 x).wf = true := by
  intro x hx
  simp only [marksB, List.mem_map] at hx
  obtain ⟨i, _, rfl⟩ := hx
  have h0 : 0 ≤ (k + (i : Int)) % 256 := Int.emod_nonneg _ (by omega)
  have h1 : (k + (i : Int)) % 256 < 256 := Int.emod_lt_of_pos _ (by omega)
  simp [Lit.wf, IntKind.min, IntKind.max, IntKind.signed, IntKind.bits]
  omega
theorem marksI_wf (k : Int) (n : Nat) (h0 : 0 ≤ k) (h1 : k + n ≤ 9223372036854775807) : ∀ x ∈ marksI k n, (Lit.int .i64 x).wf = true := by
  intro x hx
  simp only [marksI, List.mem_map, List.mem_range] at hx
  obtain ⟨i, hi, rfl⟩ := hx
  exact WalkArith.wf_i64 (by omega)
/-- One mark more. -/
theorem marks_step {f : Int → Nat → List Int} {g : Nat → Int} {k : Int} (hf : ∀ n, f k n = (List.range n).map g) {zs : List Int} {j : Nat} (hj : j < zs.length) : (f k j ++ zs.drop j).set j (g j) = f k (j + 1) ++ zs.drop (j + 1) := by
  have hl : (f k j).length = j := by rw [hf]; simp
  rw [List.set_append_right _ _ (by omega), hl, Nat.sub_self, hf (j + 1), List.range_succ, List.map_append, ← hf j, List.append_assoc]
  congr 1
  have e : zs.drop j = zs[j] :: zs.drop (j + 1) := List.drop_eq_getElem_cons hj
  rw [e]
  rfl
theorem marks_len {f : Int → Nat → List Int} {g : Nat → Int} {k : Int} (hf : ∀ n, f k n = (List.range n).map g) {zs : List Int} {j : Nat} (hj : j ≤ zs.length) : (f k j ++ zs.drop j).length = zs.length := by
  rw [hf]; simp; omega

/-- What is read stays as it is where another block is written. -/
theorem RdAt.apart {k : IntKind} {w w' : World} {v : Value} {zs : List Int} {b c : Nat} (h : RdAt k w v zs b) (hg : w.grownBy w' (some c)) (hne : zs ≠ [] → b ≠ c) : RdAt k w' v zs b :=
  h.keep fun hz => hg.block b (h.lt hz) (fun e => hne hz (Option.some.inj e))
theorem WrAt.apart {k : IntKind} {w w' : World} {v : Value} {zs : List Int} {b c : Nat} (h : WrAt k w v zs b) (hg : w.grownBy w' (some c)) (hne : zs ≠ [] → b ≠ c) : WrAt k w' v zs b :=
  h.keep fun hz => hg.block b (h.rd.lt hz) (fun e => hne hz (Option.some.inj e))
/-- What touches one block of the call's own leaves all that was there when it began. -/
theorem below_touch {w0 w w' : World} {c : Nat} (h : Below w0.heap.size w0 w) (hg : w.grownBy w' (some c)) (hc : w0.heap.size ≤ c) : Below w0.heap.size w0 w' :=
  h.trans ⟨hg.os, hg.tape, hg.output, hg.size, fun k hk => hg.block k (Nat.lt_of_lt_of_le hk h.size) (fun e => by have := Option.some.inj e; omega)⟩
/-- What the call owns can be read and written, in a block of the call's own. -/
theorem own_wr {k : IntKind} {w : World} {B : Nat} {E : TypeId} {v : Value} {zs : List Int} (h : w.ownsRow B E 1 v zs.length (zs.map (Value.int k))) (hw : ∀ n ∈ zs, (Lit.int k n).wf = true) : ∃ b, B ≤ b ∧ WrAt k w v zs b := by
  obtain ⟨h1, h2⟩ := h
  rcases h2 with ⟨rfl, h0⟩ | ⟨g, cap, cur, rfl, hg, hh, hnc, hcm, hcs, htake⟩
  · have : zs = [] := List.length_eq_zero_iff.1 h0
    subst this
    exact ⟨B, Nat.le_refl _, none, 0, rfl, ⟨Nat.le_refl _, Nat.zero_le _, fun _ => rfl⟩, by simp, .inl rfl⟩
  · have hown : w.ownsRow B E 1 (.slice (some ⟨g, 0, none⟩) zs.length cap) zs.length (zs.map (Value.int k)) := ⟨h1, .inr ⟨g, cap, cur, rfl, hg, hh, hnc, hcm, hcs, htake⟩⟩
    refine ⟨g, hg, some ⟨g, 0, none⟩, cap, rfl, ⟨hnc, hcm, fun h => by cases h⟩, hw, .inr ⟨0, rfl, fun j hj => ?_, fun j _ => ?_⟩⟩
    · rw [Nat.zero_add, hown.cellAt j (by omega)]; simp [hj]
    · rw [Nat.zero_add]; exact hown.frozenAt j
theorem own_block {w : World} {B : Nat} {E : TypeId} {size n : Nat} {v : Value} {xs : List Value} (h : w.ownsRow B E size v n xs) : ∀ k, v.ownBlock = some k → B ≤ k := by
  intro k hk
  rcases h.2 with ⟨rfl, _⟩ | ⟨g, cap, cur, rfl, hg, _⟩
  · simp [Value.ownBlock] at hk
  · simp [Value.ownBlock] at hk; omega
/-- One number appended to what the call owns. -/
theorem own_snoc {k : IntKind} {w : World} {B : Nat} {E : TypeId} {v : Value} {F : List Int} {y : Int} (h : w.ownsRow B E 1 v (F.length + 1) (F.map (Value.int k) ++ [.int k y])) : w.ownsRow B E 1 v (F ++ [y]).length ((F ++ [y]).map (Value.int k)) := by
  rw [List.length_append, List.map_append]; exact h

/-- A slice of integers that came in: nil, or a row of 'cap' cells, the numbers 'zs', each fitting its kind. -/
def IsRow (k : IntKind) (w : World) (a : Option Addr) (len cap : Nat) (zs : List Int) : Prop :=
  (a = none ∧ len = 0 ∧ cap = 0 ∧ zs = []) ∨
  ∃ x, a = some x ∧ len ≤ cap ∧ cap ≤ maxLen ∧ zs.length = cap ∧ (∀ i, i < zs.length → w.cell? (x.add i) = some (.int k (zs.getD i 0))) ∧ ∀ n ∈ zs, (Lit.int k n).wf = true
theorem IsRow.rd {k : IntKind} {w : World} {a : Option Addr} {len cap : Nat} {zs : List Int} (h : IsRow k w a len cap zs) : ∃ b, RdAt k w (.slice a len cap) (zs.take len) b ∧ b < w.heap.size + 1 := by
  rcases h with ⟨rfl, rfl, rfl, rfl⟩ | ⟨x, rfl, h1, h2, h3, h4, h5⟩
  · exact ⟨0, ⟨none, 0, rfl, ⟨Nat.le_refl _, Nat.zero_le _, fun _ => rfl⟩, by simp, .inl rfl⟩, by omega⟩
  · have hl : (zs.take len).length = len := by rw [List.length_take]; omega
    by_cases h0 : len = 0
    · subst h0
      exact ⟨0, ⟨some x, cap, by simp, ⟨by simp, h2, fun h => by cases h⟩, by simp, .inl (by simp)⟩, by omega⟩
    · obtain ⟨b, off, spot⟩ := x
      have hc := h4 0 (by omega)
      have hspot : spot = none := by simpa [Addr.add] using World.cell?_spot hc
      subst hspot
      have hlt : b < w.heap.size := by
        have := World.block_lt_of_cell? _ _ hc
        simpa [Addr.add] using this
      refine ⟨b, ⟨some ⟨b, off, none⟩, cap, by rw [hl], ⟨by rw [hl]; exact h1, h2, fun h => by cases h⟩, fun n hn => h5 n (List.mem_of_mem_take hn), .inr ⟨off, rfl, fun j hj => ?_⟩⟩, by omega⟩
      have hj1 : j < len := by rw [hl] at hj; exact hj
      have hcj := h4 j (by omega)
      have e : (⟨b, off, none⟩ : Addr).add j = ⟨b, off + j, none⟩ := by simp [Addr.add]
      rw [e] at hcj
      rw [hcj]
      simp [List.getD, show j < zs.length by omega]

/-- The first k of a slice. -/
theorem RdAt.take {k : IntKind} {w : World} {b off cap : Nat} {zs : List Int} (hcap : zs.length ≤ cap ∧ cap ≤ maxLen) (hw : ∀ n ∈ zs, (Lit.int k n).wf = true) (h : Cells k w b off zs) (m : Nat) (hm : m ≤ zs.length) : RdAt k w (.slice (some ⟨b, off, none⟩) m cap) (zs.take m) b := by
  have hl : (zs.take m).length = m := by rw [List.length_take]; omega
  refine ⟨_, _, by rw [hl], ⟨by omega, hcap.2, fun h => by cases h⟩, fun n hn => hw n (List.mem_of_mem_take hn), .inr ⟨off, rfl, fun j hj => ?_⟩⟩
  rw [hl] at hj
  rw [h j (by omega)]
  simp

/-- A contract that leaves the world, as the walk of a drawn region wants it. -/
theorem flip_same {P : Program} {f : FuncId} {args : Array Value} {w : World} {v u : Value} (h : Calls P f args w fun e w' => e = .returned v ∧ w = w') (hv : v = u) : Calls P f args w fun e w' => e = .returned u ∧ w' = w :=
  h.mono fun _ _ ⟨h1, h2⟩ => ⟨by rw [h1, hv], h2.symm⟩

/-- 'append(out, b...)': out the call's own, b a slice that can be read: nil, empty or not. -/
theorem wpList_append_rd {P : Program} (w : World) {ops : Array Oper} {rest : List Oper} {o : Oper} {a : Act} {Q : Exit → Act → World → Prop} (hgd : o.guard = none) (s x : Operand) (t : TypeId)
    (ho : o.op = .call { callee := .builtin .append, args := #[s, x], argTypes := #[t, t] })
    (base : Nat) (e : TypeId) (i : TypeInfo) (z : Value) (bytes : Nat) (ht : P.underlying t = some (.slice e)) (hi : P.info? e = some i) (hz : i.zero = some z)
    (hsize : i.size = 1) (hby : i.bytes = bytes) (hzs : z.cells.size = 1)
    (v : Value) (n : Nat) (xs : List Value) (hs : a.eval s = v) (hown : w.ownsRow base e 1 v n xs)
    (k : IntKind) (vx : Value) (zs : List Int) (b : Nat) (hx : a.eval x = vx) (hr : RdAt k w vx zs b)
    (h63 : n + zs.length ≤ maxLen) (hbytes : (n + zs.length) * bytes ≤ 140737488355328) (hbase : base ≤ w.heap.size)
    (h : ∀ v' w', w'.ownsRow base e 1 v' (n + zs.length) (xs ++ zs.map (Value.int k)) → w.grownBy w' v.ownBlock → wpList P ops Q rest (a.put o.dst v') w') : wpList P ops Q (o :: rest) a w := by
  have one : ∀ u ∈ zs.map (Value.int k), u.oneCell' = true := by
    intro u hu; simp at hu; obtain ⟨y, _, rfl⟩ := hu; rfl
  rcases hr.open with ⟨rfl, ad, cap, rfl, hcm, hnil⟩ | ⟨hne, off, cap, rfl, hcap, hc⟩
  · cases ad with
    | none =>
      have hc0 := hnil rfl
      subst hc0
      refine wpList_append_own_none hgd s x t ho base e i 1 ht hi v n xs hs hown hx ?_
      refine h v w ?_ ⟨rfl, rfl, rfl, Nat.le_refl _, fun _ _ _ => rfl⟩
      simpa using hown
    | some ad =>
      refine wpList_append_own w hgd s x t ho base e i z 1 bytes ht hi hz hsize hby hzs (by decide) v n xs hs hown ad 0 cap [] hx rfl (by simp) (by simp) (by simpa using h63) (by simpa using hbytes) hbase fun v' w' h1 h2 _ => h v' w' (by simpa using h1) h2
  · refine wpList_append_own w hgd s x t ho base e i z 1 bytes ht hi hz hsize hby hzs (by decide) v n xs hs hown ⟨b, off, none⟩ zs.length cap (zs.map (Value.int k)) hx (by simp) (fun j u hu => ?_) one h63 hbytes hbase fun v' w' h1 h2 _ => h v' w' h1 h2
    have hj : j < zs.length := by have := (List.getElem?_eq_some_iff.1 hu).1; simpa using this
    have e2 : (⟨b, off, none⟩ : Addr).add j = ⟨b, off + j, none⟩ := by simp [Addr.add]
    rw [e2, hc j hj]
    simpa [hj] using hu
/-- What a call owns, grown by a list of numbers. -/
theorem own_app {k : IntKind} {w : World} {B : Nat} {E : TypeId} {v : Value} {F zs : List Int} (h : w.ownsRow B E 1 v (F.length + zs.length) (F.map (Value.int k) ++ zs.map (Value.int k))) : w.ownsRow B E 1 v (F ++ zs).length ((F ++ zs).map (Value.int k)) := by
  rw [List.length_append, List.map_append]; exact h

theorem one_cell (k : IntKind) (y : Int) : ∀ u ∈ [Value.int k y], u.oneCell' = true := by
  intro u hu; simp at hu; subst hu; rfl
theorem own_shape {w : World} {B : Nat} {E : TypeId} {size n : Nat} {v : Value} {xs : List Value} (h : w.ownsRow B E size v n xs) : ∃ a cap, v = .slice a n cap := by
  rcases h.2 with ⟨rfl, h0⟩ | ⟨g, cap, cur, rfl, _⟩
  · exact ⟨none, 0, by rw [h0]⟩
  · exact ⟨_, cap, rfl⟩
theorem own_below {w w' : World} {B : Nat} {E : TypeId} {size n : Nat} {v : Value} {xs : List Value} (h : w.ownsRow B E size v n xs) (hb : Below w.heap.size w w') : w'.ownsRow B E size v n xs :=
  h.kept (row := none) ⟨hb.os, hb.tape, hb.output, hb.size, fun k hk _ => hb.block k hk⟩ (Classical.em _)
end Go.Proofs.YtmhbonbjnpcpeaaGreatDoor
namespace Go.Proofs.YtmhbonbjnpcpeaaGreatDoor
open Go.RowKit

theorem info_i64 : (Tryz.prog.info? 3).map (fun i => (i.zero, i.size, i.bytes)) = some (some (.int .i64 0), 1, 8) := by kernel_rfl

theorem own_madeIntS {w : World} {B g : Nat} {E : TypeId} {size n cap : Nat} {xs : List Value} (h : w.ownsRow B E size (.slice (some ⟨g, 0, none⟩) n cap) n xs) : g < w.heap.size := by
  rcases h.2 with ⟨h', _⟩ | ⟨g', cap', cur, h', _, hg, _⟩
  · simp at h'
  · simp only [Value.slice.injEq, Option.some.injEq, Addr.mk.injEq, and_true, true_and] at h'
    obtain ⟨rfl, rfl⟩ := h'
    exact (Array.getElem?_eq_some_iff.1 hg).1

set_option maxRecDepth 100000 in
set_option maxHeartbeats 400000 in
theorem toIntS_any (v : Value) (zs : List Int) (b : Nat) (w : World) (h : RdAt .i64 w v zs b) (hl : zs.length ≤ 1099511627776) :
    Calls Tryz.prog 18 #[v] w fun e w' => ∃ v', e = .returned v' ∧ WrAt .i64 w' v' zs w.heap.size ∧ Below w.heap.size w w' ∧ w.heap.size < w'.heap.size := by
  obtain ⟨i0, hi, hz0, hz1, hz2⟩ := info_parts info_i64
  obtain ⟨a, cap, rfl, -, hwf, hcell⟩ := h
  obtain ⟨n, hn⟩ : ∃ n, n = zs.length := ⟨_, rfl⟩
  have Hn := Lib.hid hn
  rw [← hn] at hl ⊢
  clear hn
  go_enter Tryz.func18, Tryz.ntmps18
  go_wp2_with (at_make; refine wpList_make_full _ rfl _ _ 22 rfl w.heap.size 3 i0 (.int .i64 0) 1 Tryz.underlying22 hi hz0 hz1 _ _ _ _ n rfl rfl rfl rfl ?c1 ?c2 ?c3 ?_)
  case c1 => rw [hz2]; omega
  case c2 => unfold maxLen; omega
  case c3 => exact Nat.le_refl _
  intro w1 hown hgr
  have hb1 : Below w.heap.size w w1 := (Below.refl _ _).grown hgr (Nat.le_refl _) (fun k hk => by cases hk)
  clear hgr hi hz0 hz1 hz2
  go_wp2_with fail
  go_loopw [4] (fun i wr => ∃ k : Nat, k ≤ n ∧ i = .int .i64 k ∧ Below w.heap.size w wr ∧ ∃ xs, wr.ownsRow w.heap.size 3 1 (.slice (some ⟨w.heap.size, 0, none⟩) n n) n xs ∧ ∀ j, j < k → xs[j]? = some (.int .i64 (zs.getD j 0))) (fun i _ => n - (intOf i).toNat)
  case atStart => exact ⟨0, Nat.zero_le _, rfl, hb1, _, hown, fun j hj => by omega⟩
  case round =>
    clear hown hb1
    obtain ⟨k, hk, rfl, hb2, xs, hown, hxs⟩ := hrel
    by_cases hlt : k < n
    · have hzl : k < zs.length := by rw [← Hn.out]; exact hlt
      rcases hcell with h0 | ⟨off, rfl, hc⟩
      · subst h0; simp at hzl
      obtain ⟨y, hy⟩ : ∃ y, Hid (y = zs.getD k 0) := ⟨_, Lib.hid rfl⟩
      have hc1 : wr.cell? ⟨b, off + k, none⟩ = some (.int .i64 y) := by
        have h1 := hc k hzl
        rw [hb2.cell (World.block_lt_of_cell? _ _ h1), h1, hy.out]
        simp [List.getD, hzl]
      obtain ⟨x, hx⟩ : ∃ x, xs[k]? = some x := ⟨_, List.getElem?_eq_getElem (by rw [hown.1]; omega)⟩
      have hc2 : wr.cell? ⟨w.heap.size, k, none⟩ = some x := by rw [hown.cellAt k (by omega), hx]
      have hf2 : wr.frozen? ⟨w.heap.size, k, none⟩ = false := hown.frozenAt k
      have hst := (hown.stored k (.int .i64 y)).1
      have hb3 : Below w.heap.size w (wr.setCell ⟨w.heap.size, k, none⟩ (.int .i64 y)) := hb2.setCell (Nat.le_refl _) _
      have hrel2 : Hid (∀ j, j < k + 1 → (xs.set k (.int .i64 y))[j]? = some (.int .i64 (zs.getD j 0))) := Lib.hid (fun j hj => by
        by_cases e : j = k
        · subst e; rw [List.getElem?_set_self (by rw [hown.1]; omega), hy.out]
        · rw [List.getElem?_set_ne (by omega)]; exact hxs j (by omega))
      clear hc hx hb2 hxs hown
      go_wp2_with fail
      go_roundw
      case rel => exact ⟨k + 1, by omega, by go_num, hb3, _, hst, hrel2.out⟩
      case measure => simp [intOf]; omega
    · obtain rfl : k = n := by omega
      go_wp2_with fail
      go_ret
      refine ⟨_, rfl, ⟨some ⟨w.heap.size, 0, none⟩, k, by rw [← Hn.out]; rfl, ⟨by rw [Hn.out]; exact Nat.le_refl _, by unfold maxLen; omega, fun h => by cases h⟩, hwf, ?_⟩, hb2, own_madeIntS hown⟩
      by_cases hz : zs = []
      · exact .inl hz
      · refine .inr ⟨0, rfl, fun j hj => ?_, fun j hj => ?_⟩
        · rw [Nat.zero_add, hown.cellAt j (by rw [Hn.out]; omega), hxs j (by rw [Hn.out]; exact hj)]
          simp [List.getD, hj]
        · rw [Nat.zero_add]; exact hown.frozenAt j

set_option maxRecDepth 100000 in
set_option maxHeartbeats 400000 in
theorem eqIntS_any (va vb : Value) (za zb : List Int) (ba bb : Nat) (w : World) (ha : RdAt .i64 w va za ba) (hb : RdAt .i64 w vb zb bb) (hl : za.length ≤ 1099511627776) (hl2 : zb.length ≤ 1099511627776) :
    Calls Tryz.prog 24 #[va, vb] w fun e w' => (∃ r : Bool, e = .returned (.bool r) ∧ (r = true ↔ za = zb)) ∧ ∃ n, w' = w.drewN n := by
  obtain ⟨aa, ca, rfl, -, -, hca⟩ := ha
  obtain ⟨ab, cb, rfl, -, -, hcb⟩ := hb
  obtain ⟨n, hn⟩ : ∃ n, n = za.length := ⟨_, rfl⟩
  obtain ⟨m, hm⟩ : ∃ m, m = zb.length := ⟨_, rfl⟩
  have Hn := Lib.hid hn
  have Hm := Lib.hid hm
  rw [← hn] at hl ⊢
  rw [← hm] at hl2 ⊢
  clear hn hm
  by_cases hnm : n = m
  · subst hnm
    have hq : ((n : Int) != (n : Int)) = false := by simp
    go_enter Tryz.func24, Tryz.ntmps24
    go_wp2_with fail
    go_loopw [5] (fun i wr => ∃ k : Nat, k ≤ n ∧ i = .int .i64 k ∧ (∃ q, wr = w.drewN q) ∧ Hid (∀ j (h1 : j < za.length) (h2 : j < zb.length), j < k → za[j] = zb[j])) (fun i _ => n - (intOf i).toNat)
    case atStart => exact ⟨0, Nat.zero_le _, rfl, ⟨0, rfl⟩, Lib.hid (fun j _ _ h => by omega)⟩
    case round =>
      obtain ⟨k, hk, rfl, ⟨q, rfl⟩, hsame⟩ := hrel
      by_cases hlt : k < n
      · have hza : k < za.length := by rw [← Hn.out]; exact hlt
        have hzb : k < zb.length := by rw [← Hm.out]; exact hlt
        rcases hca with h0 | ⟨oa, rfl, hc1⟩
        · subst h0; simp at hza
        rcases hcb with h0 | ⟨ob, rfl, hc2⟩
        · subst h0; simp at hzb
        obtain ⟨x, hx⟩ : ∃ x, Hid (x = za[k]) := ⟨_, Lib.hid rfl⟩
        obtain ⟨y, hy⟩ : ∃ y, Hid (y = zb[k]) := ⟨_, Lib.hid rfl⟩
        have h1 : w.cell? ⟨ba, oa + k, none⟩ = some (.int .i64 x) := by rw [hc1 k hza, hx.out]
        have h2 : w.cell? ⟨bb, ob + k, none⟩ = some (.int .i64 y) := by rw [hc2 k hzb, hy.out]
        clear hc1 hc2
        by_cases hxy : x = y
        · subst hxy
          have hs2 : Hid (∀ j (h1 : j < za.length) (h2 : j < zb.length), j < k + 1 → za[j] = zb[j]) := Lib.hid (fun j h1 h2 hj => by
            by_cases e : j = k
            · subst e; rw [← hx.out, ← hy.out]
            · exact hsame.out j h1 h2 (by omega))
          go_wp2_with fail
          go_quiet (fail)
          go_wp2_with fail
          go_roundw
          case rel => exact ⟨k + 1, by omega, by go_num, ⟨_, rfl⟩, hs2⟩
          case measure => simp [intOf]; omega
        · have hne : (x != y) = true := by simpa using hxy
          have hno : Hid (za ≠ zb) := Lib.hid (list_ne_of hza hzb (by rw [← hx.out, ← hy.out]; exact hxy))
          clear hxy
          go_wp2_with fail
          go_quiet (fail)
          go_wp2_with fail
          go_ret
          exact ⟨⟨_, rfl, ⟨(fun h => by cases h), fun h => absurd h hno.out⟩⟩, ⟨_, World.drewN_drewN _ _ _⟩⟩
      · obtain rfl : k = n := by omega
        have hyes : Hid (za = zb) := Lib.hid (list_eq_of (by rw [← Hn.out, ← Hm.out]) (fun j h1 h2 => hsame.out j h1 h2 (by rw [Hn.out]; exact h1)))
        go_wp2_with fail
        go_ret
        exact ⟨⟨_, rfl, ⟨fun _ => hyes.out, fun _ => rfl⟩⟩, ⟨_, rfl⟩⟩
  · have hq : ((n : Int) != (m : Int)) = true := by simp; omega
    have hno : Hid (za ≠ zb) := Lib.hid (fun e => hnm (by rw [Hn.out, Hm.out, e]))
    clear hnm
    go_enter Tryz.func24, Tryz.ntmps24
    go_wp2_with fail
    go_ret
    exact ⟨⟨_, rfl, ⟨(fun h => by cases h), fun h => absurd h hno.out⟩⟩, ⟨0, rfl⟩⟩


theorem eqIntS_t (va vb : Value) (zs : List Int) (ba bb : Nat) (w : World) (ha : RdAt .i64 w va zs ba) (hb : RdAt .i64 w vb zs bb) (hl : zs.length ≤ 1099511627776) :
    Calls Tryz.prog 24 #[va, vb] w fun e w' => e = .returned (.bool true) ∧ Below w.heap.size w w' := by
  refine (eqIntS_any va vb zs zs ba bb w ha hb hl hl).mono ?_
  rintro e w' ⟨⟨r, rfl, hr⟩, n, rfl⟩
  have : r = true := hr.2 rfl
  subst this
  exact ⟨rfl, _root_.Go.below_drewN (Below.refl _ _) _⟩

end Go.Proofs.YtmhbonbjnpcpeaaGreatDoor
namespace Go.Proofs.YtmhbonbjnpcpeaaGreatDoor
open Go.RowKit

theorem szIntS_any (p : Option Addr) (n c : Nat) (left : Int) (w : World) (h0 : 0 ≤ left) (h1 : left ≤ 1048576) (hn : n ≤ 9223372036854775807) :
    Calls Tryz.prog 11 #[.slice p n c, .int .i64 left] w fun e w' => e = .returned (.int .i64 (if left < n then -1 else left - n)) ∧ w = w' := by
  by_cases h : left < n
  · rw [if_pos h]
    have hd : left - (n : Int) < 0 := by omega
    go_enter Tryz.func11, Tryz.ntmps11
    go_wp2_with fail
    go_ret
    exact ⟨rfl, rfl⟩
  · rw [if_neg h]
    have hd : ¬ left - (n : Int) < 0 := by omega
    go_enter Tryz.func11, Tryz.ntmps11
    go_wp2_with fail
    go_ret
    exact ⟨rfl, rfl⟩

end Go.Proofs.YtmhbonbjnpcpeaaGreatDoor
namespace Go.Proofs.YtmhbonbjnpcpeaaGreatDoor
open Go.RowKit

/-- The value v is a slice of slices, which hold the numbers zss. -/
def RdRows (k : IntKind) (w : World) (v : Value) (zss : List (List Int)) : Prop :=
  ∃ (a : Option Addr) (cap : Nat), v = .slice a zss.length cap ∧ (zss.length ≤ cap ∧ cap ≤ maxLen ∧ (a = none → cap = 0)) ∧
    (zss = [] ∨ ∃ blk off, a = some ⟨blk, off, none⟩ ∧ ∀ j (hj : j < zss.length), ∃ (r : Value) (b : Nat), w.cell? ⟨blk, off + j, none⟩ = some r ∧ RdAt k w r zss[j] b)
theorem RdRows.below {k : IntKind} {w w' : World} {v : Value} {zss : List (List Int)} (h : RdRows k w v zss) (hb : Below w.heap.size w w') : RdRows k w' v zss := by
  obtain ⟨a, cap, h1, h2, h3⟩ := h
  refine ⟨a, cap, h1, h2, ?_⟩
  rcases h3 with h3 | ⟨blk, off, h4, h5⟩
  · exact .inl h3
  · refine .inr ⟨blk, off, h4, fun j hj => ?_⟩
    obtain ⟨r, b, hc, hr⟩ := h5 j hj
    exact ⟨r, b, by rw [hb.cell (p := ⟨blk, off + j, none⟩) (World.block_lt_of_cell? _ _ hc)]; exact hc, hr.below hb⟩
/-- A row that is read. -/
theorem RdRows.row {k : IntKind} {w : World} {v : Value} {zss : List (List Int)} (h : RdRows k w v zss) {j : Nat} (hj : j < zss.length) :
    ∃ (blk off cap : Nat) (p : Option Addr) (c b : Nat), v = .slice (some ⟨blk, off, none⟩) zss.length cap ∧ w.cell? ⟨blk, off + j, none⟩ = some (.slice p zss[j].length c) ∧ RdAt k w (.slice p zss[j].length c) zss[j] b ∧ zss[j].length ≤ maxLen := by
  obtain ⟨a, cap, h1, h2, h3⟩ := h
  rcases h3 with h3 | ⟨blk, off, rfl, h5⟩
  · subst h3; simp at hj
  · obtain ⟨r, b, hc, hr⟩ := h5 j hj
    obtain ⟨p, c, rfl, hcap, -⟩ := id hr
    exact ⟨blk, off, cap, p, c, b, h1, hc, hr, Nat.le_trans hcap.1 hcap.2.1⟩
/-- A slice of slices that came in. -/
def IsRows (k : IntKind) (w : World) (a : Option Addr) (len cap : Nat) (zss : List (List Int)) : Prop := RdRows k w (.slice a len cap) zss
theorem isRows_nil {k : IntKind} {w : World} : IsRows k w none 0 0 [] := ⟨none, 0, rfl, ⟨Nat.le_refl _, Nat.zero_le _, fun _ => rfl⟩, .inl rfl⟩
theorem rows_of_open {k : IntKind} {w : World} {a : Addr} {len cap : Nat} (hl : len ≤ cap) (hm : cap ≤ maxLen) (A : Nat → Option Addr) (L C : Nat → Nat) (Z : Nat → List Int)
    (h : ∀ r, r < cap → w.cell? (a.add r) = some (.slice (A r) (L r) (C r)) ∧ L r ≤ C r ∧ C r ≤ maxLen ∧ (Z r).length = C r ∧ (∀ n ∈ Z r, (Lit.int k n).wf = true) ∧ (A r = none → C r = 0) ∧
        ∀ a', A r = some a' → 0 ≤ a'.block ∧ ∀ c, c < C r → w.cell? (a'.add c) = some (.int k ((Z r).getD c 0))) :
    RdRows k w (.slice (some a) len cap) ((List.range len).map fun r => (Z r).take (L r)) := by
  refine ⟨some a, cap, by simp, ⟨by simpa using hl, hm, fun h => by cases h⟩, ?_⟩
  by_cases h0 : len = 0
  · subst h0; exact .inl rfl
  obtain ⟨blk, off, spot⟩ := a
  have hs : spot = none := by
    have := (h 0 (by omega)).1
    simpa [Addr.add] using World.cell?_spot this
  subst hs
  refine .inr ⟨blk, off, rfl, fun j hj => ?_⟩
  have hj' : j < len := by simpa using hj
  obtain ⟨h1, h2, h3, h4, h5, h6, h7⟩ := h j (by omega)
  have e : (⟨blk, off, none⟩ : Addr).add j = ⟨blk, off + j, none⟩ := by simp [Addr.add]
  rw [e] at h1
  have hrow : IsRow k w (A j) (L j) (C j) (Z j) := by
    cases hA : A j with
    | none =>
      have hc0 := h6 hA
      have hz : Z j = [] := List.length_eq_zero_iff.1 (by omega)
      exact .inl ⟨rfl, by omega, hc0, hz⟩
    | some x => exact .inr ⟨x, rfl, h2, h3, h4, fun i hi => (h7 x hA).2 i (by omega), h5⟩
  obtain ⟨b, hr, -⟩ := hrow.rd
  exact ⟨_, b, h1, by simpa using hr⟩

def sumLen (zss : List (List Int)) : Nat := (zss.map List.length).sum
theorem sumLen_take (zss : List (List Int)) (k : Nat) (h : k < zss.length) : sumLen (zss.take (k + 1)) = sumLen (zss.take k) + zss[k].length := by
  unfold sumLen
  rw [List.take_succ_eq_append_getElem h, List.map_append, List.sum_append]; simp
theorem sumLen_take_le (zss : List (List Int)) (k : Nat) : sumLen (zss.take k) ≤ sumLen zss := by
  have : sumLen zss = sumLen (zss.take k) + sumLen (zss.drop k) := by
    unfold sumLen; rw [← List.sum_append, ← List.map_append, List.take_append_drop]
  omega
theorem len_le_sum : ∀ (zss : List (List Int)) {j : Nat} (h : j < zss.length), zss[j].length ≤ sumLen zss
  | [], j, h => by simp at h
  | z :: zss, 0, h => by simp [sumLen]
  | z :: zss, j + 1, h => by
    have := len_le_sum zss (j := j) (by simpa using h)
    simp only [sumLen, List.map_cons, List.sum_cons, List.getElem_cons_succ] at this ⊢
    omega


set_option maxRecDepth 100000 in
theorem szIntSS_any (v : Value) (zss : List (List Int)) (left : Int) (w : World) (h : RdRows .i64 w v zss) (h0 : 0 ≤ left) (h1 : left ≤ 1048576) :
    Calls Tryz.prog 10 #[v, .int .i64 left] w fun e w' => (∃ r : Int, e = .returned (.int .i64 r) ∧ -1 ≤ r ∧ r ≤ 1048576 ∧ (0 ≤ r → (zss.length : Int) + sumLen zss + r = left)) ∧ w = w' := by
  have hrow := fun j (hj : j < zss.length) => h.row hj
  obtain ⟨a, cap, rfl, hcap, -⟩ := id h
  obtain ⟨n, hn⟩ : ∃ n, n = zss.length := ⟨_, rfl⟩
  have Hn := Lib.hid hn
  have hn2 : n ≤ 9223372036854775807 := by have := hcap.1; have h2 := hcap.2.1; unfold maxLen at h2; omega
  have Hrow := Lib.hid hrow
  rw [← hn]
  clear hn hrow h hcap
  by_cases hl : left < n
  · have hd : left - (n : Int) < 0 := by omega
    go_enter Tryz.func10, Tryz.ntmps10
    go_wp2_with fail
    go_ret
    exact ⟨⟨-1, rfl, by omega, by omega, fun h => by omega⟩, rfl⟩
  · have hd : ¬ left - (n : Int) < 0 := by omega
    go_enter Tryz.func10, Tryz.ntmps10
    go_wp2_with fail
    go_loop [1, 5] (fun l i => ∃ (k : Nat) (x : Int), k ≤ n ∧ i = .int .i64 k ∧ l = .int .i64 x ∧ 0 ≤ x ∧ x ≤ 1048576 ∧ Hid ((n : Int) + sumLen (zss.take k) + x = left)) (fun _ i => n - (intOf i).toNat)
    case atStart => exact ⟨0, left - n, Nat.zero_le _, rfl, rfl, by omega, by omega, Lib.hid (by simp [sumLen]; omega)⟩
    case round =>
      obtain ⟨k, x, hk, rfl, rfl, hx0, hx1, hs⟩ := hrel
      by_cases hlt : k < n
      · have hz : k < zss.length := by rw [← Hn.out]; exact hlt
        obtain ⟨blk, off, cap', p, c, b, hv, hc, -, hml⟩ := Hrow.out k hz
        have ha := (Value.slice.inj hv).1
        clear hv
        subst ha
        have hst := sumLen_take zss k hz
        obtain ⟨m, hm⟩ : ∃ m, m = (zss[k]'hz).length := ⟨_, rfl⟩
        rw [← hm] at hc hml hst
        have Hst := Lib.hid hst
        unfold maxLen at hml
        clear hm hst
        by_cases hxm : x < m
        · have HC := Lib.hid (szIntS_any p m c x w hx0 hx1 (by omega))
          rw [if_pos hxm] at HC
          go_wp2_with fail
          refine HC.out.mono ?_
          rintro e _w ⟨rfl, rfl⟩
          go_wp2_with fail
          go_ret
          exact ⟨⟨-1, rfl, by omega, by omega, fun h => by omega⟩, rfl⟩
        · have HC := Lib.hid (szIntS_any p m c x w hx0 hx1 (by omega))
          rw [if_neg hxm] at HC
          have hs2 : Hid ((n : Int) + sumLen (zss.take (k + 1)) + (x - m) = left) := Lib.hid (by have := hs.out; rw [Hst.out]; omega)
          go_wp2_with fail
          refine HC.out.mono ?_
          rintro e _w ⟨rfl, rfl⟩
          go_wp2_with fail
          go_round
          case rel => exact ⟨k + 1, x - m, by omega, by go_num, rfl, by omega, by omega, hs2⟩
          case measure => simp [intOf]; omega
      · obtain rfl : k = n := by omega
        have hs2 : Hid ((k : Int) + sumLen zss + x = left) := Lib.hid (by have := hs.out; rw [List.take_of_length_le (by rw [Hn.out]; exact Nat.le_refl _)] at this; exact this)
        go_wp2_with fail
        go_ret
        exact ⟨⟨x, rfl, by omega, by omega, fun _ => hs2.out⟩, rfl⟩

theorem info_rowI : (Tryz.prog.info? 22).map (fun i => (i.zero, i.size, i.bytes)) = some (some (.slice none 0 0), 1, 24) := by kernel_rfl

/-- .. and may be written: each row in a block of its own, the blocks behind one another. -/
def WrRows (k : IntKind) (w : World) (B : Nat) (v : Value) (zss : List (List Int)) : Prop :=
  ∃ (blk cap : Nat) (bf : Nat → Nat), v = .slice (some ⟨blk, 0, none⟩) zss.length cap ∧ (zss.length ≤ cap ∧ cap ≤ maxLen) ∧ B ≤ blk ∧ blk < w.heap.size ∧
    (∀ i j, i < j → j < zss.length → bf i < bf j) ∧ ∀ j (hj : j < zss.length), blk < bf j ∧ bf j < w.heap.size ∧ w.frozen? ⟨blk, j, none⟩ = false ∧ ∃ r, w.cell? ⟨blk, j, none⟩ = some r ∧ WrAt k w r zss[j] (bf j)
theorem WrRows.rd {k : IntKind} {w : World} {B : Nat} {v : Value} {zss : List (List Int)} (h : WrRows k w B v zss) : RdRows k w v zss := by
  obtain ⟨blk, cap, bf, rfl, ⟨h1, h2⟩, -, -, -, h3⟩ := h
  refine ⟨_, cap, rfl, ⟨h1, h2, fun h => by cases h⟩, ?_⟩
  by_cases h0 : zss = []
  · exact .inl h0
  · refine .inr ⟨blk, 0, rfl, fun j hj => ?_⟩
    obtain ⟨-, -, -, r, hc, hr⟩ := h3 j hj
    exact ⟨r, bf j, by rw [Nat.zero_add]; exact hc, hr.rd⟩

set_option maxRecDepth 100000 in
set_option maxHeartbeats 1000000 in
theorem toIntSS_any (v : Value) (zss : List (List Int)) (w : World) (h : RdRows .i64 w v zss) (hl : zss.length ≤ 1048576) (hl2 : sumLen zss ≤ 1048576) :
    Calls Tryz.prog 17 #[v] w fun e w' => ∃ v', e = .returned v' ∧ WrRows .i64 w' w.heap.size v' zss ∧ Below w.heap.size w w' := by
  obtain ⟨i0, hi, hz0, hz1, hz2⟩ := info_parts info_rowI
  have hrow := fun wx (hb : Below w.heap.size w wx) j (hj : j < zss.length) => (h.below hb).row hj
  obtain ⟨a, cap, rfl, hcap, -⟩ := id h
  obtain ⟨n, hn⟩ : ∃ n, n = zss.length := ⟨_, rfl⟩
  have Hn := Lib.hid hn
  have Hrow := Lib.hid hrow
  have Hsum : Hid (∀ j (hj : j < zss.length), zss[j].length ≤ 1048576) := Lib.hid (fun j hj => Nat.le_trans (len_le_sum zss hj) hl2)
  rw [← hn] at hl ⊢
  clear hn hrow h hcap hl2
  go_enter Tryz.func17, Tryz.ntmps17
  go_wp2_with (at_make; refine wpList_make_full _ rfl _ _ 25 rfl w.heap.size 22 i0 (.slice none 0 0) 1 Tryz.underlying25 hi hz0 hz1 _ _ _ _ n rfl rfl rfl rfl ?c1 ?c2 ?c3 ?_)
  case c1 => rw [hz2]; omega
  case c2 => unfold maxLen; omega
  case c3 => exact Nat.le_refl _
  intro w1 hown hgr
  have hb1 : Below w.heap.size w w1 := (Below.refl _ _).grown hgr (Nat.le_refl _) (fun k hk => by cases hk)
  have hlt1 := own_madeIntS hown
  clear hgr hi hz0 hz1 hz2
  go_wp2_with fail
  go_loopw [4] (fun i wr => ∃ k : Nat, k ≤ n ∧ i = .int .i64 k ∧ Below w.heap.size w wr ∧ w.heap.size < wr.heap.size ∧ ∃ (xs : List Value) (bf : Nat → Nat), wr.ownsRow w.heap.size 22 1 (.slice (some ⟨w.heap.size, 0, none⟩) n n) n xs ∧
      Hid (∀ i j, i < j → j < k → bf i < bf j) ∧ Hid (∀ j (hj : j < zss.length), j < k → w.heap.size < bf j ∧ bf j < wr.heap.size ∧ ∃ r, xs[j]? = some r ∧ WrAt .i64 wr r zss[j] (bf j))) (fun i _ => n - (intOf i).toNat)
  case atStart => exact ⟨0, Nat.zero_le _, rfl, hb1, hlt1, _, fun _ => 0, hown, Lib.hid (fun i j _ h => by omega), Lib.hid (fun j _ h => by omega)⟩
  case round =>
    clear hown hb1 hlt1
    obtain ⟨k, hk, rfl, B, hlt1, xs, bf, hown, hmono, hxs⟩ := hrel
    by_cases hlt : k < n
    · have hz : k < zss.length := by rw [← Hn.out]; exact hlt
      obtain ⟨blk, off, cap', p, c, b, hv, hc, hr, -⟩ := Hrow.out wr B k hz
      have ha := (Value.slice.inj hv).1
      clear hv
      subst ha
      have hsm := Hsum.out k hz
      have hcall := toIntS_any _ _ _ wr hr (by omega)
      have Hz : Hid (k < zss.length) := Lib.hid hz
      obtain ⟨zs, hzs⟩ : ∃ zs, zs = zss[k]'hz := ⟨_, rfl⟩
      rw [← hzs] at hc hcall hsm
      have Hzs := Lib.hid hzs
      have hcall := Lib.hid hcall
      clear hr hzs
      go_wp2_with fail
      refine hcall.out.mono ?_
      rintro e w2 ⟨v2, rfl, hw2, B2, hlt2⟩
      obtain ⟨pa, pc, hv2, -⟩ := id hw2
      have hown2 := own_below hown B2
      have hB2 := B.trans (B2.mono B.size)
      obtain ⟨x, hx⟩ : ∃ x, xs[k]? = some x := ⟨_, List.getElem?_eq_getElem (by rw [hown.1]; omega)⟩
      have hc2 : w2.cell? ⟨w.heap.size, k, none⟩ = some x := by rw [hown2.cellAt k (by omega), hx]
      have hf2 : w2.frozen? ⟨w.heap.size, k, none⟩ = false := hown2.frozenAt k
      have hst := (hown2.stored k v2).1
      have hb3 : Below w.heap.size w (w2.setCell ⟨w.heap.size, k, none⟩ v2) := hB2.setCell (Nat.le_refl _) _
      have hs3 : (w2.setCell ⟨w.heap.size, k, none⟩ v2).heap.size = w2.heap.size := by simp [World.setCell]
      have hkeep : ∀ q, q ≠ w.heap.size → (w2.setCell ⟨w.heap.size, k, none⟩ v2).heap[q]? = w2.heap[q]? := fun q hq => Below.heap_setCell _ _ _ _ hq
      have hmono2 : Hid (∀ i j, i < j → j < k + 1 → (fun j => if j = k then wr.heap.size else bf j) i < (fun j => if j = k then wr.heap.size else bf j) j) := Lib.hid (fun i j hij hj => by
        have hik : i ≠ k := by omega
        have hiz : i < zss.length := by have := Hz.out; omega
        simp only [if_neg hik]
        by_cases e : j = k
        · rw [if_pos e]; exact (hxs.out i hiz (by omega)).2.1
        · rw [if_neg e]; exact hmono.out i j hij (by omega))
      have hrel2 : Hid (∀ j (hj : j < zss.length), j < k + 1 → w.heap.size < (fun j => if j = k then wr.heap.size else bf j) j ∧ (fun j => if j = k then wr.heap.size else bf j) j < (w2.setCell ⟨w.heap.size, k, none⟩ v2).heap.size ∧ ∃ r, (xs.set k v2)[j]? = some r ∧ WrAt .i64 (w2.setCell ⟨w.heap.size, k, none⟩ v2) r zss[j] ((fun j => if j = k then wr.heap.size else bf j) j)) := Lib.hid (fun j hjz hj => by
        rw [hs3]
        by_cases e : j = k
        · subst e
          simp only [if_true]
          refine ⟨hlt1, hlt2, v2, by rw [List.getElem?_set_self (by rw [hown.1]; omega)], ?_⟩
          rw [← Hzs.out]
          exact hw2.keep fun _ => hkeep _ (by omega)
        · obtain ⟨g1, g2, r, g3, g4⟩ := hxs.out j hjz (by omega)
          simp only [if_neg e]
          refine ⟨g1, Nat.lt_of_lt_of_le g2 B2.size, r, by rw [List.getElem?_set_ne (by omega)]; exact g3, ?_⟩
          exact (g4.below B2).keep fun _ => hkeep _ (by omega))
      have hlt3 : Hid (w.heap.size < (w2.setCell ⟨w.heap.size, k, none⟩ v2).heap.size) := Lib.hid (by rw [hs3]; exact Nat.lt_of_lt_of_le hlt1 B2.size)
      subst hv2
      clear hw2 hown2 hx hB2 hown hxs hmono B B2 hs3 hkeep hlt2 hlt1 hcall
      go_wp2_with fail
      go_roundw
      case rel => exact ⟨k + 1, by omega, by go_num, hb3, hlt3.out, _, _, hst, hmono2, hrel2⟩
      case measure => simp [intOf]; omega
    · obtain rfl : k = n := by omega
      go_wp2_with fail
      go_ret
      refine ⟨_, rfl, ⟨w.heap.size, k, bf, by rw [← Hn.out]; rfl, ⟨by rw [Hn.out]; exact Nat.le_refl _, by unfold maxLen; omega⟩, Nat.le_refl _, hlt1, fun i j hij hj => hmono.out i j hij (by rw [Hn.out]; exact hj), fun j hj => ?_⟩, B⟩
      obtain ⟨g1, g2, r, g3, g4⟩ := hxs.out j hj (by rw [Hn.out]; exact hj)
      exact ⟨g1, g2, hown.frozenAt j, r, by rw [hown.cellAt j (by rw [Hn.out]; omega)]; exact g3, g4⟩

set_option maxRecDepth 100000 in
set_option maxHeartbeats 1000000 in
theorem eqIntSS_t (va vb : Value) (zss : List (List Int)) (w : World) (ha : RdRows .i64 w va zss) (hb : RdRows .i64 w vb zss) (hl : zss.length ≤ 1048576) (hl2 : sumLen zss ≤ 1048576) :
    Calls Tryz.prog 23 #[va, vb] w fun e w' => e = .returned (.bool true) ∧ Below w.heap.size w w' := by
  have hrow := fun wx (h : Below w.heap.size w wx) j (hj : j < zss.length) => (ha.below h).row hj
  have hrow2 := fun wx (h : Below w.heap.size w wx) j (hj : j < zss.length) => (hb.below h).row hj
  obtain ⟨a, cap, rfl, -, -⟩ := id ha
  obtain ⟨a2, cap2, rfl, -, -⟩ := id hb
  obtain ⟨n, hn⟩ : ∃ n, n = zss.length := ⟨_, rfl⟩
  have Hn := Lib.hid hn
  have Hrow := Lib.hid hrow
  have Hrow2 := Lib.hid hrow2
  have Hsum : Hid (∀ j (hj : j < zss.length), zss[j].length ≤ 1048576) := Lib.hid (fun j hj => Nat.le_trans (len_le_sum zss hj) hl2)
  rw [← hn] at hl ⊢
  clear hn hrow hrow2 ha hb hl2
  go_enter Tryz.func23, Tryz.ntmps23
  go_wp2_with fail
  go_loopw [5] (fun i wr => ∃ k : Nat, k ≤ n ∧ i = .int .i64 k ∧ Below w.heap.size w wr) (fun i _ => n - (intOf i).toNat)
  case atStart => exact ⟨0, Nat.zero_le _, rfl, Below.refl _ _⟩
  case round =>
    obtain ⟨k, hk, rfl, B⟩ := hrel
    by_cases hlt : k < n
    · have hz : k < zss.length := by rw [← Hn.out]; exact hlt
      obtain ⟨blk, off, cap', p, c, b, hv, hc, hr, -⟩ := Hrow.out wr B k hz
      obtain ⟨blk2, off2, cap2', p2, c2, b2, hv2, hc2, hr2, -⟩ := Hrow2.out wr B k hz
      have ha := (Value.slice.inj hv).1
      have ha2 := (Value.slice.inj hv2).1
      clear hv hv2
      subst ha ha2
      have hsm := Hsum.out k hz
      have HQ : Hid (∀ q, Calls Tryz.prog 24 #[.slice p zss[k].length c, .slice p2 zss[k].length c2] (wr.drewN q) fun e w' => e = .returned (.bool true) ∧ ∃ m, w' = (wr.drewN q).drewN m) := Lib.hid (fun q => (eqIntS_any _ _ zss[k] zss[k] b b2 (wr.drewN q) (hr.below (_root_.Go.below_drewN (Below.refl _ _) _)) (hr2.below (_root_.Go.below_drewN (Below.refl _ _) _)) (by omega) (by omega)).mono (by
        rintro e w' ⟨⟨r, rfl, hr⟩, m, rfl⟩
        obtain rfl : r = true := hr.2 rfl
        exact ⟨rfl, m, rfl⟩))
      obtain ⟨m, hm⟩ : ∃ m, m = (zss[k]'hz).length := ⟨_, rfl⟩
      rw [← hm] at hc hc2 HQ
      clear hr hr2 hm hsm
      go_wp2_with fail
      go_quiet ((go_at_call 24; exact Calls.quiet_of (HQ.out _)))
      go_wp2_with fail
      go_roundw
      case rel => exact ⟨k + 1, by omega, by go_num, _root_.Go.below_drewN B _⟩
      case measure => simp [intOf]; omega
    · obtain rfl : k = n := by omega
      go_wp2_with fail
      go_ret
      exact ⟨rfl, B⟩
theorem WrRows.keepS {k : IntKind} {w w' : World} {B : Nat} {v : Value} {zss : List (List Int)} (h : WrRows k w B v zss) (hk : ∀ i, B ≤ i → i < w.heap.size → w'.heap[i]? = w.heap[i]?) (hs : w.heap.size ≤ w'.heap.size) : WrRows k w' B v zss := by
  obtain ⟨blk, cap, bf, rfl, h12, hB, hlt, hm, h3⟩ := h
  refine ⟨blk, cap, bf, rfl, h12, hB, by omega, hm, fun j hj => ?_⟩
  obtain ⟨q1, q2, q3, r, hc, hr⟩ := h3 j hj
  have e := hk blk hB hlt
  refine ⟨q1, by omega, by rw [World.frozen?_of_block (a := ⟨blk, j, none⟩) e]; exact q3, r, by rw [World.cell?_of_block (a := ⟨blk, j, none⟩) e]; exact hc, hr.keep fun _ => hk _ (by omega) q2⟩
end Go.Proofs.YtmhbonbjnpcpeaaGreatDoor
namespace Go.Proofs.YtmhbonbjnpcpeaaGreatDoor
open Go.RowKit
set_option linter.unusedVariables false
set_option linter.unusedSimpArgs false

def In (lo hi : Nat) : Nat → Prop := fun b => lo ≤ b ∧ b < hi
/-- All blocks but those of S are as they were. -/
structure Touch (S : Nat → Prop) (w w' : World) : Prop where
  os : w'.os = w.os
  tape : w'.tape = w.tape
  output : w'.output = w.output
  size : w.heap.size ≤ w'.heap.size
  block : ∀ k, k < w.heap.size → ¬ S k → w'.heap[k]? = w.heap[k]?
theorem Touch.refl (S : Nat → Prop) (w : World) : Touch S w w := ⟨rfl, rfl, rfl, Nat.le_refl _, fun _ _ _ => rfl⟩
theorem Touch.trans {S : Nat → Prop} {a b c : World} (h : Touch S a b) (k : Touch S b c) : Touch S a c :=
  ⟨k.os.trans h.os, k.tape.trans h.tape, k.output.trans h.output, Nat.le_trans h.size k.size, fun i hi hn => (k.block i (Nat.lt_of_lt_of_le hi h.size) hn).trans (h.block i hi hn)⟩
theorem Touch.mono {S T : Nat → Prop} {a b : World} (h : Touch S a b) (hs : ∀ k, S k → T k) : Touch T a b := ⟨h.os, h.tape, h.output, h.size, fun i hi hn => h.block i hi (fun e => hn (hs i e))⟩
theorem Below.touch {S : Nat → Prop} {w w' : World} (h : Below w.heap.size w w') : Touch S w w' := ⟨h.os, h.tape, h.output, h.size, fun i hi _ => h.block i hi⟩
/-- What touches blocks of the call's own leaves all that was there when it began. -/
theorem Below.thenTouch {S : Nat → Prop} {B : Nat} {w0 w w' : World} (h : Below B w0 w) (t : Touch S w w') (hB : B ≤ w.heap.size) (hS : ∀ k, S k → B ≤ k) : Below B w0 w' :=
  h.trans ⟨t.os, t.tape, t.output, t.size, fun k hk => t.block k (by omega) (fun e => by have := hS k e; omega)⟩
theorem touch_grown {w w' : World} {b : Nat} (h : w.grownBy w' (some b)) : Touch (fun k => k = b) w w' := ⟨h.os, h.tape, h.output, h.size, fun k hk hn => h.block k hk (fun e => hn (Option.some.inj e))⟩
theorem touch_heap {S : Nat → Prop} {w w' : World} (t : Touch S w w') {b : Nat} {o : Obj} (h : w.heap[b]? = some o) (hn : ¬ S b) : w'.heap[b]? = some o :=
  (t.block b (Array.getElem?_eq_some_iff.1 h).1 hn).trans h

theorem box_cell {w : World} {b : Nat} {c : Array Value} {t : TypeId} {fr : Nat × Nat} (h : w.heap[b]? = some (.cells c t fr)) (i : Nat) : w.cell? ⟨b, i, none⟩ = c[i]? := by
  simp [World.cell?, h]
theorem box_free {w : World} {b : Nat} {c : Array Value} {t : TypeId} (h : w.heap[b]? = some (.cells c t (0, 0))) (i : Nat) : w.frozen? ⟨b, i, none⟩ = false := by
  simp [World.frozen?, h]
theorem box_set {w : World} {b : Nat} {c : Array Value} {t : TypeId} {fr : Nat × Nat} (h : w.heap[b]? = some (.cells c t fr)) (i : Nat) (v : Value) : (w.setCell ⟨b, i, none⟩ v).heap[b]? = some (.cells (c.setIfInBounds i v) t fr) := by
  simp [World.setCell, Array.getElem?_modify, h]
theorem threeBoxes (w : World) (o1 o2 o3 : Obj) : (((w.alloc o1).alloc o2).alloc o3).heap[w.heap.size]? = some o1 ∧ (((w.alloc o1).alloc o2).alloc o3).heap[w.heap.size + 1]? = some o2 ∧ (((w.alloc o1).alloc o2).alloc o3).heap[w.heap.size + 2]? = some o3 := by
  refine ⟨?_, ?_, ?_⟩ <;> show (((w.heap.push o1).push o2).push o3)[_]? = _
  · rw [Array.getElem?_push, if_neg (by simp; omega), Array.getElem?_push, if_neg (by simp)]; simp
  · rw [Array.getElem?_push, if_neg (by simp), Array.getElem?_push, if_pos (by simp)]
  · rw [Array.getElem?_push, if_pos (by simp)]
def FrAt (k : IntKind) (S : Nat → Prop) (w : World) (v : Value) (zs : List Int) : Prop := ∃ b, RdAt k w v zs b ∧ (zs ≠ [] → S b)
def WrIn (k : IntKind) (S : Nat → Prop) (w : World) (v : Value) (zs : List Int) : Prop := ∃ b, WrAt k w v zs b ∧ (zs ≠ [] → S b)
theorem FrAt.touch {k : IntKind} {S T : Nat → Prop} {w w' : World} {v : Value} {zs : List Int} (h : FrAt k S w v zs) (t : Touch T w w') (hd : ∀ b, S b → ¬ T b) : FrAt k S w' v zs := by
  obtain ⟨b, hr, hs⟩ := h
  exact ⟨b, hr.keep fun hz => t.block b (hr.lt hz) (hd b (hs hz)), hs⟩
theorem WrIn.touch {k : IntKind} {S T : Nat → Prop} {w w' : World} {v : Value} {zs : List Int} (h : WrIn k S w v zs) (t : Touch T w w') (hd : ∀ b, S b → ¬ T b) : WrIn k S w' v zs := by
  obtain ⟨b, hr, hs⟩ := h
  exact ⟨b, hr.keep fun hz => t.block b (hr.rd.lt hz) (hd b (hs hz)), hs⟩
theorem WrIn.mono {k : IntKind} {S T : Nat → Prop} {w : World} {v : Value} {zs : List Int} (h : WrIn k S w v zs) (hs : ∀ b, S b → T b) : WrIn k T w v zs := by
  obtain ⟨b, hr, h2⟩ := h
  exact ⟨b, hr, fun hz => hs b (h2 hz)⟩
theorem WrIn.fr {k : IntKind} {S : Nat → Prop} {w : World} {v : Value} {zs : List Int} (h : WrIn k S w v zs) : FrAt k S w v zs := by
  obtain ⟨b, hr, h2⟩ := h; exact ⟨b, hr.rd, h2⟩
theorem WrIn.rd {k : IntKind} {S : Nat → Prop} {w : World} {v : Value} {zs : List Int} (h : WrIn k S w v zs) : ∃ b, RdAt k w v zs b := by
  obtain ⟨b, hr, h2⟩ := h; exact ⟨b, hr.rd⟩
theorem WrIn.of {k : IntKind} {lo : Nat} {w : World} {v : Value} {zs : List Int} {b : Nat} (h : WrAt k w v zs b) (hb : lo ≤ b) : WrIn k (In lo w.heap.size) w v zs := ⟨b, h, fun hz => ⟨hb, h.rd.lt hz⟩⟩
theorem WrIn.shape {k : IntKind} {S : Nat → Prop} {w : World} {v : Value} {zs : List Int} (h : WrIn k S w v zs) : ∃ p c, v = .slice p zs.length c := by
  obtain ⟨b, ⟨p, c, e, -⟩, -⟩ := h; exact ⟨p, c, e⟩
theorem RdAt.len {k : IntKind} {w : World} {v : Value} {zs : List Int} {b : Nat} (h : RdAt k w v zs b) : zs.length ≤ maxLen := by
  obtain ⟨a, cap, h1, hcap, h2⟩ := h; exact Nat.le_trans hcap.1 hcap.2.1
theorem WrAt.anyNil {k : IntKind} {w : World} {v : Value} {b : Nat} (h : WrAt k w v [] b) (b' : Nat) : WrAt k w v [] b' := by
  obtain ⟨a, cap, h1, hcap, h2, -⟩ := h; exact ⟨a, cap, h1, hcap, h2, .inl rfl⟩

/-- Slices of slices, to be written row by row: each row in a block of its own, apart from that of the heads. -/
def WrSS (k : IntKind) (S : Nat → Prop) (w : World) (v : Value) (zss : List (List Int)) : Prop :=
  ∃ (a : Option Addr) (cap : Nat), v = .slice a zss.length cap ∧ (zss.length ≤ cap ∧ cap ≤ maxLen ∧ (a = none → cap = 0)) ∧
    (zss = [] ∨ ∃ (hb off : Nat) (bf : Nat → Nat), a = some ⟨hb, off, none⟩ ∧ S hb ∧ (∀ j (hj : j < zss.length), ∃ r, w.cell? ⟨hb, off + j, none⟩ = some r ∧ WrAt k w r zss[j] (bf j) ∧ (zss[j] ≠ [] → S (bf j) ∧ bf j ≠ hb)) ∧
      ∀ i j (hi : i < zss.length) (hj : j < zss.length), i ≠ j → zss[i] ≠ [] → zss[j] ≠ [] → bf i ≠ bf j)
theorem WrSS.rd {k : IntKind} {S : Nat → Prop} {w : World} {v : Value} {zss : List (List Int)} (h : WrSS k S w v zss) : RdRows k w v zss := by
  obtain ⟨a, cap, e, hc, h3⟩ := h
  refine ⟨a, cap, e, hc, h3.imp id ?_⟩
  rintro ⟨hb, off, bf, e, -, hr, -⟩
  refine ⟨hb, off, e, fun j hj => ?_⟩
  obtain ⟨r, h1, h2, -⟩ := hr j hj
  exact ⟨r, bf j, h1, h2.rd⟩
theorem WrSS.shape {k : IntKind} {S : Nat → Prop} {w : World} {v : Value} {zss : List (List Int)} (h : WrSS k S w v zss) : ∃ p c, v = .slice p zss.length c := by
  obtain ⟨p, c, e, -⟩ := h; exact ⟨p, c, e⟩
theorem WrSS.touch {k : IntKind} {S T : Nat → Prop} {w w' : World} {v : Value} {zss : List (List Int)} (h : WrSS k S w v zss) (t : Touch T w w') (hd : ∀ b, S b → ¬ T b) : WrSS k S w' v zss := by
  obtain ⟨a, cap, e, hc, h3⟩ := h
  refine ⟨a, cap, e, hc, h3.imp id ?_⟩
  rintro ⟨hb, off, bf, e, hsb, hr, hap⟩
  refine ⟨hb, off, bf, e, hsb, fun j hj => ?_, hap⟩
  obtain ⟨r, h1, h2, h3⟩ := hr j hj
  have hlt : hb < w.heap.size := World.block_lt_of_cell? _ _ h1
  exact ⟨r, by rw [World.cell?_of_block (w := w) (a := ⟨hb, off + j, none⟩) (t.block hb hlt (hd hb hsb))]; exact h1, h2.keep fun hz => t.block _ (h2.rd.lt hz) (hd _ (h3 hz).1), h3⟩
theorem WrSS.mono {k : IntKind} {S T : Nat → Prop} {w : World} {v : Value} {zss : List (List Int)} (h : WrSS k S w v zss) (hs : ∀ b, S b → T b) : WrSS k T w v zss := by
  obtain ⟨a, cap, e, hc, h3⟩ := h
  refine ⟨a, cap, e, hc, h3.imp id ?_⟩
  rintro ⟨hb, off, bf, e, hsb, hr, hap⟩
  refine ⟨hb, off, bf, e, hs _ hsb, fun j hj => ?_, hap⟩
  obtain ⟨r, h1, h2, h3⟩ := hr j hj
  exact ⟨r, h1, h2, fun hz => ⟨hs _ (h3 hz).1, (h3 hz).2⟩⟩
/-- The helper's copy lies in blocks of its own. -/
theorem WrRows.ss {k : IntKind} {w : World} {B : Nat} {v : Value} {zss : List (List Int)} (h : WrRows k w B v zss) : WrSS k (In B w.heap.size) w v zss := by
  obtain ⟨blk, cap, bf, rfl, ⟨h1, h2⟩, hB, hlt, hm, h3⟩ := h
  refine ⟨_, cap, rfl, ⟨h1, h2, fun h => by cases h⟩, ?_⟩
  by_cases h0 : zss = []
  · exact .inl h0
  · refine .inr ⟨blk, 0, bf, rfl, ⟨hB, hlt⟩, fun j hj => ?_, fun i j hi hj hij _ _ => ?_⟩
    · obtain ⟨q1, q2, -, r, hc, hr⟩ := h3 j hj
      exact ⟨r, by rw [Nat.zero_add]; exact hc, hr, fun _ => ⟨⟨by omega, q2⟩, by omega⟩⟩
    · rcases Nat.lt_or_gt_of_ne hij with h | h
      · have := hm i j h hj; omega
      · have := hm j i h hi; omega
/-- The marks k, k + 1, .. row by row. -/
def marksII (k : Int) : List (List Int) → List (List Int)
  | [] => []
  | zs :: zss => marksI k zs.length :: marksII (k + zs.length) zss
theorem marksII_length (zss : List (List Int)) : ∀ k, (marksII k zss).length = zss.length := by
  induction zss with
  | nil => intro k; rfl
  | cons zs zss ih => intro k; simp [marksII, ih]
theorem marksII_at (zss : List (List Int)) : ∀ (k : Int) (j : Nat) (h : j < zss.length), (marksII k zss)[j]'(by rw [marksII_length]; exact h) = marksI (k + sumLen (zss.take j)) zss[j].length := by
  induction zss with
  | nil => intro k j h; simp at h
  | cons zs zss ih =>
    intro k j h
    cases j with
    | zero => simp [marksII, sumLen]
    | succ j =>
      have h' : j < zss.length := by simpa using h
      have := ih (k + zs.length) j h'
      simp only [marksII, List.getElem_cons_succ, List.take_succ_cons]
      rw [this]
      congr 1
      simp [sumLen]; omega
end Go.Proofs.YtmhbonbjnpcpeaaGreatDoor
namespace Go.Proofs.YtmhbonbjnpcpeaaGreatDoor
open Go.RowKit
theorem WrAt.touchS {k : IntKind} {S : Nat → Prop} {w w' : World} {v : Value} {zs : List Int} {b : Nat} (h : WrAt k w v zs b) (t : Touch S w w') (hn : zs ≠ [] → ¬ S b) : WrAt k w' v zs b :=
  h.keep fun hz => t.block b (h.rd.lt hz) (hn hz)
end Go.Proofs.YtmhbonbjnpcpeaaGreatDoor
namespace Go.Proofs.YtmhbonbjnpcpeaaGreatDoor
open Go.RowKit
theorem below_setRow {B g : Nat} {w0 w : World} (hb : Below B w0 w) (hBg : B ≤ g) (cs : Array Value) : Below B w0 (w.setRow g cs) :=
  ⟨hb.os, hb.tape, hb.output, by rw [setRow_size]; exact hb.size, fun k hk => (setRow_other w g k cs (by omega)).trans (hb.block k hk)⟩
end Go.Proofs.YtmhbonbjnpcpeaaGreatDoor
namespace Go.Proofs.YtmhbonbjnpcpeaaGreatDoor
open Go.RowKit

structure MRules where
  players : Int
  each : Int
  sameSuit : Bool
  sameRank : Bool
  wild : List Int
  skip : List Int
  take : Int
  limit : Int

/-- The value v is such a struct, with the numbers D. -/
def RdRules (w : World) (v : Value) (D : MRules) : Prop :=
  ∃ (v4 v5 : Value) (b4 b5 : Nat), v = .agg #[.int .i64 D.players, .int .i64 D.each, .bool D.sameSuit, .bool D.sameRank, v4, v5, .int .i64 D.take, .int .i64 D.limit] ∧ RdAt .i64 w v4 D.wild b4 ∧ RdAt .i64 w v5 D.skip b5 ∧ (Lit.int .i64 D.players).wf = true ∧ (Lit.int .i64 D.each).wf = true ∧ (Lit.int .i64 D.take).wf = true ∧ (Lit.int .i64 D.limit).wf = true
theorem RdRules.below {w w' : World} {v : Value} {D : MRules} (h : RdRules w v D) (hb : Below w.heap.size w w') : RdRules w' v D := by
  obtain ⟨v4, v5, b4, b5, e, h4, h5, wf0, wf1, wf6, wf7⟩ := h
  exact ⟨v4, v5, b4, b5, e, h4.below hb, h5.below hb, wf0, wf1, wf6, wf7⟩
def MRules.Few (D : MRules) : Prop := D.wild.length ≤ 1048576 ∧ D.skip.length ≤ 1048576
theorem RdRules.shape {w : World} {v : Value} {D : MRules} (h : RdRules w v D) : ∃ (p4 p5 : Option Addr) (c4 c5 : Nat), v = .agg #[.int .i64 D.players, .int .i64 D.each, .bool D.sameSuit, .bool D.sameRank, .slice p4 D.wild.length c4, .slice p5 D.skip.length c5, .int .i64 D.take, .int .i64 D.limit] := by
  obtain ⟨v4, v5, b4, b5, rfl, h4, h5, wf0, wf1, wf6, wf7⟩ := h
  obtain ⟨p4, c4, e4, -⟩ := id h4
  subst e4
  obtain ⟨p5, c5, e5, -⟩ := id h5
  subst e5
  exact ⟨_, _, _, _, rfl⟩
theorem SRules_cells {w : World} {b : Nat} {a0 a1 a2 a3 a4 a5 a6 a7 : Value} {t : TypeId} {fr : Nat × Nat} (h : w.heap[b]? = some (.cells #[a0, a1, a2, a3, a4, a5, a6, a7] t fr)) : w.cell? ⟨b, 0, none⟩ = some a0 ∧ w.cell? ⟨b, 1, none⟩ = some a1 ∧ w.cell? ⟨b, 2, none⟩ = some a2 ∧ w.cell? ⟨b, 3, none⟩ = some a3 ∧ w.cell? ⟨b, 4, none⟩ = some a4 ∧ w.cell? ⟨b, 5, none⟩ = some a5 ∧ w.cell? ⟨b, 6, none⟩ = some a6 ∧ w.cell? ⟨b, 7, none⟩ = some a7 := by
  simp [World.cell?, h]

set_option linter.unusedVariables false in
set_option maxRecDepth 100000 in
theorem szRules_any (v : Value) (D : MRules) (left : Int) (w : World) (h : RdRules w v D) (hl0 : 0 ≤ left) (hl1 : left ≤ 1048576) :
    Calls Tryz.prog 9 #[v, .int .i64 left] w fun e w' => (∃ r : Int, e = .returned (.int .i64 r) ∧ -1 ≤ r ∧ r ≤ 1048576 ∧ (0 ≤ r → D.Few)) ∧ Below w.heap.size w w' := by
  obtain ⟨v4, v5, b4, b5, rfl, h4, h5, wf0, wf1, wf6, wf7⟩ := h
  obtain ⟨p4, c4, e4, hc4, -⟩ := id h4
  obtain ⟨p5, c5, e5, hc5, -⟩ := id h5
  have hm4 : D.wild.length ≤ 9223372036854775807 := by have h1 := hc4.1; have h2 := hc4.2.1; unfold maxLen at h2; omega
  have hm5 : D.skip.length ≤ 9223372036854775807 := by have h1 := hc5.1; have h2 := hc5.2.1; unfold maxLen at h2; omega
  clear hc4
  clear hc5
  have B0 := fun o => (Below.refl w.heap.size w).alloc (Nat.le_refl _) o
  go_enter Tryz.func9, Tryz.ntmps9
  subst e4
  subst e5
  have HC4 := Lib.hid (fun wx => szIntS_any p4 D.wild.length c4 (left) wx (by omega) (by omega) hm4)
  by_cases hx4 : (left) < D.wild.length
  · rw [if_pos hx4] at HC4
    go_wp2_with fail
    refine (HC4.out _).mono ?_
    rintro e _w ⟨rfl, rfl⟩
    go_wp2_with fail
    go_ret
    exact ⟨⟨-1, rfl, by omega, by omega, fun h => by omega⟩, B0 _⟩
  rw [if_neg hx4] at HC4
  obtain ⟨r4, hr4⟩ : ∃ r, r = (left) - (D.wild.length : Int) := ⟨_, rfl⟩
  rw [← hr4] at HC4
  have g4 : D.wild.length ≤ 1048576 := by omega
  have ra4 : 0 ≤ r4 := by omega
  have rb4 : r4 ≤ 1048576 := by omega
  clear hr4 hx4
  go_wp2_with fail
  refine (HC4.out _).mono ?_
  rintro e _w ⟨rfl, rfl⟩
  clear HC4
  have HC5 := Lib.hid (fun wx => szIntS_any p5 D.skip.length c5 (r4) wx (by omega) (by omega) hm5)
  by_cases hx5 : (r4) < D.skip.length
  · rw [if_pos hx5] at HC5
    go_wp2_with fail
    refine (HC5.out _).mono ?_
    rintro e _w ⟨rfl, rfl⟩
    go_wp2_with fail
    go_ret
    exact ⟨⟨-1, rfl, by omega, by omega, fun h => by omega⟩, B0 _⟩
  rw [if_neg hx5] at HC5
  obtain ⟨r5, hr5⟩ : ∃ r, r = (r4) - (D.skip.length : Int) := ⟨_, rfl⟩
  rw [← hr5] at HC5
  have g5 : D.skip.length ≤ 1048576 := by omega
  have ra5 : 0 ≤ r5 := by omega
  have rb5 : r5 ≤ 1048576 := by omega
  clear hr5 hx5
  go_wp2_with fail
  refine (HC5.out _).mono ?_
  rintro e _w ⟨rfl, rfl⟩
  clear HC5
  go_wp2_with fail
  go_ret
  exact ⟨⟨r5, rfl, by omega, by omega, fun _ => ⟨g4, g5⟩⟩, B0 _⟩

theorem SRules_three (w : World) (o1 o2 o3 : Obj) : (((w.alloc o1).alloc o2).alloc o3).heap[w.heap.size]? = some o1 ∧ (((w.alloc o1).alloc o2).alloc o3).heap[w.heap.size + 1]? = some o2 ∧ (((w.alloc o1).alloc o2).alloc o3).heap[w.heap.size + 2]? = some o3 := by
  refine ⟨?_, ?_, ?_⟩ <;> show (((w.heap.push o1).push o2).push o3)[_]? = _
  · rw [Array.getElem?_push, if_neg (by simp; omega), Array.getElem?_push, if_neg (by simp)]; simp
  · rw [Array.getElem?_push, if_neg (by simp), Array.getElem?_push, if_pos (by simp)]
  · rw [Array.getElem?_push, if_pos (by simp)]
theorem SRules_cell {w : World} {b : Nat} {c : Array Value} {t : TypeId} {fr : Nat × Nat} (h : w.heap[b]? = some (.cells c t fr)) (i : Nat) : w.cell? ⟨b, i, none⟩ = c[i]? := by
  simp [World.cell?, h]
theorem SRules_free {w : World} {b : Nat} {c : Array Value} {t : TypeId} (h : w.heap[b]? = some (.cells c t (0, 0))) (i : Nat) : w.frozen? ⟨b, i, none⟩ = false := by
  simp [World.frozen?, h]
theorem SRules_set {w : World} {b : Nat} {c : Array Value} {t : TypeId} {fr : Nat × Nat} (h : w.heap[b]? = some (.cells c t fr)) (i : Nat) (v : Value) : (w.setCell ⟨b, i, none⟩ v).heap[b]? = some (.cells (c.setIfInBounds i v) t fr) := by
  simp [World.setCell, Array.getElem?_modify, h]

set_option linter.unusedVariables false in
set_option maxRecDepth 100000 in
set_option maxHeartbeats 1000000 in
theorem toRules_any (v : Value) (D : MRules) (w : World) (h : RdRules w v D) (hf : D.Few) :
    Calls Tryz.prog 16 #[v] w fun e w' => ∃ v', e = .returned v' ∧ RdRules w' v' D ∧ Below w.heap.size w w' := by
  obtain ⟨v4, v5, b4, b5, rfl, h4, h5, wf0, wf1, wf6, wf7⟩ := h
  obtain ⟨f4, f5⟩ := hf
  have T := Lib.hid (SRules_three w (.cells #[.int .i64 D.players, .int .i64 D.each, .bool D.sameSuit, .bool D.sameRank, v4, v5, .int .i64 D.take, .int .i64 D.limit] 24) (.cells #[.int .i64 0, .int .i64 0, .bool false, .bool false, .slice none 0 0, .slice none 0 0, .int .i64 0, .int .i64 0] 30) (.cells #[.int .i64 D.players, .int .i64 D.each, .bool D.sameSuit, .bool D.sameRank, .slice none 0 0, .slice none 0 0, .int .i64 0, .int .i64 0] 30))
  have B : Below w.heap.size w (((w.alloc (.cells #[.int .i64 D.players, .int .i64 D.each, .bool D.sameSuit, .bool D.sameRank, v4, v5, .int .i64 D.take, .int .i64 D.limit] 24)).alloc (.cells #[.int .i64 0, .int .i64 0, .bool false, .bool false, .slice none 0 0, .slice none 0 0, .int .i64 0, .int .i64 0] 30)).alloc (.cells #[.int .i64 D.players, .int .i64 D.each, .bool D.sameSuit, .bool D.sameRank, .slice none 0 0, .slice none 0 0, .int .i64 0, .int .i64 0] 30)) := (((Below.refl _ _).alloc (Nat.le_refl _) _).alloc (by simp) _).alloc (by simp; omega) _
  obtain ⟨W0, hW0⟩ : ∃ W0, W0 = (((w.alloc (.cells #[.int .i64 D.players, .int .i64 D.each, .bool D.sameSuit, .bool D.sameRank, v4, v5, .int .i64 D.take, .int .i64 D.limit] 24)).alloc (.cells #[.int .i64 0, .int .i64 0, .bool false, .bool false, .slice none 0 0, .slice none 0 0, .int .i64 0, .int .i64 0] 30)).alloc (.cells #[.int .i64 D.players, .int .i64 D.each, .bool D.sameSuit, .bool D.sameRank, .slice none 0 0, .slice none 0 0, .int .i64 0, .int .i64 0] 30)) := ⟨_, rfl⟩
  obtain ⟨bl, hbl⟩ : ∃ b, b = w.heap.size + 1 + 1 := ⟨_, rfl⟩
  obtain ⟨br, hbr⟩ : ∃ b, b = w.heap.size + 1 := ⟨_, rfl⟩
  have hS0 : bl < W0.heap.size := by rw [hW0, hbl]; simp
  rw [← hW0] at B T
  have HW := Lib.hid hW0
  clear hW0
  obtain ⟨G1, G2, G3⟩ := T.out
  clear T
  have e3 : w.heap.size + 2 = bl := by omega
  rw [← hbr] at G2
  rw [e3] at G3
  have hd1 : w.heap.size < br := by omega
  have hd2 : br < bl := by omega
  have Hbl := Lib.hid hbl
  have Hbr := Lib.hid hbr
  clear hbl hbr e3
  go_enter Tryz.func16, Tryz.ntmps16
  go_wp2_with fail
  rw [← HW.out, ← Hbl.out, ← Hbr.out]
  refine (toIntS_any _ _ _ W0 (h4.below B) (by omega)).mono ?_
  rintro e w4 ⟨u4, rfl, x4, bb4, -⟩
  replace x4 := x4.rd
  obtain ⟨pu4, cu4, eu4, -⟩ := id x4
  subst eu4
  have l4 : bl < W0.heap.size := hS0
  replace B := B.trans (bb4.mono B.size)
  replace G1 := (bb4.block _ (by omega)).trans G1
  replace G2 := (bb4.block _ (by omega)).trans G2
  replace G3 := (bb4.block _ (by omega)).trans G3
  replace hS0 := Nat.lt_of_lt_of_le hS0 bb4.size
  clear bb4
  have c1_0 := SRules_cell G1 0
  have c3_0 := SRules_cell G3 0
  have z3_0 := SRules_free G3 0
  have c1_1 := SRules_cell G1 1
  have c3_1 := SRules_cell G3 1
  have z3_1 := SRules_free G3 1
  have c1_2 := SRules_cell G1 2
  have c3_2 := SRules_cell G3 2
  have z3_2 := SRules_free G3 2
  have c1_3 := SRules_cell G1 3
  have c3_3 := SRules_cell G3 3
  have z3_3 := SRules_free G3 3
  have c1_4 := SRules_cell G1 4
  have c3_4 := SRules_cell G3 4
  have z3_4 := SRules_free G3 4
  have c1_5 := SRules_cell G1 5
  have c3_5 := SRules_cell G3 5
  have z3_5 := SRules_free G3 5
  have c1_6 := SRules_cell G1 6
  have c3_6 := SRules_cell G3 6
  have z3_6 := SRules_free G3 6
  have c1_7 := SRules_cell G1 7
  have c3_7 := SRules_cell G3 7
  have z3_7 := SRules_free G3 7
  simp at c1_0 c3_0 c1_1 c3_1 c1_2 c3_2 c1_3 c3_3 c1_4 c3_4 c1_5 c3_5 c1_6 c3_6 c1_7 c3_7
  go_wp2_with fail
  obtain ⟨X5, hX5⟩ : ∃ X, X = (w4.setCell ⟨bl, 4, none⟩ (.slice pu4 D.wild.length cu4)) := ⟨_, rfl⟩
  have N3 := (SRules_set G3 4 (.slice pu4 D.wild.length cu4))
  rw [← hX5] at N3
  have K5 : ∀ i, i ≠ bl → X5.heap[i]? = w4.heap[i]? := fun i hi => by rw [hX5]; rw [Below.heap_setCell _ _ _ _ hi]
  have Z5 : X5.heap.size = w4.heap.size := by rw [hX5]; simp [World.setCell]
  have NB : Below w.heap.size w X5 := by rw [hX5]; exact (B.setCell (show w.heap.size ≤ bl by omega) (.slice pu4 D.wild.length cu4))
  replace G1 := (K5 _ (by omega)).trans G1
  replace G2 := (K5 _ (by omega)).trans G2
  replace hS0 : bl < X5.heap.size := by rw [Z5]; exact hS0
  replace x4 := x4.keep (fun _ => K5 _ (by omega))
  rw [← hX5]
  clear hX5 B G3 K5 Z5 c3_0 z3_0 c3_1 z3_1 c3_2 z3_2 c3_3 z3_3 c3_4 z3_4 c3_5 z3_5 c3_6 z3_6 c3_7 z3_7 c1_0 c1_1 c1_2 c1_3 c1_4 c1_5 c1_6 c1_7
  have G3 := N3
  have B := NB
  clear N3 NB
  simp only [List.setIfInBounds_toArray, List.set_cons_zero, List.set_cons_succ] at G3
  refine (toIntS_any _ _ _ X5 (h5.below B) (by omega)).mono ?_
  rintro e w5 ⟨u5, rfl, x5, bb5, -⟩
  replace x5 := x5.rd
  obtain ⟨pu5, cu5, eu5, -⟩ := id x5
  subst eu5
  have l5 : bl < X5.heap.size := hS0
  replace B := B.trans (bb5.mono B.size)
  replace G1 := (bb5.block _ (by omega)).trans G1
  replace G2 := (bb5.block _ (by omega)).trans G2
  replace G3 := (bb5.block _ (by omega)).trans G3
  replace hS0 := Nat.lt_of_lt_of_le hS0 bb5.size
  replace x4 := x4.below bb5
  clear bb5
  have c1_0 := SRules_cell G1 0
  have c3_0 := SRules_cell G3 0
  have z3_0 := SRules_free G3 0
  have c1_1 := SRules_cell G1 1
  have c3_1 := SRules_cell G3 1
  have z3_1 := SRules_free G3 1
  have c1_2 := SRules_cell G1 2
  have c3_2 := SRules_cell G3 2
  have z3_2 := SRules_free G3 2
  have c1_3 := SRules_cell G1 3
  have c3_3 := SRules_cell G3 3
  have z3_3 := SRules_free G3 3
  have c1_4 := SRules_cell G1 4
  have c3_4 := SRules_cell G3 4
  have z3_4 := SRules_free G3 4
  have c1_5 := SRules_cell G1 5
  have c3_5 := SRules_cell G3 5
  have z3_5 := SRules_free G3 5
  have c1_6 := SRules_cell G1 6
  have c3_6 := SRules_cell G3 6
  have z3_6 := SRules_free G3 6
  have c1_7 := SRules_cell G1 7
  have c3_7 := SRules_cell G3 7
  have z3_7 := SRules_free G3 7
  have c2_0 := SRules_cell G2 0
  have z2_0 := SRules_free G2 0
  have c2_1 := SRules_cell G2 1
  have z2_1 := SRules_free G2 1
  have c2_2 := SRules_cell G2 2
  have z2_2 := SRules_free G2 2
  have c2_3 := SRules_cell G2 3
  have z2_3 := SRules_free G2 3
  have c2_4 := SRules_cell G2 4
  have z2_4 := SRules_free G2 4
  have c2_5 := SRules_cell G2 5
  have z2_5 := SRules_free G2 5
  have c2_6 := SRules_cell G2 6
  have z2_6 := SRules_free G2 6
  have c2_7 := SRules_cell G2 7
  have z2_7 := SRules_free G2 7
  simp at c1_0 c3_0 c2_0 c1_1 c3_1 c2_1 c1_2 c3_2 c2_2 c1_3 c3_3 c2_3 c1_4 c3_4 c2_4 c1_5 c3_5 c2_5 c1_6 c3_6 c2_6 c1_7 c3_7 c2_7
  go_wp2_with fail
  obtain ⟨X, hX⟩ : ∃ X, X = (((((((((((w5.setCell ⟨bl, 5, none⟩ (.slice pu5 D.skip.length cu5)).setCell ⟨bl, 6, none⟩ (.int .i64 D.take)).setCell ⟨bl, 7, none⟩ (.int .i64 D.limit)).setCell ⟨br, 0, none⟩ (.int .i64 D.players)).setCell ⟨br, 1, none⟩ (.int .i64 D.each)).setCell ⟨br, 2, none⟩ (.bool D.sameSuit)).setCell ⟨br, 3, none⟩ (.bool D.sameRank)).setCell ⟨br, 4, none⟩ (.slice pu4 D.wild.length cu4)).setCell ⟨br, 5, none⟩ (.slice pu5 D.skip.length cu5)).setCell ⟨br, 6, none⟩ (.int .i64 D.take)).setCell ⟨br, 7, none⟩ (.int .i64 D.limit)) := ⟨_, rfl⟩
  have G2a : (((w5.setCell ⟨bl, 5, none⟩ (.slice pu5 D.skip.length cu5)).setCell ⟨bl, 6, none⟩ (.int .i64 D.take)).setCell ⟨bl, 7, none⟩ (.int .i64 D.limit)).heap[br]? = some (.cells #[.int .i64 0, .int .i64 0, .bool false, .bool false, .slice none 0 0, .slice none 0 0, .int .i64 0, .int .i64 0] 30 (0, 0)) := (by rw [Below.heap_setCell _ _ _ _ (show br ≠ bl by omega), Below.heap_setCell _ _ _ _ (show br ≠ bl by omega), Below.heap_setCell _ _ _ _ (show br ≠ bl by omega)]; exact G2)
  have N2 := (SRules_set (SRules_set (SRules_set (SRules_set (SRules_set (SRules_set (SRules_set (SRules_set G2a 0 (.int .i64 D.players)) 1 (.int .i64 D.each)) 2 (.bool D.sameSuit)) 3 (.bool D.sameRank)) 4 (.slice pu4 D.wild.length cu4)) 5 (.slice pu5 D.skip.length cu5)) 6 (.int .i64 D.take)) 7 (.int .i64 D.limit))
  rw [← hX] at N2
  have K : ∀ i, i ≠ bl → i ≠ br → X.heap[i]? = w5.heap[i]? := fun i hi hr => by rw [hX]; rw [Below.heap_setCell _ _ _ _ hr, Below.heap_setCell _ _ _ _ hr, Below.heap_setCell _ _ _ _ hr, Below.heap_setCell _ _ _ _ hr, Below.heap_setCell _ _ _ _ hr, Below.heap_setCell _ _ _ _ hr, Below.heap_setCell _ _ _ _ hr, Below.heap_setCell _ _ _ _ hr, Below.heap_setCell _ _ _ _ hi, Below.heap_setCell _ _ _ _ hi, Below.heap_setCell _ _ _ _ hi]
  have Z : X.heap.size = w5.heap.size := by rw [hX]; simp [World.setCell]
  have NB : Below w.heap.size w X := by rw [hX]; exact (((((((((((B.setCell (show w.heap.size ≤ bl by omega) (.slice pu5 D.skip.length cu5)).setCell (show w.heap.size ≤ bl by omega) (.int .i64 D.take)).setCell (show w.heap.size ≤ bl by omega) (.int .i64 D.limit)).setCell (show w.heap.size ≤ br by omega) (.int .i64 D.players)).setCell (show w.heap.size ≤ br by omega) (.int .i64 D.each)).setCell (show w.heap.size ≤ br by omega) (.bool D.sameSuit)).setCell (show w.heap.size ≤ br by omega) (.bool D.sameRank)).setCell (show w.heap.size ≤ br by omega) (.slice pu4 D.wild.length cu4)).setCell (show w.heap.size ≤ br by omega) (.slice pu5 D.skip.length cu5)).setCell (show w.heap.size ≤ br by omega) (.int .i64 D.take)).setCell (show w.heap.size ≤ br by omega) (.int .i64 D.limit))
  rw [← hX]
  simp only [List.setIfInBounds_toArray, List.set_cons_zero, List.set_cons_succ] at N2
  replace x4 := x4.keep (fun _ => K _ (by omega) (by omega))
  replace x5 := x5.keep (fun _ => K _ (by omega) (by omega))
  (try simp only [Exit.inBlock, Exit.then]); refine bodyPost_ret (results_cell_row rfl _ _ br _ _ _ _ rfl N2 Tryz.underlying30 rfl (by kernel_rfl)) rfl ?_
  exact ⟨_, rfl, ⟨_, _, _, _, rfl, x4, x5, wf0, wf1, wf6, wf7⟩, NB⟩

set_option linter.unusedVariables false in
set_option maxRecDepth 100000 in
set_option maxHeartbeats 1000000 in
theorem eqRules_t (va vb : Value) (D : MRules) (w : World) (ha : RdRules w va D) (hb : RdRules w vb D) (hf : D.Few) :
    Calls Tryz.prog 22 #[va, vb] w fun e w' => e = .returned (.bool true) ∧ Below w.heap.size w w' := by
  obtain ⟨v4, v5, b4, b5, rfl, h4, h5, wf0, wf1, wf6, wf7⟩ := ha
  obtain ⟨y4, y5, d4, d5, rfl, k4, k5, -, -, -, -⟩ := hb
  obtain ⟨f4, f5⟩ := hf
  have B : Below w.heap.size w ((w.alloc (.cells #[.int .i64 D.players, .int .i64 D.each, .bool D.sameSuit, .bool D.sameRank, v4, v5, .int .i64 D.take, .int .i64 D.limit] 30)).alloc (.cells #[.int .i64 D.players, .int .i64 D.each, .bool D.sameSuit, .bool D.sameRank, y4, y5, .int .i64 D.take, .int .i64 D.limit] 30)) := ((Below.refl _ _).alloc (Nat.le_refl _) _).alloc (by simp) _
  obtain ⟨W0, hW0⟩ : ∃ W0, W0 = ((w.alloc (.cells #[.int .i64 D.players, .int .i64 D.each, .bool D.sameSuit, .bool D.sameRank, v4, v5, .int .i64 D.take, .int .i64 D.limit] 30)).alloc (.cells #[.int .i64 D.players, .int .i64 D.each, .bool D.sameSuit, .bool D.sameRank, y4, y5, .int .i64 D.take, .int .i64 D.limit] 30)) := ⟨_, rfl⟩
  have G := SRules_three w (.cells #[.int .i64 D.players, .int .i64 D.each, .bool D.sameSuit, .bool D.sameRank, v4, v5, .int .i64 D.take, .int .i64 D.limit] 30) (.cells #[.int .i64 D.players, .int .i64 D.each, .bool D.sameSuit, .bool D.sameRank, y4, y5, .int .i64 D.take, .int .i64 D.limit] 30) (.cells #[.int .i64 D.players, .int .i64 D.each, .bool D.sameSuit, .bool D.sameRank, y4, y5, .int .i64 D.take, .int .i64 D.limit] 30)
  have G1 : W0.heap[w.heap.size]? = some (.cells #[.int .i64 D.players, .int .i64 D.each, .bool D.sameSuit, .bool D.sameRank, v4, v5, .int .i64 D.take, .int .i64 D.limit] 30 (0, 0)) := by
    rw [hW0]; show ((w.heap.push _).push _)[_]? = _
    rw [Array.getElem?_push, if_neg (by simp), Array.getElem?_push, if_pos rfl]
  have G2 : W0.heap[w.heap.size + 1]? = some (.cells #[.int .i64 D.players, .int .i64 D.each, .bool D.sameSuit, .bool D.sameRank, y4, y5, .int .i64 D.take, .int .i64 D.limit] 30 (0, 0)) := by
    rw [hW0]; show ((w.heap.push _).push _)[_]? = _
    rw [Array.getElem?_push, if_pos (by simp)]
  have hS0 : w.heap.size + 2 ≤ W0.heap.size := by rw [hW0]; simp
  rw [← hW0] at B
  have HW := Lib.hid hW0
  clear hW0 G
  go_enter Tryz.func22, Tryz.ntmps22
  go_wp2_with fail
  rw [← HW.out]
  refine (eqIntS_t _ _ _ _ _ W0 (h4.below B) (k4.below B) (by omega)).mono ?_
  rintro e w4 ⟨rfl, bb4⟩
  replace B := B.trans (bb4.mono B.size)
  replace G1 := (bb4.block _ (by omega)).trans G1
  replace G2 := (bb4.block _ (by omega)).trans G2
  replace hS0 := Nat.le_trans hS0 bb4.size
  clear bb4
  have c1_0 := SRules_cell G1 0
  have c2_0 := SRules_cell G2 0
  have c1_1 := SRules_cell G1 1
  have c2_1 := SRules_cell G2 1
  have c1_2 := SRules_cell G1 2
  have c2_2 := SRules_cell G2 2
  have c1_3 := SRules_cell G1 3
  have c2_3 := SRules_cell G2 3
  have c1_4 := SRules_cell G1 4
  have c2_4 := SRules_cell G2 4
  have c1_5 := SRules_cell G1 5
  have c2_5 := SRules_cell G2 5
  have c1_6 := SRules_cell G1 6
  have c2_6 := SRules_cell G2 6
  have c1_7 := SRules_cell G1 7
  have c2_7 := SRules_cell G2 7
  simp at c1_0 c2_0 c1_1 c2_1 c1_2 c2_2 c1_3 c2_3 c1_4 c2_4 c1_5 c2_5 c1_6 c2_6 c1_7 c2_7
  go_wp2_with fail
  refine (eqIntS_t _ _ _ _ _ w4 (h5.below B) (k5.below B) (by omega)).mono ?_
  rintro e w5 ⟨rfl, bb5⟩
  replace B := B.trans (bb5.mono B.size)
  replace G1 := (bb5.block _ (by omega)).trans G1
  replace G2 := (bb5.block _ (by omega)).trans G2
  replace hS0 := Nat.le_trans hS0 bb5.size
  clear c1_0 c2_0 c1_1 c2_1 c1_2 c2_2 c1_3 c2_3 c1_4 c2_4 c1_5 c2_5 c1_6 c2_6 c1_7 c2_7
  clear bb5
  have c1_0 := SRules_cell G1 0
  have c2_0 := SRules_cell G2 0
  have c1_1 := SRules_cell G1 1
  have c2_1 := SRules_cell G2 1
  have c1_2 := SRules_cell G1 2
  have c2_2 := SRules_cell G2 2
  have c1_3 := SRules_cell G1 3
  have c2_3 := SRules_cell G2 3
  have c1_4 := SRules_cell G1 4
  have c2_4 := SRules_cell G2 4
  have c1_5 := SRules_cell G1 5
  have c2_5 := SRules_cell G2 5
  have c1_6 := SRules_cell G1 6
  have c2_6 := SRules_cell G2 6
  have c1_7 := SRules_cell G1 7
  have c2_7 := SRules_cell G2 7
  simp at c1_0 c2_0 c1_1 c2_1 c1_2 c2_2 c1_3 c2_3 c1_4 c2_4 c1_5 c2_5 c1_6 c2_6 c1_7 c2_7
  go_wp2_with fail
  go_ret
  exact ⟨rfl, B⟩

end Go.Proofs.YtmhbonbjnpcpeaaGreatDoor
