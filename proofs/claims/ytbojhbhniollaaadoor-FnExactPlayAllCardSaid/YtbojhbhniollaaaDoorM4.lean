/-
  Several texts in one: Slices of integers in memory: what can be read, what may be written, and the lists of marks. No program in this text. The helpers of the laws over slices (int): copied, compared, marked, found marked. The laws' size of a list. Slices of slices of integers: what can be read, what may be written; the laws' helpers over them. What lies in which blocks: facts that survive where other blocks are written; slices of integers and slices of slices, marked and found marked. A whole row stored: what stays below.
-/
import Derived.WalkKit
import Derived.WalkLawsBesides
import Derived.WalkSpells
import Derived.OpenShut
import Derived.WalkSmall
import Derived.Lib.Hide
import Derived.Laws.AppendOwnNone
import Derived.Test.YtbojhbhniollaaaDoorRows
import Derived.LoopTactic
import Derived.Deep.QuietTactic
import Derived.BigQuiet
import Derived.Deep.Matrix
import Derived.Laws.Rows
namespace Go.Proofs.YtbojhbhniollaaaDoor
open Go.RowKit

/-- The value v is a slice of the numbers zs of kind k, all of them readable, in block b (whatever b is, where there are none). -/
def RdAt (k : IntKind) (w : World) (v : Value) (zs : List Int) (b : Nat) : Prop :=
  ∃ (a : Option Addr) (cap : Nat), v = .slice a zs.length cap ∧ (zs.length ≤ cap ∧ cap ≤ maxLen ∧ (a = none → cap = 0)) ∧ (∀ n ∈ zs, (Lit.int k n).wf = true) ∧
    (zs = [] ∨ ∃ off, a = some ⟨b, off, none⟩ ∧ ∀ j (hj : j < zs.length), w.cell? ⟨b, off + j, none⟩ = some (.int k zs[j]))
/-- .. and may be written. -/
def WrAt (k : IntKind) (w : World) (v : Value) (zs : List Int) (b : Nat) : Prop :=
  ∃ (a : Option Addr) (cap : Nat), v = .slice a zs.length cap ∧ (zs.length ≤ cap ∧ cap ≤ maxLen ∧ (a = none → cap = 0)) ∧ (∀ n ∈ zs, (Lit.int k n).wf = true) ∧
    (zs = [] ∨ ∃ off, a = some ⟨b, off, none⟩ ∧ (∀ j (hj : j < zs.length), w.cell? ⟨b, off + j, none⟩ = some (.int k zs[j])) ∧ ∀ j, j < zs.length → w.frozen? ⟨b, off + j, none⟩ = false)

theorem WrAt.rd {k : IntKind} {w : World} {v : Value} {zs : List Int} {b : Nat} (h : WrAt k w v zs b) : RdAt k w v zs b := by
  obtain ⟨a, cap, h1, hcap, h2, h3⟩ := h
  refine ⟨a, cap, h1, hcap, h2, ?_⟩
  rcases h3 with h3 | ⟨off, h4, h5, _⟩
  · exact .inl h3
  · exact .inr ⟨off, h4, h5⟩
theorem RdAt.wf {k : IntKind} {w : World} {v : Value} {zs : List Int} {b : Nat} (h : RdAt k w v zs b) : ∀ n ∈ zs, (Lit.int k n).wf = true := by
  obtain ⟨a, cap, h1, hcap, h2, h3⟩ := h; exact h2
theorem RdAt.lt {k : IntKind} {w : World} {v : Value} {zs : List Int} {b : Nat} (h : RdAt k w v zs b) (hz : zs ≠ []) : b < w.heap.size := by
  obtain ⟨a, cap, h1, hcap, h2, h3⟩ := h
  rcases h3 with h3 | ⟨off, h4, h5⟩
  · exact absurd h3 hz
  · have : 0 < zs.length := List.length_pos_iff.2 hz
    exact World.block_lt_of_cell? _ _ (h5 0 this)
/-- What is read stays as it is where its block does. -/
theorem RdAt.keep {k : IntKind} {w w' : World} {v : Value} {zs : List Int} {b : Nat} (h : RdAt k w v zs b) (hb : zs ≠ [] → w'.heap[b]? = w.heap[b]?) : RdAt k w' v zs b := by
  obtain ⟨a, cap, h1, hcap, h2, h3⟩ := h
  refine ⟨a, cap, h1, hcap, h2, ?_⟩
  rcases h3 with h3 | ⟨off, h4, h5⟩
  · exact .inl h3
  · refine .inr ⟨off, h4, fun j hj => ?_⟩
    have hz : zs ≠ [] := by intro e; rw [e] at hj; simp at hj
    rw [World.cell?_of_block (w := w) (a := ⟨b, off + j, none⟩) (hb hz)]; exact h5 j hj
theorem WrAt.keep {k : IntKind} {w w' : World} {v : Value} {zs : List Int} {b : Nat} (h : WrAt k w v zs b) (hb : zs ≠ [] → w'.heap[b]? = w.heap[b]?) : WrAt k w' v zs b := by
  obtain ⟨a, cap, h1, hcap, h2, h3⟩ := h
  refine ⟨a, cap, h1, hcap, h2, ?_⟩
  rcases h3 with h3 | ⟨off, h4, h5, h6⟩
  · exact .inl h3
  · refine .inr ⟨off, h4, fun j hj => ?_, fun j hj => ?_⟩
    · have hz : zs ≠ [] := by intro e; rw [e] at hj; simp at hj
      rw [World.cell?_of_block (w := w) (a := ⟨b, off + j, none⟩) (hb hz)]; exact h5 j hj
    · have hz : zs ≠ [] := by intro e; rw [e] at hj; simp at hj
      rw [World.frozen?_of_block (w := w) (a := ⟨b, off + j, none⟩) (hb hz)]; exact h6 j hj
theorem RdAt.below {k : IntKind} {w w' : World} {v : Value} {zs : List Int} {b : Nat} (h : RdAt k w v zs b) (hb : Below w.heap.size w w') : RdAt k w' v zs b :=
  h.keep fun hz => hb.block b (h.lt hz)
theorem WrAt.below {k : IntKind} {w w' : World} {v : Value} {zs : List Int} {b : Nat} (h : WrAt k w v zs b) (hb : Below w.heap.size w w') : WrAt k w' v zs b :=
  h.keep fun hz => hb.block b (h.rd.lt hz)
theorem RdAt.grown {k : IntKind} {w w' : World} {v : Value} {zs : List Int} {b c : Nat} (h : RdAt k w v zs b) (hg : w.grownBy w' (some c)) (hne : b ≠ c) : RdAt k w' v zs b :=
  h.keep fun hz => hg.block b (h.lt hz) (fun e => hne (Option.some.inj e))
theorem WrAt.grown {k : IntKind} {w w' : World} {v : Value} {zs : List Int} {b c : Nat} (h : WrAt k w v zs b) (hg : w.grownBy w' (some c)) (hne : b ≠ c) : WrAt k w' v zs b :=
  h.keep fun hz => hg.block b (h.rd.lt hz) (fun e => hne (Option.some.inj e))

/-- The marks k, k + 1, .. n of them: as bytes, as ints. -/
def marksB (k : Int) (n : Nat) : List Int := (List.range n).map fun (i : Nat) => (k + (i : Int)) % 256
def marksI (k : Int) (n : Nat) : List Int := (List.range n).map fun (i : Nat) => k + (i : Int)
theorem marksB_length (k : Int) (n : Nat) : (marksB k n).length = n := by simp [marksB]
theorem marksI_length (k : Int) (n : Nat) : (marksI k n).length = n := by simp [marksI]
theorem marksB_at (k : Int) (n j : Nat) (h : j < (marksB k n).length) : (marksB k n)[j] = (k + (j : Int)) % 256 := by simp [marksB]
theorem marksI_at (k : Int) (n j : Nat) (h : j < (marksI k n).length) : (marksI k n)[j] = k + (j : Int) := by simp [marksI]

theorem list_eq_of {a b : List Int} (hl : a.length = b.length) (h : ∀ j (ha : j < a.length) (hb : j < b.length), a[j] = b[j]) : a = b := List.ext_getElem hl h
theorem list_ne_of {a b : List Int} {j : Nat} (ha : j < a.length) (hb : j < b.length) (h : a[j] ≠ b[j]) : a ≠ b := fun e => h (by subst e; rfl)

theorem grown_store {w0 w : World} {b : Nat} (h : w0.grownBy w (some b)) (a : Addr) (ha : a.block = b) (v : Value) : w0.grownBy (w.setCell a v) (some b) :=
  ⟨h.os, h.tape, h.output, by simp [World.setCell]; exact h.size, fun k hk hne => by rw [Below.heap_setCell _ _ _ _ (fun e => hne (by rw [e, ha]))]; exact h.block k hk hne⟩

/-- The cells of block b from off on hold the numbers zs. -/
def Cells (k : IntKind) (w : World) (b off : Nat) (zs : List Int) : Prop := ∀ j (hj : j < zs.length), w.cell? ⟨b, off + j, none⟩ = some (.int k zs[j])
def Free (w : World) (b off n : Nat) : Prop := ∀ j, j < n → w.frozen? ⟨b, off + j, none⟩ = false
theorem Cells.store {k : IntKind} {w : World} {b off : Nat} {zs : List Int} (h : Cells k w b off zs) {j : Nat} (hj : j < zs.length) (y : Int) : Cells k (w.setCell ⟨b, off + j, none⟩ (.int k y)) b off (zs.set j y) := by
  intro i hi
  have hi' : i < zs.length := by simpa using hi
  by_cases e : i = j
  · subst e
    rw [World.cell?_setCell_same _ _ _ (h i hi')]
    simp
  · rw [World.cell?_setCell_other _ _ _ _ (by intro e2; simp at e2), h i hi']
    simp [show ¬ j = i by omega]
theorem Free.store {w : World} {b off n : Nat} (h : Free w b off n) (a : Addr) (v : Value) : Free (w.setCell a v) b off n := by
  intro j hj
  rw [World.frozen?_setCell]; exact h j hj
theorem WrAt.of {k : IntKind} {w : World} {b off : Nat} {zs : List Int} (cap : Nat) (hcap : zs.length ≤ cap ∧ cap ≤ maxLen) (hw : ∀ n ∈ zs, (Lit.int k n).wf = true) (h : Cells k w b off zs) (hf : Free w b off zs.length) : WrAt k w (.slice (some ⟨b, off, none⟩) zs.length cap) zs b :=
  ⟨_, _, rfl, ⟨hcap.1, hcap.2, fun h => by cases h⟩, hw, .inr ⟨off, rfl, h, hf⟩⟩
/-- A writable slice, opened: empty, or a row of cells. -/
theorem WrAt.open {k : IntKind} {w : World} {v : Value} {zs : List Int} {b : Nat} (h : WrAt k w v zs b) : (zs = [] ∧ ∃ a cap, v = .slice a 0 cap ∧ cap ≤ maxLen ∧ (a = none → cap = 0)) ∨ (zs ≠ [] ∧ ∃ off cap, v = .slice (some ⟨b, off, none⟩) zs.length cap ∧ (zs.length ≤ cap ∧ cap ≤ maxLen) ∧ Cells k w b off zs ∧ Free w b off zs.length) := by
  obtain ⟨a, cap, h1, hcap, h2, h3⟩ := h
  by_cases hz : zs = []
  · subst hz; exact .inl ⟨rfl, a, cap, h1, hcap.2⟩
  · rcases h3 with h3 | ⟨off, rfl, h5, h6⟩
    · exact absurd h3 hz
    · exact .inr ⟨hz, off, cap, h1, ⟨hcap.1, hcap.2.1⟩, h5, h6⟩
theorem RdAt.open {k : IntKind} {w : World} {v : Value} {zs : List Int} {b : Nat} (h : RdAt k w v zs b) : (zs = [] ∧ ∃ a cap, v = .slice a 0 cap ∧ cap ≤ maxLen ∧ (a = none → cap = 0)) ∨ (zs ≠ [] ∧ ∃ off cap, v = .slice (some ⟨b, off, none⟩) zs.length cap ∧ (zs.length ≤ cap ∧ cap ≤ maxLen) ∧ Cells k w b off zs) := by
  obtain ⟨a, cap, h1, hcap, h2, h3⟩ := h
  by_cases hz : zs = []
  · subst hz; exact .inl ⟨rfl, a, cap, h1, hcap.2⟩
  · rcases h3 with h3 | ⟨off, rfl, h5⟩
    · exact absurd h3 hz
    · exact .inr ⟨hz, off, cap, h1, ⟨hcap.1, hcap.2.1⟩, h5⟩
theorem WrAt.nil (k : IntKind) (w : World) (a : Option Addr) (cap b : Nat) (h : cap ≤ maxLen ∧ (a = none → cap = 0)) : WrAt k w (.slice a 0 cap) [] b := ⟨a, cap, rfl, ⟨Nat.zero_le _, h⟩, by simp, .inl rfl⟩

theorem marksB_wf (k : Int) (n : Nat) : ∀ x ∈ marksB k n, (Lit.int .u8 x).wf = true := by
  intro x hx
  simp only [marksB, List.mem_map] at hx
  obtain ⟨i, _, rfl⟩ := hx
  have h0 : 0 ≤ (k + (i : Int)) % 256 := Int.emod_nonneg _ (by omega)
  have h1 : (k + (i : Int)) % 256 < 256 := Int.emod_lt_of_pos _ (by omega)
  simp [Lit.wf, IntKind.min, IntKind.max, IntKind.signed, IntKind.bits]
  omega
theorem marksI_wf (k : Int) (n : Nat) (h0 : 0 ≤ k) (h1 : k + n ≤ 9223372036854775807) : ∀ x ∈ marksI k n, (Lit.int .i64 x).wf = true := by
  intro x hx
  simp only [marksI, List.mem_map, List.mem_range] at hx
  obtain ⟨i, hi, rfl⟩ := hx
  exact WalkArith.wf_i64 (by omega)
/-- One mark more. -/
theorem marks_step {f : Int → Nat → List Int} {g : Nat → Int} {k : Int} (hf : ∀ n, f k n = (List.range n).map g) {zs : List Int} {j : Nat} (hj : j < zs.length) : (f k j ++ zs.drop j).set j (g j) = f k (j + 1) ++ zs.drop (j + 1) := by
  have hl : (f k j).length = j := by rw [hf]; simp
  rw [List.set_append_right _ _ (by omega), hl, Nat.sub_self, hf (j + 1), List.range_succ, List.map_append, ← hf j, List.append_assoc]
  congr 1
  have e : zs.drop j = zs[j] :: zs.drop (j + 1) := List.drop_eq_getElem_cons hj
  rw [e]
  rfl
theorem marks_len {f : Int → Nat → List Int} {g : Nat → Int} {k : Int} (hf : ∀ n, f k n = (List.range n).map g) {zs : List Int} {j : Nat} (hj : j ≤ zs.length) : (f k j ++ zs.drop j).length = zs.length := by
  rw [hf]; simp; omega

/-- What is read stays as it is where another block is written. -/
theorem RdAt.apart {k : IntKind} {w w' : World} {v : Value} {zs : List Int} {b c : Nat} (h : RdAt k w v zs b) (hg : w.grownBy w' (some c)) (hne : zs ≠ [] → b ≠ c) : RdAt k w' v zs b :=
  h.keep fun hz => hg.block b (h.lt hz) (fun e => hne hz (Option.some.inj e))
theorem WrAt.apart {k : IntKind} {w w' : World} {v : Value} {zs : List Int} {b c : Nat} (h : WrAt k w v zs b) (hg : w.grownBy w' (some c)) (hne : zs ≠ [] → b ≠ c) : WrAt k w' v zs b :=
  h.keep fun hz => hg.block b (h.rd.lt hz) (fun e => hne hz (Option.some.inj e))
/-- What touches one block of the call's own leaves all that was there when it began. -/
theorem below_touch {w0 w w' : World} {c : Nat} (h : Below w0.heap.size w0 w) (hg : w.grownBy w' (some c)) (hc : w0.heap.size ≤ c) : Below w0.heap.size w0 w' :=
  h.trans ⟨hg.os, hg.tape, hg.output, hg.size, fun k hk => hg.block k (Nat.lt_of_lt_of_le hk h.size) (fun e => by have := Option.some.inj e; omega)⟩
/-- What the call owns can be read and written, in a block of the call's own. -/
theorem own_wr {k : IntKind} {w : World} {B : Nat} {E : TypeId} {v : Value} {zs : List Int} (h : w.ownsRow B E 1 v zs.length (zs.map (Value.int k))) (hw : ∀ n ∈ zs, (Lit.int k n).wf = true) : ∃ b, B ≤ b ∧ WrAt k w v zs b := by
  obtain ⟨h1, h2⟩ := h
  rcases h2 with ⟨rfl, h0⟩ | ⟨g, cap, cur, rfl, hg, hh, hnc, hcm, hcs, htake⟩
  · have : zs = [] := List.length_eq_zero_iff.1 h0
    subst this
    exact ⟨B, Nat.le_refl _, none, 0, rfl, ⟨Nat.le_refl _, Nat.zero_le _, fun _ => rfl⟩, by simp, .inl rfl⟩
  · have hown : w.ownsRow B E 1 (.slice (some ⟨g, 0, none⟩) zs.length cap) zs.length (zs.map (Value.int k)) := ⟨h1, .inr ⟨g, cap, cur, rfl, hg, hh, hnc, hcm, hcs, htake⟩⟩
    refine ⟨g, hg, some ⟨g, 0, none⟩, cap, rfl, ⟨hnc, hcm, fun h => by cases h⟩, hw, .inr ⟨0, rfl, fun j hj => ?_, fun j _ => ?_⟩⟩
    · rw [Nat.zero_add, hown.cellAt j (by omega)]; simp [hj]
    · rw [Nat.zero_add]; exact hown.frozenAt j
theorem own_block {w : World} {B : Nat} {E : TypeId} {size n : Nat} {v : Value} {xs : List Value} (h : w.ownsRow B E size v n xs) : ∀ k, v.ownBlock = some k → B ≤ k := by
  intro k hk
  rcases h.2 with ⟨rfl, _⟩ | ⟨g, cap, cur, rfl, hg, _⟩
  · simp [Value.ownBlock] at hk
  · simp [Value.ownBlock] at hk; omega
/-- One number appended to what the call owns. -/
theorem own_snoc {k : IntKind} {w : World} {B : Nat} {E : TypeId} {v : Value} {F : List Int} {y : Int} (h : w.ownsRow B E 1 v (F.length + 1) (F.map (Value.int k) ++ [.int k y])) : w.ownsRow B E 1 v (F ++ [y]).length ((F ++ [y]).map (Value.int k)) := by
  rw [List.length_append, List.map_append]; exact h

/-- A slice of integers that came in: nil, or a row of 'cap' cells, the numbers 'zs', each fitting its kind. -/
def IsRow (k : IntKind) (w : World) (a : Option Addr) (len cap : Nat) (zs : List Int) : Prop :=
  (a = none ∧ len = 0 ∧ cap = 0 ∧ zs = []) ∨
  ∃ x, a = some x ∧ len ≤ cap ∧ cap ≤ maxLen ∧ zs.length = cap ∧ (∀ i, i < zs.length → w.cell? (x.add i) = some (.int k (zs.getD i 0))) ∧ ∀ n ∈ zs, (Lit.int k n).wf = true
theorem IsRow.rd {k : IntKind} {w : World} {a : Option Addr} {len cap : Nat} {zs : List Int} (h : IsRow k w a len cap zs) : ∃ b, RdAt k w (.slice a len cap) (zs.take len) b ∧ b < w.heap.size + 1 := by
  rcases h with ⟨rfl, rfl, rfl, rfl⟩ | ⟨x, rfl, h1, h2, h3, h4, h5⟩
  · exact ⟨0, ⟨none, 0, rfl, ⟨Nat.le_refl _, Nat.zero_le _, fun _ => rfl⟩, by simp, .inl rfl⟩, by omega⟩
  · have hl : (zs.take len).length = len := by rw [List.length_take]; omega
    by_cases h0 : len = 0
    · subst h0
      exact ⟨0, ⟨some x, cap, by simp, ⟨by simp, h2, fun h => by cases h⟩, by simp, .inl (by simp)⟩, by omega⟩
    · obtain ⟨b, off, spot⟩ := x
      have hc := h4 0 (by omega)
      have hspot : spot = none := by simpa [Addr.add] using World.cell?_spot hc
      subst hspot
      have hlt : b < w.heap.size := by
        have := World.block_lt_of_cell? _ _ hc
        simpa [Addr.add] using this
      refine ⟨b, ⟨some ⟨b, off, none⟩, cap, by rw [hl], ⟨by rw [hl]; exact h1, h2, fun h => by cases h⟩, fun n hn => h5 n (List.mem_of_mem_take hn), .inr ⟨off, rfl, fun j hj => ?_⟩⟩, by omega⟩
      have hj1 : j < len := by rw [hl] at hj; exact hj
      have hcj := h4 j (by omega)
      have e : (⟨b, off, none⟩ : Addr).add j = ⟨b, off + j, none⟩ := by simp [Addr.add]
      rw [e] at hcj
      rw [hcj]
      simp [List.getD, show j < zs.length by omega]

/-- The first k of a slice. -/
theorem RdAt.take {k : IntKind} {w : World} {b off cap : Nat} {zs : List Int} (hcap : zs.length ≤ cap ∧ cap ≤ maxLen) (hw : ∀ n ∈ zs, (Lit.int k n).wf = true) (h : Cells k w b off zs) (m : Nat) (hm : m ≤ zs.length) : RdAt k w (.slice (some ⟨b, off, none⟩) m cap) (zs.take m) b := by
  have hl : (zs.take m).length = m := by rw [List.length_take]; omega
  refine ⟨_, _, by rw [hl], ⟨by omega, hcap.2, fun h => by cases h⟩, fun n hn => hw n (List.mem_of_mem_take hn), .inr ⟨off, rfl, fun j hj => ?_⟩⟩
  rw [hl] at hj
  rw [h j (by omega)]
  simp

/-- A contract that leaves the world, as the walk of a drawn region wants it. -/
theorem flip_same {P : Program} {f : FuncId} {args : Array Value} {w : World} {v u : Value} (h : Calls P f args w fun e w' => e = .returned v ∧ w = w') (hv : v = u) : Calls P f args w fun e w' => e = .returned u ∧ w' = w :=
  h.mono fun _ _ ⟨h1, h2⟩ => ⟨by rw [h1, hv], h2.symm⟩

/-- 'append(out, b...)': out the call's own, b a slice that can be read: nil, empty or not. -/
theorem wpList_append_rd {P : Program} (w : World) {ops : Array Oper} {rest : List Oper} {o : Oper} {a : Act} {Q : Exit → Act → World → Prop} (hgd : o.guard = none) (s x : Operand) (t : TypeId)
    (ho : o.op = .call { callee := .builtin .append, args := #[s, x], argTypes := #[t, t] })
    (base : Nat) (e : TypeId) (i : TypeInfo) (z : Value) (bytes : Nat) (ht : P.underlying t = some (.slice e)) (hi : P.info? e = some i) (hz : i.zero = some z)
    (hsize : i.size = 1) (hby : i.bytes = bytes) (hzs : z.cells.size = 1)
    (v : Value) (n : Nat) (xs : List Value) (hs : a.eval s = v) (hown : w.ownsRow base e 1 v n xs)
    (k : IntKind) (vx : Value) (zs : List Int) (b : Nat) (hx : a.eval x = vx) (hr : RdAt k w vx zs b)
    (h63 : n + zs.length ≤ maxLen) (hbytes : (n + zs.length) * bytes ≤ 140737488355328) (hbase : base ≤ w.heap.size)
    (h : ∀ v' w', w'.ownsRow base e 1 v' (n + zs.length) (xs ++ zs.map (Value.int k)) → w.grownBy w' v.ownBlock → wpList P ops Q rest (a.put o.dst v') w') : wpList P ops Q (o :: rest) a w := by
  have one : ∀ u ∈ zs.map (Value.int k), u.oneCell' = true := by
    intro u hu; simp at hu; obtain ⟨y, _, rfl⟩ := hu; rfl
  rcases hr.open with ⟨rfl, ad, cap, rfl, hcm, hnil⟩ | ⟨hne, off, cap, rfl, hcap, hc⟩
  · cases ad with
    | none =>
      have hc0 := hnil rfl
      subst hc0
      refine wpList_append_own_none hgd s x t ho base e i 1 ht hi v n xs hs hown hx ?_
      refine h v w ?_ ⟨rfl, rfl, rfl, Nat.le_refl _, fun _ _ _ => rfl⟩
      simpa using hown
    | some ad =>
      refine wpList_append_own w hgd s x t ho base e i z 1 bytes ht hi hz hsize hby hzs (by decide) v n xs hs hown ad 0 cap [] hx rfl (by simp) (by simp) (by simpa using h63) (by simpa using hbytes) hbase fun v' w' h1 h2 _ => h v' w' (by simpa using h1) h2
  · refine wpList_append_own w hgd s x t ho base e i z 1 bytes ht hi hz hsize hby hzs (by decide) v n xs hs hown ⟨b, off, none⟩ zs.length cap (zs.map (Value.int k)) hx (by simp) (fun j u hu => ?_) one h63 hbytes hbase fun v' w' h1 h2 _ => h v' w' h1 h2
    have hj : j < zs.length := by have := (List.getElem?_eq_some_iff.1 hu).1; simpa using this
    have e2 : (⟨b, off, none⟩ : Addr).add j = ⟨b, off + j, none⟩ := by simp [Addr.add]
    rw [e2, hc j hj]
    simpa [hj] using hu
/-- What a call owns, grown by a list of numbers. -/
theorem own_app {k : IntKind} {w : World} {B : Nat} {E : TypeId} {v : Value} {F zs : List Int} (h : w.ownsRow B E 1 v (F.length + zs.length) (F.map (Value.int k) ++ zs.map (Value.int k))) : w.ownsRow B E 1 v (F ++ zs).length ((F ++ zs).map (Value.int k)) := by
  rw [List.length_append, List.map_append]; exact h

theorem one_cell (k : IntKind) (y : Int) : ∀ u ∈ [Value.int k y], u.oneCell' = true := by
  intro u hu; simp at hu; subst hu; rfl
theorem own_shape {w : World} {B : Nat} {E : TypeId} {size n : Nat} {v : Value} {xs : List Value} (h : w.ownsRow B E size v n xs) : ∃ a cap, v = .slice a n cap := by
  rcases h.2 with ⟨rfl, h0⟩ | ⟨g, cap, cur, rfl, _⟩
  · exact ⟨none, 0, by rw [h0]⟩
  · exact ⟨_, cap, rfl⟩
theorem own_below {w w' : World} {B : Nat} {E : TypeId} {size n : Nat} {v : Value} {xs : List Value} (h : w.ownsRow B E size v n xs) (hb : Below w.heap.size w w') : w'.ownsRow B E size v n xs :=
  h.kept (row := none) ⟨hb.os, hb.tape, hb.output, hb.size, fun k hk _ => hb.block k hk⟩ (Classical.em _)
end Go.Proofs.YtbojhbhniollaaaDoor
namespace Go.Proofs.YtbojhbhniollaaaDoor
open Go.RowKit

theorem info_i64 : (Tryd.prog.info? 3).map (fun i => (i.zero, i.size, i.bytes)) = some (some (.int .i64 0), 1, 8) := by kernel_rfl

theorem own_madeIntS {w : World} {B g : Nat} {E : TypeId} {size n cap : Nat} {xs : List Value} (h : w.ownsRow B E size (.slice (some ⟨g, 0, none⟩) n cap) n xs) : g < w.heap.size := by
  rcases h.2 with ⟨h', _⟩ | ⟨g', cap', cur, h', _, hg, _⟩
  · simp at h'
  · simp only [Value.slice.injEq, Option.some.injEq, Addr.mk.injEq, and_true, true_and] at h'
    obtain ⟨rfl, rfl⟩ := h'
    exact (Array.getElem?_eq_some_iff.1 hg).1

set_option maxRecDepth 100000 in
set_option maxHeartbeats 400000 in
theorem toIntS_any (v : Value) (zs : List Int) (b : Nat) (w : World) (h : RdAt .i64 w v zs b) (hl : zs.length ≤ 1099511627776) :
    Calls Tryd.prog 23 #[v] w fun e w' => ∃ v', e = .returned v' ∧ WrAt .i64 w' v' zs w.heap.size ∧ Below w.heap.size w w' ∧ w.heap.size < w'.heap.size := by
  obtain ⟨i0, hi, hz0, hz1, hz2⟩ := info_parts info_i64
  obtain ⟨a, cap, rfl, -, hwf, hcell⟩ := h
  obtain ⟨n, hn⟩ : ∃ n, n = zs.length := ⟨_, rfl⟩
  have Hn := Lib.hid hn
  rw [← hn] at hl ⊢
  clear hn
  go_enter Tryd.func23, Tryd.ntmps23
  go_wp2_with (at_make; refine wpList_make_full _ rfl _ _ 23 rfl w.heap.size 3 i0 (.int .i64 0) 1 Tryd.underlying23 hi hz0 hz1 _ _ _ _ n rfl rfl rfl rfl ?c1 ?c2 ?c3 ?_)
  case c1 => rw [hz2]; omega
  case c2 => unfold maxLen; omega
  case c3 => exact Nat.le_refl _
  intro w1 hown hgr
  have hb1 : Below w.heap.size w w1 := (Below.refl _ _).grown hgr (Nat.le_refl _) (fun k hk => by cases hk)
  clear hgr hi hz0 hz1 hz2
  go_wp2_with fail
  go_loopw [4] (fun i wr => ∃ k : Nat, k ≤ n ∧ i = .int .i64 k ∧ Below w.heap.size w wr ∧ ∃ xs, wr.ownsRow w.heap.size 3 1 (.slice (some ⟨w.heap.size, 0, none⟩) n n) n xs ∧ ∀ j, j < k → xs[j]? = some (.int .i64 (zs.getD j 0))) (fun i _ => n - (intOf i).toNat)
  case atStart => exact ⟨0, Nat.zero_le _, rfl, hb1, _, hown, fun j hj => by omega⟩
  case round =>
    clear hown hb1
    obtain ⟨k, hk, rfl, hb2, xs, hown, hxs⟩ := hrel
    by_cases hlt : k < n
    · have hzl : k < zs.length := by rw [← Hn.out]; exact hlt
      rcases hcell with h0 | ⟨off, rfl, hc⟩
      · subst h0; simp at hzl
      obtain ⟨y, hy⟩ : ∃ y, Hid (y = zs.getD k 0) := ⟨_, Lib.hid rfl⟩
      have hc1 : wr.cell? ⟨b, off + k, none⟩ = some (.int .i64 y) := by
        have h1 := hc k hzl
        rw [hb2.cell (World.block_lt_of_cell? _ _ h1), h1, hy.out]
        simp [List.getD, hzl]
      obtain ⟨x, hx⟩ : ∃ x, xs[k]? = some x := ⟨_, List.getElem?_eq_getElem (by rw [hown.1]; omega)⟩
      have hc2 : wr.cell? ⟨w.heap.size, k, none⟩ = some x := by rw [hown.cellAt k (by omega), hx]
      have hf2 : wr.frozen? ⟨w.heap.size, k, none⟩ = false := hown.frozenAt k
      have hst := (hown.stored k (.int .i64 y)).1
      have hb3 : Below w.heap.size w (wr.setCell ⟨w.heap.size, k, none⟩ (.int .i64 y)) := hb2.setCell (Nat.le_refl _) _
      have hrel2 : Hid (∀ j, j < k + 1 → (xs.set k (.int .i64 y))[j]? = some (.int .i64 (zs.getD j 0))) := Lib.hid (fun j hj => by
        by_cases e : j = k
        · subst e; rw [List.getElem?_set_self (by rw [hown.1]; omega), hy.out]
        · rw [List.getElem?_set_ne (by omega)]; exact hxs j (by omega))
      clear hc hx hb2 hxs hown
      go_wp2_with fail
      go_roundw
      case rel => exact ⟨k + 1, by omega, by go_num, hb3, _, hst, hrel2.out⟩
      case measure => simp [intOf]; omega
    · obtain rfl : k = n := by omega
      go_wp2_with fail
      go_ret
      refine ⟨_, rfl, ⟨some ⟨w.heap.size, 0, none⟩, k, by rw [← Hn.out]; rfl, ⟨by rw [Hn.out]; exact Nat.le_refl _, by unfold maxLen; omega, fun h => by cases h⟩, hwf, ?_⟩, hb2, own_madeIntS hown⟩
      by_cases hz : zs = []
      · exact .inl hz
      · refine .inr ⟨0, rfl, fun j hj => ?_, fun j hj => ?_⟩
        · rw [Nat.zero_add, hown.cellAt j (by rw [Hn.out]; omega), hxs j (by rw [Hn.out]; exact hj)]
          simp [List.getD, hj]
        · rw [Nat.zero_add]; exact hown.frozenAt j

set_option maxRecDepth 100000 in
set_option maxHeartbeats 400000 in
theorem eqIntS_any (va vb : Value) (za zb : List Int) (ba bb : Nat) (w : World) (ha : RdAt .i64 w va za ba) (hb : RdAt .i64 w vb zb bb) (hl : za.length ≤ 1099511627776) (hl2 : zb.length ≤ 1099511627776) :
    Calls Tryd.prog 25 #[va, vb] w fun e w' => (∃ r : Bool, e = .returned (.bool r) ∧ (r = true ↔ za = zb)) ∧ ∃ n, w' = w.drewN n := by
  obtain ⟨aa, ca, rfl, -, -, hca⟩ := ha
  obtain ⟨ab, cb, rfl, -, -, hcb⟩ := hb
  obtain ⟨n, hn⟩ : ∃ n, n = za.length := ⟨_, rfl⟩
  obtain ⟨m, hm⟩ : ∃ m, m = zb.length := ⟨_, rfl⟩
  have Hn := Lib.hid hn
  have Hm := Lib.hid hm
  rw [← hn] at hl ⊢
  rw [← hm] at hl2 ⊢
  clear hn hm
  by_cases hnm : n = m
  · subst hnm
    have hq : ((n : Int) != (n : Int)) = false := by simp
    go_enter Tryd.func25, Tryd.ntmps25
    go_wp2_with fail
    go_loopw [5] (fun i wr => ∃ k : Nat, k ≤ n ∧ i = .int .i64 k ∧ (∃ q, wr = w.drewN q) ∧ Hid (∀ j (h1 : j < za.length) (h2 : j < zb.length), j < k → za[j] = zb[j])) (fun i _ => n - (intOf i).toNat)
    case atStart => exact ⟨0, Nat.zero_le _, rfl, ⟨0, rfl⟩, Lib.hid (fun j _ _ h => by omega)⟩
    case round =>
      obtain ⟨k, hk, rfl, ⟨q, rfl⟩, hsame⟩ := hrel
      by_cases hlt : k < n
      · have hza : k < za.length := by rw [← Hn.out]; exact hlt
        have hzb : k < zb.length := by rw [← Hm.out]; exact hlt
        rcases hca with h0 | ⟨oa, rfl, hc1⟩
        · subst h0; simp at hza
        rcases hcb with h0 | ⟨ob, rfl, hc2⟩
        · subst h0; simp at hzb
        obtain ⟨x, hx⟩ : ∃ x, Hid (x = za[k]) := ⟨_, Lib.hid rfl⟩
        obtain ⟨y, hy⟩ : ∃ y, Hid (y = zb[k]) := ⟨_, Lib.hid rfl⟩
        have h1 : w.cell? ⟨ba, oa + k, none⟩ = some (.int .i64 x) := by rw [hc1 k hza, hx.out]
        have h2 : w.cell? ⟨bb, ob + k, none⟩ = some (.int .i64 y) := by rw [hc2 k hzb, hy.out]
        clear hc1 hc2
        by_cases hxy : x = y
        · subst hxy
          have hs2 : Hid (∀ j (h1 : j < za.length) (h2 : j < zb.length), j < k + 1 → za[j] = zb[j]) := Lib.hid (fun j h1 h2 hj => by
            by_cases e : j = k
            · subst e; rw [← hx.out, ← hy.out]
            · exact hsame.out j h1 h2 (by omega))
          go_wp2_with fail
          go_quiet (fail)
          go_wp2_with fail
          go_roundw
          case rel => exact ⟨k + 1, by omega, by go_num, ⟨_, rfl⟩, hs2⟩
          case measure => simp [intOf]; omega
        · have hne : (x != y) = true := by simpa using hxy
          have hno : Hid (za ≠ zb) := Lib.hid (list_ne_of hza hzb (by rw [← hx.out, ← hy.out]; exact hxy))
          clear hxy
          go_wp2_with fail
          go_quiet (fail)
          go_wp2_with fail
          go_ret
          exact ⟨⟨_, rfl, ⟨(fun h => by cases h), fun h => absurd h hno.out⟩⟩, ⟨_, World.drewN_drewN _ _ _⟩⟩
      · obtain rfl : k = n := by omega
        have hyes : Hid (za = zb) := Lib.hid (list_eq_of (by rw [← Hn.out, ← Hm.out]) (fun j h1 h2 => hsame.out j h1 h2 (by rw [Hn.out]; exact h1)))
        go_wp2_with fail
        go_ret
        exact ⟨⟨_, rfl, ⟨fun _ => hyes.out, fun _ => rfl⟩⟩, ⟨_, rfl⟩⟩
  · have hq : ((n : Int) != (m : Int)) = true := by simp; omega
    have hno : Hid (za ≠ zb) := Lib.hid (fun e => hnm (by rw [Hn.out, Hm.out, e]))
    clear hnm
    go_enter Tryd.func25, Tryd.ntmps25
    go_wp2_with fail
    go_ret
    exact ⟨⟨_, rfl, ⟨(fun h => by cases h), fun h => absurd h hno.out⟩⟩, ⟨0, rfl⟩⟩


set_option maxRecDepth 100000 in
set_option maxHeartbeats 400000 in
theorem markIntS_any (v : Value) (zs : List Int) (b : Nat) (k : Int) (w : World) (h : WrAt .i64 w v zs b) (hl : zs.length ≤ 1099511627776) (k0 : 0 ≤ k) (k1 : k ≤ 1099511627776) :
    Calls Tryd.prog 26 #[v, .int .i64 k] w fun e w' => e = .returned (.int .i64 (k + zs.length)) ∧ WrAt .i64 w' v (marksI k zs.length) b ∧ w.grownBy w' (some b) ∧ w'.heap.size = w.heap.size := by
  rcases h.open with ⟨rfl, a, cap, rfl, hcap⟩ | ⟨hz, off, cap, rfl, hcap, hc, hf⟩
  · have e : k + (([] : List Int).length : Int) = k := by simp
    rw [e]
    clear e
    go_enter Tryd.func26, Tryd.ntmps26
    go_wp2_with fail
    refine wp_loop_rounds 1 ?_
    rw [rounds_succ]
    go_wp2_with fail
    go_ret
    exact ⟨rfl, WrAt.nil _ _ _ _ _ hcap, ⟨rfl, rfl, rfl, Nat.le_refl _, fun _ _ _ => rfl⟩, rfl⟩
  · obtain ⟨n, hn⟩ : ∃ n, n = zs.length := ⟨_, rfl⟩
    have Hn := Lib.hid hn
    rw [← hn] at hl ⊢
    clear hn
    have hB : ∀ m, marksI k m = (List.range m).map fun (i : Nat) => k + (i : Int) := fun _ => rfl
    have HB := Lib.hid hB
    clear hB
    go_enter Tryd.func26, Tryd.ntmps26
    go_wp2_with fail
    go_loopw [1, 5] (fun kv i wr => ∃ j : Nat, j ≤ n ∧ i = .int .i64 j ∧ kv = .int .i64 (k + j) ∧ w.grownBy wr (some b) ∧ wr.heap.size = w.heap.size ∧ Cells .i64 wr b off (marksI k j ++ zs.drop j) ∧ Free wr b off n) (fun _ i _ => n - (intOf i).toNat)
    case atStart => exact ⟨0, Nat.zero_le _, rfl, by simp, ⟨rfl, rfl, rfl, Nat.le_refl _, fun _ _ _ => rfl⟩, rfl, by simpa [marksI] using hc, by rw [Hn.out]; exact hf⟩
    case round =>
      clear hc hf
      obtain ⟨j, hj, rfl, rfl, hg, hsz, hc, hf⟩ := hrel
      by_cases hlt : j < n
      · have hjz : j < zs.length := by rw [← Hn.out]; exact hlt
        have hlen := marks_len (f := marksI) (k := k) HB.out (zs := zs) (j := j) (by omega)
        have hc1 : ∃ x, wr.cell? ⟨b, off + j, none⟩ = some (.int .i64 x) := ⟨_, hc j (by rw [hlen]; exact hjz)⟩
        obtain ⟨x, hc1⟩ := hc1
        have hf1 := hf j hlt
        have hst := hc.store (j := j) (by rw [hlen]; exact hjz) (k + (j : Int))
        rw [marks_step (f := marksI) (k := k) HB.out hjz] at hst
        have hst := Lib.hid hst
        have hf2 := Lib.hid (hf.store ⟨b, off + j, none⟩ (.int .i64 (k + (j : Int))))
        have hg2 := Lib.hid (grown_store hg ⟨b, off + j, none⟩ rfl (.int .i64 (k + (j : Int))))
        clear hc hf hlen hg
        go_wp2_with fail
        go_roundw
        case rel => exact ⟨j + 1, by omega, by go_num, by go_num, hg2.out, by simp [World.setCell]; exact hsz, hst.out, hf2.out⟩
        case measure => simp [intOf]; omega
      · obtain rfl : j = n := by omega
        have hfin : Hid (WrAt .i64 wr (.slice (some ⟨b, off, none⟩) j cap) (marksI k j) b) := Lib.hid (by
          have e : zs.drop j = [] := List.drop_eq_nil_of_le (by rw [Hn.out]; exact Nat.le_refl _)
          rw [e, List.append_nil] at hc
          have h1 := WrAt.of cap (by rw [marksI_length, Hn.out]; exact hcap) (marksI_wf k j (by omega) (by omega)) hc (by rw [marksI_length]; exact hf)
          rw [marksI_length] at h1
          exact h1)
        clear hc hf
        go_wp2_with fail
        go_ret
        exact ⟨rfl, hfin.out, hg, hsz⟩

set_option maxRecDepth 100000 in
set_option maxHeartbeats 400000 in
/-- The marks are found again. -/
theorem heldIntS_any (v : Value) (b : Nat) (k : Int) (n : Nat) (w : World) (h : RdAt .i64 w v (marksI k n) b) (hl : n ≤ 1099511627776) (k0 : 0 ≤ k) (k1 : k ≤ 1099511627776) :
    Calls Tryd.prog 44 #[v, .int .i64 k] w fun e w' => e = .returned (.int .i64 (k + n)) ∧ w = w' := by
  obtain ⟨a, cap, hv, -, -, hc⟩ := h
  rw [marksI_length] at hv
  subst hv
  go_enter Tryd.func44, Tryd.ntmps44
  go_wp2_with fail
  go_loop [1, 5] (fun kv i => ∃ j : Nat, j ≤ n ∧ i = .int .i64 j ∧ kv = .int .i64 (k + j)) (fun _ i => n - (intOf i).toNat)
  case atStart => exact ⟨0, Nat.zero_le _, rfl, by simp⟩
  case round =>
    obtain ⟨j, hj, rfl, rfl⟩ := hrel
    by_cases hlt : j < n
    · rcases hc with h0 | ⟨off, rfl, hc⟩
      · have := congrArg List.length h0; rw [marksI_length] at this; simp at this; omega
      have hj' : j < (marksI k n).length := by rw [marksI_length]; exact hlt
      have hc1 := hc j hj'
      rw [marksI_at k n j hj'] at hc1
      clear hc hj'
      go_wp2_with fail
      go_round
      case rel => exact ⟨j + 1, by omega, by go_num, by go_num⟩
      case measure => simp [intOf]; omega
    · obtain rfl : j = n := by omega
      go_wp2_with fail
      go_ret
      exact ⟨rfl, rfl⟩

theorem eqIntS_t (va vb : Value) (zs : List Int) (ba bb : Nat) (w : World) (ha : RdAt .i64 w va zs ba) (hb : RdAt .i64 w vb zs bb) (hl : zs.length ≤ 1099511627776) :
    Calls Tryd.prog 25 #[va, vb] w fun e w' => e = .returned (.bool true) ∧ Below w.heap.size w w' := by
  refine (eqIntS_any va vb zs zs ba bb w ha hb hl hl).mono ?_
  rintro e w' ⟨⟨r, rfl, hr⟩, n, rfl⟩
  have : r = true := hr.2 rfl
  subst this
  exact ⟨rfl, below_drewN (Below.refl _ _) _⟩

end Go.Proofs.YtbojhbhniollaaaDoor
namespace Go.Proofs.YtbojhbhniollaaaDoor
open Go.RowKit

theorem szIntS_any (p : Option Addr) (n c : Nat) (left : Int) (w : World) (h0 : 0 ≤ left) (h1 : left ≤ 1048576) (hn : n ≤ 9223372036854775807) :
    Calls Tryd.prog 32 #[.slice p n c, .int .i64 left] w fun e w' => e = .returned (.int .i64 (if left < n then -1 else left - n)) ∧ w = w' := by
  by_cases h : left < n
  · rw [if_pos h]
    have hd : left - (n : Int) < 0 := by omega
    go_enter Tryd.func32, Tryd.ntmps32
    go_wp2_with fail
    go_ret
    exact ⟨rfl, rfl⟩
  · rw [if_neg h]
    have hd : ¬ left - (n : Int) < 0 := by omega
    go_enter Tryd.func32, Tryd.ntmps32
    go_wp2_with fail
    go_ret
    exact ⟨rfl, rfl⟩

end Go.Proofs.YtbojhbhniollaaaDoor
namespace Go.Proofs.YtbojhbhniollaaaDoor
open Go.RowKit

/-- The value v is a slice of slices, which hold the numbers zss. -/
def RdRows (k : IntKind) (w : World) (v : Value) (zss : List (List Int)) : Prop :=
  ∃ (a : Option Addr) (cap : Nat), v = .slice a zss.length cap ∧ (zss.length ≤ cap ∧ cap ≤ maxLen ∧ (a = none → cap = 0)) ∧
    (zss = [] ∨ ∃ blk off, a = some ⟨blk, off, none⟩ ∧ ∀ j (hj : j < zss.length), ∃ (r : Value) (b : Nat), w.cell? ⟨blk, off + j, none⟩ = some r ∧ RdAt k w r zss[j] b)
theorem RdRows.below {k : IntKind} {w w' : World} {v : Value} {zss : List (List Int)} (h : RdRows k w v zss) (hb : Below w.heap.size w w') : RdRows k w' v zss := by
  obtain ⟨a, cap, h1, h2, h3⟩ := h
  refine ⟨a, cap, h1, h2, ?_⟩
  rcases h3 with h3 | ⟨blk, off, h4, h5⟩
  · exact .inl h3
  · refine .inr ⟨blk, off, h4, fun j hj => ?_⟩
    obtain ⟨r, b, hc, hr⟩ := h5 j hj
    exact ⟨r, b, by rw [hb.cell (p := ⟨blk, off + j, none⟩) (World.block_lt_of_cell? _ _ hc)]; exact hc, hr.below hb⟩
/-- A row that is read. -/
theorem RdRows.row {k : IntKind} {w : World} {v : Value} {zss : List (List Int)} (h : RdRows k w v zss) {j : Nat} (hj : j < zss.length) :
    ∃ (blk off cap : Nat) (p : Option Addr) (c b : Nat), v = .slice (some ⟨blk, off, none⟩) zss.length cap ∧ w.cell? ⟨blk, off + j, none⟩ = some (.slice p zss[j].length c) ∧ RdAt k w (.slice p zss[j].length c) zss[j] b ∧ zss[j].length ≤ maxLen := by
  obtain ⟨a, cap, h1, h2, h3⟩ := h
  rcases h3 with h3 | ⟨blk, off, rfl, h5⟩
  · subst h3; simp at hj
  · obtain ⟨r, b, hc, hr⟩ := h5 j hj
    obtain ⟨p, c, rfl, hcap, -⟩ := id hr
    exact ⟨blk, off, cap, p, c, b, h1, hc, hr, Nat.le_trans hcap.1 hcap.2.1⟩
/-- A slice of slices that came in. -/
def IsRows (k : IntKind) (w : World) (a : Option Addr) (len cap : Nat) (zss : List (List Int)) : Prop := RdRows k w (.slice a len cap) zss
theorem isRows_nil {k : IntKind} {w : World} : IsRows k w none 0 0 [] := ⟨none, 0, rfl, ⟨Nat.le_refl _, Nat.zero_le _, fun _ => rfl⟩, .inl rfl⟩
theorem rows_of_open {k : IntKind} {w : World} {a : Addr} {len cap : Nat} (hl : len ≤ cap) (hm : cap ≤ maxLen) (A : Nat → Option Addr) (L C : Nat → Nat) (Z : Nat → List Int)
    (h : ∀ r, r < cap → w.cell? (a.add r) = some (.slice (A r) (L r) (C r)) ∧ L r ≤ C r ∧ C r ≤ maxLen ∧ (Z r).length = C r ∧ (∀ n ∈ Z r, (Lit.int k n).wf = true) ∧ (A r = none → C r = 0) ∧
        ∀ a', A r = some a' → 0 ≤ a'.block ∧ ∀ c, c < C r → w.cell? (a'.add c) = some (.int k ((Z r).getD c 0))) :
    RdRows k w (.slice (some a) len cap) ((List.range len).map fun r => (Z r).take (L r)) := by
  refine ⟨some a, cap, by simp, ⟨by simpa using hl, hm, fun h => by cases h⟩, ?_⟩
  by_cases h0 : len = 0
  · subst h0; exact .inl rfl
  obtain ⟨blk, off, spot⟩ := a
  have hs : spot = none := by
    have := (h 0 (by omega)).1
    simpa [Addr.add] using World.cell?_spot this
  subst hs
  refine .inr ⟨blk, off, rfl, fun j hj => ?_⟩
  have hj' : j < len := by simpa using hj
  obtain ⟨h1, h2, h3, h4, h5, h6, h7⟩ := h j (by omega)
  have e : (⟨blk, off, none⟩ : Addr).add j = ⟨blk, off + j, none⟩ := by simp [Addr.add]
  rw [e] at h1
  have hrow : IsRow k w (A j) (L j) (C j) (Z j) := by
    cases hA : A j with
    | none =>
      have hc0 := h6 hA
      have hz : Z j = [] := List.length_eq_zero_iff.1 (by omega)
      exact .inl ⟨rfl, by omega, hc0, hz⟩
    | some x => exact .inr ⟨x, rfl, h2, h3, h4, fun i hi => (h7 x hA).2 i (by omega), h5⟩
  obtain ⟨b, hr, -⟩ := hrow.rd
  exact ⟨_, b, h1, by simpa using hr⟩

def sumLen (zss : List (List Int)) : Nat := (zss.map List.length).sum
theorem sumLen_take (zss : List (List Int)) (k : Nat) (h : k < zss.length) : sumLen (zss.take (k + 1)) = sumLen (zss.take k) + zss[k].length := by
  unfold sumLen
  rw [List.take_succ_eq_append_getElem h, List.map_append, List.sum_append]; simp
theorem sumLen_take_le (zss : List (List Int)) (k : Nat) : sumLen (zss.take k) ≤ sumLen zss := by
  have : sumLen zss = sumLen (zss.take k) + sumLen (zss.drop k) := by
    unfold sumLen; rw [← List.sum_append, ← List.map_append, List.take_append_drop]
  omega
theorem len_le_sum : ∀ (zss : List (List Int)) {j : Nat} (h : j < zss.length), zss[j].length ≤ sumLen zss
  | [], j, h => by simp at h
  | z :: zss, 0, h => by simp [sumLen]
  | z :: zss, j + 1, h => by
    have := len_le_sum zss (j := j) (by simpa using h)
    simp only [sumLen, List.map_cons, List.sum_cons, List.getElem_cons_succ] at this ⊢
    omega


set_option maxRecDepth 100000 in
theorem szIntSS_any (v : Value) (zss : List (List Int)) (left : Int) (w : World) (h : RdRows .i64 w v zss) (h0 : 0 ≤ left) (h1 : left ≤ 1048576) :
    Calls Tryd.prog 31 #[v, .int .i64 left] w fun e w' => (∃ r : Int, e = .returned (.int .i64 r) ∧ -1 ≤ r ∧ r ≤ 1048576 ∧ (0 ≤ r → (zss.length : Int) + sumLen zss + r = left)) ∧ w = w' := by
  have hrow := fun j (hj : j < zss.length) => h.row hj
  obtain ⟨a, cap, rfl, hcap, -⟩ := id h
  obtain ⟨n, hn⟩ : ∃ n, n = zss.length := ⟨_, rfl⟩
  have Hn := Lib.hid hn
  have hn2 : n ≤ 9223372036854775807 := by have := hcap.1; have h2 := hcap.2.1; unfold maxLen at h2; omega
  have Hrow := Lib.hid hrow
  rw [← hn]
  clear hn hrow h hcap
  by_cases hl : left < n
  · have hd : left - (n : Int) < 0 := by omega
    go_enter Tryd.func31, Tryd.ntmps31
    go_wp2_with fail
    go_ret
    exact ⟨⟨-1, rfl, by omega, by omega, fun h => by omega⟩, rfl⟩
  · have hd : ¬ left - (n : Int) < 0 := by omega
    go_enter Tryd.func31, Tryd.ntmps31
    go_wp2_with fail
    go_loop [1, 5] (fun l i => ∃ (k : Nat) (x : Int), k ≤ n ∧ i = .int .i64 k ∧ l = .int .i64 x ∧ 0 ≤ x ∧ x ≤ 1048576 ∧ Hid ((n : Int) + sumLen (zss.take k) + x = left)) (fun _ i => n - (intOf i).toNat)
    case atStart => exact ⟨0, left - n, Nat.zero_le _, rfl, rfl, by omega, by omega, Lib.hid (by simp [sumLen]; omega)⟩
    case round =>
      obtain ⟨k, x, hk, rfl, rfl, hx0, hx1, hs⟩ := hrel
      by_cases hlt : k < n
      · have hz : k < zss.length := by rw [← Hn.out]; exact hlt
        obtain ⟨blk, off, cap', p, c, b, hv, hc, -, hml⟩ := Hrow.out k hz
        have ha := (Value.slice.inj hv).1
        clear hv
        subst ha
        have hst := sumLen_take zss k hz
        obtain ⟨m, hm⟩ : ∃ m, m = (zss[k]'hz).length := ⟨_, rfl⟩
        rw [← hm] at hc hml hst
        have Hst := Lib.hid hst
        unfold maxLen at hml
        clear hm hst
        by_cases hxm : x < m
        · have HC := Lib.hid (szIntS_any p m c x w hx0 hx1 (by omega))
          rw [if_pos hxm] at HC
          go_wp2_with fail
          refine HC.out.mono ?_
          rintro e _w ⟨rfl, rfl⟩
          go_wp2_with fail
          go_ret
          exact ⟨⟨-1, rfl, by omega, by omega, fun h => by omega⟩, rfl⟩
        · have HC := Lib.hid (szIntS_any p m c x w hx0 hx1 (by omega))
          rw [if_neg hxm] at HC
          have hs2 : Hid ((n : Int) + sumLen (zss.take (k + 1)) + (x - m) = left) := Lib.hid (by have := hs.out; rw [Hst.out]; omega)
          go_wp2_with fail
          refine HC.out.mono ?_
          rintro e _w ⟨rfl, rfl⟩
          go_wp2_with fail
          go_round
          case rel => exact ⟨k + 1, x - m, by omega, by go_num, rfl, by omega, by omega, hs2⟩
          case measure => simp [intOf]; omega
      · obtain rfl : k = n := by omega
        have hs2 : Hid ((k : Int) + sumLen zss + x = left) := Lib.hid (by have := hs.out; rw [List.take_of_length_le (by rw [Hn.out]; exact Nat.le_refl _)] at this; exact this)
        go_wp2_with fail
        go_ret
        exact ⟨⟨x, rfl, by omega, by omega, fun _ => hs2.out⟩, rfl⟩

theorem info_rowI : (Tryd.prog.info? 23).map (fun i => (i.zero, i.size, i.bytes)) = some (some (.slice none 0 0), 1, 24) := by kernel_rfl

/-- .. and may be written: each row in a block of its own, the blocks behind one another. -/
def WrRows (k : IntKind) (w : World) (B : Nat) (v : Value) (zss : List (List Int)) : Prop :=
  ∃ (blk cap : Nat) (bf : Nat → Nat), v = .slice (some ⟨blk, 0, none⟩) zss.length cap ∧ (zss.length ≤ cap ∧ cap ≤ maxLen) ∧ B ≤ blk ∧ blk < w.heap.size ∧
    (∀ i j, i < j → j < zss.length → bf i < bf j) ∧ ∀ j (hj : j < zss.length), blk < bf j ∧ bf j < w.heap.size ∧ w.frozen? ⟨blk, j, none⟩ = false ∧ ∃ r, w.cell? ⟨blk, j, none⟩ = some r ∧ WrAt k w r zss[j] (bf j)
theorem WrRows.rd {k : IntKind} {w : World} {B : Nat} {v : Value} {zss : List (List Int)} (h : WrRows k w B v zss) : RdRows k w v zss := by
  obtain ⟨blk, cap, bf, rfl, ⟨h1, h2⟩, -, -, -, h3⟩ := h
  refine ⟨_, cap, rfl, ⟨h1, h2, fun h => by cases h⟩, ?_⟩
  by_cases h0 : zss = []
  · exact .inl h0
  · refine .inr ⟨blk, 0, rfl, fun j hj => ?_⟩
    obtain ⟨-, -, -, r, hc, hr⟩ := h3 j hj
    exact ⟨r, bf j, by rw [Nat.zero_add]; exact hc, hr.rd⟩

set_option maxRecDepth 100000 in
set_option maxHeartbeats 1000000 in
theorem toIntSS_any (v : Value) (zss : List (List Int)) (w : World) (h : RdRows .i64 w v zss) (hl : zss.length ≤ 1048576) (hl2 : sumLen zss ≤ 1048576) :
    Calls Tryd.prog 36 #[v] w fun e w' => ∃ v', e = .returned v' ∧ WrRows .i64 w' w.heap.size v' zss ∧ Below w.heap.size w w' := by
  obtain ⟨i0, hi, hz0, hz1, hz2⟩ := info_parts info_rowI
  have hrow := fun wx (hb : Below w.heap.size w wx) j (hj : j < zss.length) => (h.below hb).row hj
  obtain ⟨a, cap, rfl, hcap, -⟩ := id h
  obtain ⟨n, hn⟩ : ∃ n, n = zss.length := ⟨_, rfl⟩
  have Hn := Lib.hid hn
  have Hrow := Lib.hid hrow
  have Hsum : Hid (∀ j (hj : j < zss.length), zss[j].length ≤ 1048576) := Lib.hid (fun j hj => Nat.le_trans (len_le_sum zss hj) hl2)
  rw [← hn] at hl ⊢
  clear hn hrow h hcap hl2
  go_enter Tryd.func36, Tryd.ntmps36
  go_wp2_with (at_make; refine wpList_make_full _ rfl _ _ 22 rfl w.heap.size 23 i0 (.slice none 0 0) 1 Tryd.underlying22 hi hz0 hz1 _ _ _ _ n rfl rfl rfl rfl ?c1 ?c2 ?c3 ?_)
  case c1 => rw [hz2]; omega
  case c2 => unfold maxLen; omega
  case c3 => exact Nat.le_refl _
  intro w1 hown hgr
  have hb1 : Below w.heap.size w w1 := (Below.refl _ _).grown hgr (Nat.le_refl _) (fun k hk => by cases hk)
  have hlt1 := own_madeIntS hown
  clear hgr hi hz0 hz1 hz2
  go_wp2_with fail
  go_loopw [4] (fun i wr => ∃ k : Nat, k ≤ n ∧ i = .int .i64 k ∧ Below w.heap.size w wr ∧ w.heap.size < wr.heap.size ∧ ∃ (xs : List Value) (bf : Nat → Nat), wr.ownsRow w.heap.size 23 1 (.slice (some ⟨w.heap.size, 0, none⟩) n n) n xs ∧
      Hid (∀ i j, i < j → j < k → bf i < bf j) ∧ Hid (∀ j (hj : j < zss.length), j < k → w.heap.size < bf j ∧ bf j < wr.heap.size ∧ ∃ r, xs[j]? = some r ∧ WrAt .i64 wr r zss[j] (bf j))) (fun i _ => n - (intOf i).toNat)
  case atStart => exact ⟨0, Nat.zero_le _, rfl, hb1, hlt1, _, fun _ => 0, hown, Lib.hid (fun i j _ h => by omega), Lib.hid (fun j _ h => by omega)⟩
  case round =>
    clear hown hb1 hlt1
    obtain ⟨k, hk, rfl, B, hlt1, xs, bf, hown, hmono, hxs⟩ := hrel
    by_cases hlt : k < n
    · have hz : k < zss.length := by rw [← Hn.out]; exact hlt
      obtain ⟨blk, off, cap', p, c, b, hv, hc, hr, -⟩ := Hrow.out wr B k hz
      have ha := (Value.slice.inj hv).1
      clear hv
      subst ha
      have hsm := Hsum.out k hz
      have hcall := toIntS_any _ _ _ wr hr (by omega)
      have Hz : Hid (k < zss.length) := Lib.hid hz
      obtain ⟨zs, hzs⟩ : ∃ zs, zs = zss[k]'hz := ⟨_, rfl⟩
      rw [← hzs] at hc hcall hsm
      have Hzs := Lib.hid hzs
      have hcall := Lib.hid hcall
      clear hr hzs
      go_wp2_with fail
      refine hcall.out.mono ?_
      rintro e w2 ⟨v2, rfl, hw2, B2, hlt2⟩
      obtain ⟨pa, pc, hv2, -⟩ := id hw2
      have hown2 := own_below hown B2
      have hB2 := B.trans (B2.mono B.size)
      obtain ⟨x, hx⟩ : ∃ x, xs[k]? = some x := ⟨_, List.getElem?_eq_getElem (by rw [hown.1]; omega)⟩
      have hc2 : w2.cell? ⟨w.heap.size, k, none⟩ = some x := by rw [hown2.cellAt k (by omega), hx]
      have hf2 : w2.frozen? ⟨w.heap.size, k, none⟩ = false := hown2.frozenAt k
      have hst := (hown2.stored k v2).1
      have hb3 : Below w.heap.size w (w2.setCell ⟨w.heap.size, k, none⟩ v2) := hB2.setCell (Nat.le_refl _) _
      have hs3 : (w2.setCell ⟨w.heap.size, k, none⟩ v2).heap.size = w2.heap.size := by simp [World.setCell]
      have hkeep : ∀ q, q ≠ w.heap.size → (w2.setCell ⟨w.heap.size, k, none⟩ v2).heap[q]? = w2.heap[q]? := fun q hq => Below.heap_setCell _ _ _ _ hq
      have hmono2 : Hid (∀ i j, i < j → j < k + 1 → (fun j => if j = k then wr.heap.size else bf j) i < (fun j => if j = k then wr.heap.size else bf j) j) := Lib.hid (fun i j hij hj => by
        have hik : i ≠ k := by omega
        have hiz : i < zss.length := by have := Hz.out; omega
        simp only [if_neg hik]
        by_cases e : j = k
        · rw [if_pos e]; exact (hxs.out i hiz (by omega)).2.1
        · rw [if_neg e]; exact hmono.out i j hij (by omega))
      have hrel2 : Hid (∀ j (hj : j < zss.length), j < k + 1 → w.heap.size < (fun j => if j = k then wr.heap.size else bf j) j ∧ (fun j => if j = k then wr.heap.size else bf j) j < (w2.setCell ⟨w.heap.size, k, none⟩ v2).heap.size ∧ ∃ r, (xs.set k v2)[j]? = some r ∧ WrAt .i64 (w2.setCell ⟨w.heap.size, k, none⟩ v2) r zss[j] ((fun j => if j = k then wr.heap.size else bf j) j)) := Lib.hid (fun j hjz hj => by
        rw [hs3]
        by_cases e : j = k
        · subst e
          simp only [if_true]
          refine ⟨hlt1, hlt2, v2, by rw [List.getElem?_set_self (by rw [hown.1]; omega)], ?_⟩
          rw [← Hzs.out]
          exact hw2.keep fun _ => hkeep _ (by omega)
        · obtain ⟨g1, g2, r, g3, g4⟩ := hxs.out j hjz (by omega)
          simp only [if_neg e]
          refine ⟨g1, Nat.lt_of_lt_of_le g2 B2.size, r, by rw [List.getElem?_set_ne (by omega)]; exact g3, ?_⟩
          exact (g4.below B2).keep fun _ => hkeep _ (by omega))
      have hlt3 : Hid (w.heap.size < (w2.setCell ⟨w.heap.size, k, none⟩ v2).heap.size) := Lib.hid (by rw [hs3]; exact Nat.lt_of_lt_of_le hlt1 B2.size)
      subst hv2
      clear hw2 hown2 hx hB2 hown hxs hmono B B2 hs3 hkeep hlt2 hlt1 hcall
      go_wp2_with fail
      go_roundw
      case rel => exact ⟨k + 1, by omega, by go_num, hb3, hlt3.out, _, _, hst, hmono2, hrel2⟩
      case measure => simp [intOf]; omega
    · obtain rfl : k = n := by omega
      go_wp2_with fail
      go_ret
      refine ⟨_, rfl, ⟨w.heap.size, k, bf, by rw [← Hn.out]; rfl, ⟨by rw [Hn.out]; exact Nat.le_refl _, by unfold maxLen; omega⟩, Nat.le_refl _, hlt1, fun i j hij hj => hmono.out i j hij (by rw [Hn.out]; exact hj), fun j hj => ?_⟩, B⟩
      obtain ⟨g1, g2, r, g3, g4⟩ := hxs.out j hj (by rw [Hn.out]; exact hj)
      exact ⟨g1, g2, hown.frozenAt j, r, by rw [hown.cellAt j (by rw [Hn.out]; omega)]; exact g3, g4⟩

set_option maxRecDepth 100000 in
set_option maxHeartbeats 1000000 in
theorem eqIntSS_t (va vb : Value) (zss : List (List Int)) (w : World) (ha : RdRows .i64 w va zss) (hb : RdRows .i64 w vb zss) (hl : zss.length ≤ 1048576) (hl2 : sumLen zss ≤ 1048576) :
    Calls Tryd.prog 42 #[va, vb] w fun e w' => e = .returned (.bool true) ∧ Below w.heap.size w w' := by
  have hrow := fun wx (h : Below w.heap.size w wx) j (hj : j < zss.length) => (ha.below h).row hj
  have hrow2 := fun wx (h : Below w.heap.size w wx) j (hj : j < zss.length) => (hb.below h).row hj
  obtain ⟨a, cap, rfl, -, -⟩ := id ha
  obtain ⟨a2, cap2, rfl, -, -⟩ := id hb
  obtain ⟨n, hn⟩ : ∃ n, n = zss.length := ⟨_, rfl⟩
  have Hn := Lib.hid hn
  have Hrow := Lib.hid hrow
  have Hrow2 := Lib.hid hrow2
  have Hsum : Hid (∀ j (hj : j < zss.length), zss[j].length ≤ 1048576) := Lib.hid (fun j hj => Nat.le_trans (len_le_sum zss hj) hl2)
  rw [← hn] at hl ⊢
  clear hn hrow hrow2 ha hb hl2
  go_enter Tryd.func42, Tryd.ntmps42
  go_wp2_with fail
  go_loopw [5] (fun i wr => ∃ k : Nat, k ≤ n ∧ i = .int .i64 k ∧ Below w.heap.size w wr) (fun i _ => n - (intOf i).toNat)
  case atStart => exact ⟨0, Nat.zero_le _, rfl, Below.refl _ _⟩
  case round =>
    obtain ⟨k, hk, rfl, B⟩ := hrel
    by_cases hlt : k < n
    · have hz : k < zss.length := by rw [← Hn.out]; exact hlt
      obtain ⟨blk, off, cap', p, c, b, hv, hc, hr, -⟩ := Hrow.out wr B k hz
      obtain ⟨blk2, off2, cap2', p2, c2, b2, hv2, hc2, hr2, -⟩ := Hrow2.out wr B k hz
      have ha := (Value.slice.inj hv).1
      have ha2 := (Value.slice.inj hv2).1
      clear hv hv2
      subst ha ha2
      have hsm := Hsum.out k hz
      have HQ : Hid (∀ q, Calls Tryd.prog 25 #[.slice p zss[k].length c, .slice p2 zss[k].length c2] (wr.drewN q) fun e w' => e = .returned (.bool true) ∧ ∃ m, w' = (wr.drewN q).drewN m) := Lib.hid (fun q => (eqIntS_any _ _ zss[k] zss[k] b b2 (wr.drewN q) (hr.below (below_drewN (Below.refl _ _) _)) (hr2.below (below_drewN (Below.refl _ _) _)) (by omega) (by omega)).mono (by
        rintro e w' ⟨⟨r, rfl, hr⟩, m, rfl⟩
        obtain rfl : r = true := hr.2 rfl
        exact ⟨rfl, m, rfl⟩))
      obtain ⟨m, hm⟩ : ∃ m, m = (zss[k]'hz).length := ⟨_, rfl⟩
      rw [← hm] at hc hc2 HQ
      clear hr hr2 hm hsm
      go_wp2_with fail
      go_quiet ((go_at_call 25; exact Calls.quiet_of (HQ.out _)))
      go_wp2_with fail
      go_roundw
      case rel => exact ⟨k + 1, by omega, by go_num, below_drewN B _⟩
      case measure => simp [intOf]; omega
    · obtain rfl : k = n := by omega
      go_wp2_with fail
      go_ret
      exact ⟨rfl, B⟩
theorem WrRows.keepS {k : IntKind} {w w' : World} {B : Nat} {v : Value} {zss : List (List Int)} (h : WrRows k w B v zss) (hk : ∀ i, B ≤ i → i < w.heap.size → w'.heap[i]? = w.heap[i]?) (hs : w.heap.size ≤ w'.heap.size) : WrRows k w' B v zss := by
  obtain ⟨blk, cap, bf, rfl, h12, hB, hlt, hm, h3⟩ := h
  refine ⟨blk, cap, bf, rfl, h12, hB, by omega, hm, fun j hj => ?_⟩
  obtain ⟨q1, q2, q3, r, hc, hr⟩ := h3 j hj
  have e := hk blk hB hlt
  refine ⟨q1, by omega, by rw [World.frozen?_of_block (a := ⟨blk, j, none⟩) e]; exact q3, r, by rw [World.cell?_of_block (a := ⟨blk, j, none⟩) e]; exact hc, hr.keep fun _ => hk _ (by omega) q2⟩
end Go.Proofs.YtbojhbhniollaaaDoor
namespace Go.Proofs.YtbojhbhniollaaaDoor
open Go.RowKit
set_option linter.unusedVariables false
set_option linter.unusedSimpArgs false

def In (lo hi : Nat) : Nat → Prop := fun b => lo ≤ b ∧ b < hi
/-- All blocks but those of S are as they were. -/
structure Touch (S : Nat → Prop) (w w' : World) : Prop where
  os : w'.os = w.os
  tape : w'.tape = w.tape
  output : w'.output = w.output
  size : w.heap.size ≤ w'.heap.size
  block : ∀ k, k < w.heap.size → ¬ S k → w'.heap[k]? = w.heap[k]?
theorem Touch.refl (S : Nat → Prop) (w : World) : Touch S w w := ⟨rfl, rfl, rfl, Nat.le_refl _, fun _ _ _ => rfl⟩
theorem Touch.trans {S : Nat → Prop} {a b c : World} (h : Touch S a b) (k : Touch S b c) : Touch S a c :=
  ⟨k.os.trans h.os, k.tape.trans h.tape, k.output.trans h.output, Nat.le_trans h.size k.size, fun i hi hn => (k.block i (Nat.lt_of_lt_of_le hi h.size) hn).trans (h.block i hi hn)⟩
theorem Touch.mono {S T : Nat → Prop} {a b : World} (h : Touch S a b) (hs : ∀ k, S k → T k) : Touch T a b := ⟨h.os, h.tape, h.output, h.size, fun i hi hn => h.block i hi (fun e => hn (hs i e))⟩
theorem Below.touch {S : Nat → Prop} {w w' : World} (h : Below w.heap.size w w') : Touch S w w' := ⟨h.os, h.tape, h.output, h.size, fun i hi _ => h.block i hi⟩
/-- What touches blocks of the call's own leaves all that was there when it began. -/
theorem Below.thenTouch {S : Nat → Prop} {B : Nat} {w0 w w' : World} (h : Below B w0 w) (t : Touch S w w') (hB : B ≤ w.heap.size) (hS : ∀ k, S k → B ≤ k) : Below B w0 w' :=
  h.trans ⟨t.os, t.tape, t.output, t.size, fun k hk => t.block k (by omega) (fun e => by have := hS k e; omega)⟩
theorem touch_grown {w w' : World} {b : Nat} (h : w.grownBy w' (some b)) : Touch (fun k => k = b) w w' := ⟨h.os, h.tape, h.output, h.size, fun k hk hn => h.block k hk (fun e => hn (Option.some.inj e))⟩
theorem touch_heap {S : Nat → Prop} {w w' : World} (t : Touch S w w') {b : Nat} {o : Obj} (h : w.heap[b]? = some o) (hn : ¬ S b) : w'.heap[b]? = some o :=
  (t.block b (Array.getElem?_eq_some_iff.1 h).1 hn).trans h

theorem box_cell {w : World} {b : Nat} {c : Array Value} {t : TypeId} {fr : Nat × Nat} (h : w.heap[b]? = some (.cells c t fr)) (i : Nat) : w.cell? ⟨b, i, none⟩ = c[i]? := by
  simp [World.cell?, h]
theorem box_free {w : World} {b : Nat} {c : Array Value} {t : TypeId} (h : w.heap[b]? = some (.cells c t (0, 0))) (i : Nat) : w.frozen? ⟨b, i, none⟩ = false := by
  simp [World.frozen?, h]
theorem box_set {w : World} {b : Nat} {c : Array Value} {t : TypeId} {fr : Nat × Nat} (h : w.heap[b]? = some (.cells c t fr)) (i : Nat) (v : Value) : (w.setCell ⟨b, i, none⟩ v).heap[b]? = some (.cells (c.setIfInBounds i v) t fr) := by
  simp [World.setCell, Array.getElem?_modify, h]
theorem threeBoxes (w : World) (o1 o2 o3 : Obj) : (((w.alloc o1).alloc o2).alloc o3).heap[w.heap.size]? = some o1 ∧ (((w.alloc o1).alloc o2).alloc o3).heap[w.heap.size + 1]? = some o2 ∧ (((w.alloc o1).alloc o2).alloc o3).heap[w.heap.size + 2]? = some o3 := by
  refine ⟨?_, ?_, ?_⟩ <;> show (((w.heap.push o1).push o2).push o3)[_]? = _
  · rw [Array.getElem?_push, if_neg (by simp; omega), Array.getElem?_push, if_neg (by simp)]; simp
  · rw [Array.getElem?_push, if_neg (by simp), Array.getElem?_push, if_pos (by simp)]
  · rw [Array.getElem?_push, if_pos (by simp)]
def FrAt (k : IntKind) (S : Nat → Prop) (w : World) (v : Value) (zs : List Int) : Prop := ∃ b, RdAt k w v zs b ∧ (zs ≠ [] → S b)
def WrIn (k : IntKind) (S : Nat → Prop) (w : World) (v : Value) (zs : List Int) : Prop := ∃ b, WrAt k w v zs b ∧ (zs ≠ [] → S b)
theorem FrAt.touch {k : IntKind} {S T : Nat → Prop} {w w' : World} {v : Value} {zs : List Int} (h : FrAt k S w v zs) (t : Touch T w w') (hd : ∀ b, S b → ¬ T b) : FrAt k S w' v zs := by
  obtain ⟨b, hr, hs⟩ := h
  exact ⟨b, hr.keep fun hz => t.block b (hr.lt hz) (hd b (hs hz)), hs⟩
theorem WrIn.touch {k : IntKind} {S T : Nat → Prop} {w w' : World} {v : Value} {zs : List Int} (h : WrIn k S w v zs) (t : Touch T w w') (hd : ∀ b, S b → ¬ T b) : WrIn k S w' v zs := by
  obtain ⟨b, hr, hs⟩ := h
  exact ⟨b, hr.keep fun hz => t.block b (hr.rd.lt hz) (hd b (hs hz)), hs⟩
theorem WrIn.mono {k : IntKind} {S T : Nat → Prop} {w : World} {v : Value} {zs : List Int} (h : WrIn k S w v zs) (hs : ∀ b, S b → T b) : WrIn k T w v zs := by
  obtain ⟨b, hr, h2⟩ := h
  exact ⟨b, hr, fun hz => hs b (h2 hz)⟩
theorem WrIn.fr {k : IntKind} {S : Nat → Prop} {w : World} {v : Value} {zs : List Int} (h : WrIn k S w v zs) : FrAt k S w v zs := by
  obtain ⟨b, hr, h2⟩ := h; exact ⟨b, hr.rd, h2⟩
theorem WrIn.rd {k : IntKind} {S : Nat → Prop} {w : World} {v : Value} {zs : List Int} (h : WrIn k S w v zs) : ∃ b, RdAt k w v zs b := by
  obtain ⟨b, hr, h2⟩ := h; exact ⟨b, hr.rd⟩
theorem WrIn.of {k : IntKind} {lo : Nat} {w : World} {v : Value} {zs : List Int} {b : Nat} (h : WrAt k w v zs b) (hb : lo ≤ b) : WrIn k (In lo w.heap.size) w v zs := ⟨b, h, fun hz => ⟨hb, h.rd.lt hz⟩⟩
theorem WrIn.shape {k : IntKind} {S : Nat → Prop} {w : World} {v : Value} {zs : List Int} (h : WrIn k S w v zs) : ∃ p c, v = .slice p zs.length c := by
  obtain ⟨b, ⟨p, c, e, -⟩, -⟩ := h; exact ⟨p, c, e⟩
theorem RdAt.len {k : IntKind} {w : World} {v : Value} {zs : List Int} {b : Nat} (h : RdAt k w v zs b) : zs.length ≤ maxLen := by
  obtain ⟨a, cap, h1, hcap, h2⟩ := h; exact Nat.le_trans hcap.1 hcap.2.1
theorem WrAt.anyNil {k : IntKind} {w : World} {v : Value} {b : Nat} (h : WrAt k w v [] b) (b' : Nat) : WrAt k w v [] b' := by
  obtain ⟨a, cap, h1, hcap, h2, -⟩ := h; exact ⟨a, cap, h1, hcap, h2, .inl rfl⟩

/-- Slices of slices, to be written row by row: each row in a block of its own, apart from that of the heads. -/
def WrSS (k : IntKind) (S : Nat → Prop) (w : World) (v : Value) (zss : List (List Int)) : Prop :=
  ∃ (a : Option Addr) (cap : Nat), v = .slice a zss.length cap ∧ (zss.length ≤ cap ∧ cap ≤ maxLen ∧ (a = none → cap = 0)) ∧
    (zss = [] ∨ ∃ (hb off : Nat) (bf : Nat → Nat), a = some ⟨hb, off, none⟩ ∧ S hb ∧ (∀ j (hj : j < zss.length), ∃ r, w.cell? ⟨hb, off + j, none⟩ = some r ∧ WrAt k w r zss[j] (bf j) ∧ (zss[j] ≠ [] → S (bf j) ∧ bf j ≠ hb)) ∧
      ∀ i j (hi : i < zss.length) (hj : j < zss.length), i ≠ j → zss[i] ≠ [] → zss[j] ≠ [] → bf i ≠ bf j)
theorem WrSS.rd {k : IntKind} {S : Nat → Prop} {w : World} {v : Value} {zss : List (List Int)} (h : WrSS k S w v zss) : RdRows k w v zss := by
  obtain ⟨a, cap, e, hc, h3⟩ := h
  refine ⟨a, cap, e, hc, h3.imp id ?_⟩
  rintro ⟨hb, off, bf, e, -, hr, -⟩
  refine ⟨hb, off, e, fun j hj => ?_⟩
  obtain ⟨r, h1, h2, -⟩ := hr j hj
  exact ⟨r, bf j, h1, h2.rd⟩
theorem WrSS.shape {k : IntKind} {S : Nat → Prop} {w : World} {v : Value} {zss : List (List Int)} (h : WrSS k S w v zss) : ∃ p c, v = .slice p zss.length c := by
  obtain ⟨p, c, e, -⟩ := h; exact ⟨p, c, e⟩
theorem WrSS.touch {k : IntKind} {S T : Nat → Prop} {w w' : World} {v : Value} {zss : List (List Int)} (h : WrSS k S w v zss) (t : Touch T w w') (hd : ∀ b, S b → ¬ T b) : WrSS k S w' v zss := by
  obtain ⟨a, cap, e, hc, h3⟩ := h
  refine ⟨a, cap, e, hc, h3.imp id ?_⟩
  rintro ⟨hb, off, bf, e, hsb, hr, hap⟩
  refine ⟨hb, off, bf, e, hsb, fun j hj => ?_, hap⟩
  obtain ⟨r, h1, h2, h3⟩ := hr j hj
  have hlt : hb < w.heap.size := World.block_lt_of_cell? _ _ h1
  exact ⟨r, by rw [World.cell?_of_block (w := w) (a := ⟨hb, off + j, none⟩) (t.block hb hlt (hd hb hsb))]; exact h1, h2.keep fun hz => t.block _ (h2.rd.lt hz) (hd _ (h3 hz).1), h3⟩
theorem WrSS.mono {k : IntKind} {S T : Nat → Prop} {w : World} {v : Value} {zss : List (List Int)} (h : WrSS k S w v zss) (hs : ∀ b, S b → T b) : WrSS k T w v zss := by
  obtain ⟨a, cap, e, hc, h3⟩ := h
  refine ⟨a, cap, e, hc, h3.imp id ?_⟩
  rintro ⟨hb, off, bf, e, hsb, hr, hap⟩
  refine ⟨hb, off, bf, e, hs _ hsb, fun j hj => ?_, hap⟩
  obtain ⟨r, h1, h2, h3⟩ := hr j hj
  exact ⟨r, h1, h2, fun hz => ⟨hs _ (h3 hz).1, (h3 hz).2⟩⟩
/-- The helper's copy lies in blocks of its own. -/
theorem WrRows.ss {k : IntKind} {w : World} {B : Nat} {v : Value} {zss : List (List Int)} (h : WrRows k w B v zss) : WrSS k (In B w.heap.size) w v zss := by
  obtain ⟨blk, cap, bf, rfl, ⟨h1, h2⟩, hB, hlt, hm, h3⟩ := h
  refine ⟨_, cap, rfl, ⟨h1, h2, fun h => by cases h⟩, ?_⟩
  by_cases h0 : zss = []
  · exact .inl h0
  · refine .inr ⟨blk, 0, bf, rfl, ⟨hB, hlt⟩, fun j hj => ?_, fun i j hi hj hij _ _ => ?_⟩
    · obtain ⟨q1, q2, -, r, hc, hr⟩ := h3 j hj
      exact ⟨r, by rw [Nat.zero_add]; exact hc, hr, fun _ => ⟨⟨by omega, q2⟩, by omega⟩⟩
    · rcases Nat.lt_or_gt_of_ne hij with h | h
      · have := hm i j h hj; omega
      · have := hm j i h hi; omega
/-- The marks k, k + 1, .. row by row. -/
def marksII (k : Int) : List (List Int) → List (List Int)
  | [] => []
  | zs :: zss => marksI k zs.length :: marksII (k + zs.length) zss
theorem marksII_length (zss : List (List Int)) : ∀ k, (marksII k zss).length = zss.length := by
  induction zss with
  | nil => intro k; rfl
  | cons zs zss ih => intro k; simp [marksII, ih]
theorem marksII_at (zss : List (List Int)) : ∀ (k : Int) (j : Nat) (h : j < zss.length), (marksII k zss)[j]'(by rw [marksII_length]; exact h) = marksI (k + sumLen (zss.take j)) zss[j].length := by
  induction zss with
  | nil => intro k j h; simp at h
  | cons zs zss ih =>
    intro k j h
    cases j with
    | zero => simp [marksII, sumLen]
    | succ j =>
      have h' : j < zss.length := by simpa using h
      have := ih (k + zs.length) j h'
      simp only [marksII, List.getElem_cons_succ, List.take_succ_cons]
      rw [this]
      congr 1
      simp [sumLen]; omega
/-- A slice of its own is marked. -/
theorem markIn {S : Nat → Prop} {v : Value} {zs : List Int} {k : Int} {w : World} (h : WrIn .i64 S w v zs) (hl : zs.length ≤ 1099511627776) (k0 : 0 ≤ k) (k1 : k ≤ 1099511627776) :
    Calls Tryd.prog 26 #[v, .int .i64 k] w fun e w' => e = .returned (.int .i64 (k + zs.length)) ∧ WrIn .i64 S w' v (marksI k zs.length) ∧ Touch S w w' ∧ w'.heap.size = w.heap.size := by
  obtain ⟨b, hr, hs⟩ := h
  by_cases hz : zs = []
  · subst hz
    refine (markIntS_any v [] w.heap.size k w (hr.anyNil _) hl k0 k1).mono ?_
    rintro e w' ⟨he, hw, hg, hsz⟩
    exact ⟨he, ⟨_, hw, fun h => by simp [marksI] at h⟩, ⟨hg.os, hg.tape, hg.output, hg.size, fun i hi _ => hg.block i hi (fun e => by have := Option.some.inj e; omega)⟩, hsz⟩
  · refine (markIntS_any v zs b k w hr hl k0 k1).mono ?_
    rintro e w' ⟨he, hw, hg, hsz⟩
    exact ⟨he, ⟨b, hw, fun _ => hs hz⟩, (touch_grown hg).mono (fun i hi => by subst hi; exact hs hz), hsz⟩
/-- The rows up to j are marked. -/
abbrev mixI (k : Int) (zss : List (List Int)) (j : Nat) : List (List Int) := marksII k (zss.take j) ++ zss.drop j
theorem mixI_length (k : Int) (zss : List (List Int)) (j : Nat) : (mixI k zss j).length = zss.length := by unfold mixI; rw [List.length_append, marksII_length, List.length_take, List.length_drop]; omega
theorem mixI_lt (k : Int) (zss : List (List Int)) (j i : Nat) (hi : i < j) (h : i < (mixI k zss j).length) (hz : i < zss.length) : (mixI k zss j)[i] = marksI (k + sumLen (zss.take i)) zss[i].length := by
  have hl : i < (zss.take j).length := by rw [List.length_take]; omega
  rw [List.getElem_append_left (by rw [marksII_length]; exact hl), marksII_at _ _ _ hl, List.take_take, Nat.min_eq_left (by omega)]
  simp
theorem mixI_ge (k : Int) (zss : List (List Int)) (j i : Nat) (hi : j ≤ i) (h : i < (mixI k zss j).length) (hz : i < zss.length) : (mixI k zss j)[i] = zss[i] := by
  rw [List.getElem_append_right (by rw [marksII_length, List.length_take]; omega)]
  simp only [marksII_length, List.length_take, List.getElem_drop]
  congr 1
  omega
theorem mixI_all (k : Int) (zss : List (List Int)) : mixI k zss zss.length = marksII k zss := by unfold mixI; simp
set_option maxRecDepth 100000 in
set_option maxHeartbeats 1000000 in
theorem markIntSS_any {S : Nat → Prop} (v : Value) (zss : List (List Int)) (k : Int) (w : World) (h : WrSS .i64 S w v zss) (hl : zss.length ≤ 1048576) (hl2 : sumLen zss ≤ 1048576) (k0 : 0 ≤ k) (k1 : k ≤ 1099510000000) :
    Calls Tryd.prog 43 #[v, .int .i64 k] w fun e w' => e = .returned (.int .i64 (k + sumLen zss)) ∧ WrSS .i64 S w' v (marksII k zss) ∧ Touch S w w' ∧ w'.heap.size = w.heap.size := by
  obtain ⟨a, cap, rfl, hcap, h3⟩ := h
  obtain ⟨n, hn⟩ : ∃ n, n = zss.length := ⟨_, rfl⟩
  have Hn := Lib.hid hn
  have Hsum : Hid (∀ j (hj : j < zss.length), zss[j].length ≤ 1048576) := Lib.hid (fun j hj => Nat.le_trans (len_le_sum zss hj) hl2)
  have Hst : Hid (∀ j, sumLen (zss.take j) ≤ 1048576) := Lib.hid (fun j => Nat.le_trans (sumLen_take_le zss j) hl2)
  have HTk := Lib.hid (fun j (hj : j < zss.length) => sumLen_take zss j hj)
  have HAll : Hid (sumLen (zss.take n) = sumLen zss) := Lib.hid (by rw [hn, List.take_length])
  have Hcap := Lib.hid hcap
  obtain ⟨tot, htot⟩ : ∃ t, t = sumLen zss := ⟨_, rfl⟩
  rw [← htot] at HAll ⊢
  rw [← hn] at hl ⊢
  clear hn htot hl2 hcap
  rcases h3 with h0 | ⟨hb, off, bf, rfl, hsb, hrow, hap⟩
  · subst h0
    obtain rfl : n = 0 := Hn.out
    have ht : Hid (tot = 0) := Lib.hid (by rw [← HAll.out]; rfl)
    go_enter Tryd.func43, Tryd.ntmps43
    go_wp2_with fail
    refine wp_loop_rounds 1 ?_
    rw [rounds_succ]
    go_wp2_with fail
    go_ret
    exact ⟨by rw [ht.out]; simp, ⟨a, cap, rfl, Hcap.out, .inl rfl⟩, Touch.refl _ _, rfl⟩
  have Hap := Lib.hid hap
  have H0 : Hid (∀ j (hj : j < (mixI k zss 0).length), ∃ r, w.cell? ⟨hb, off + j, none⟩ = some r ∧ WrAt .i64 w r (mixI k zss 0)[j] (bf j) ∧ ((mixI k zss 0)[j] ≠ [] → S (bf j) ∧ bf j ≠ hb)) := Lib.hid (fun j hj => by
    have hz : j < zss.length := by rw [mixI_length] at hj; exact hj
    have e := mixI_ge k zss 0 j (Nat.zero_le _) hj hz
    obtain ⟨r, h1, h2, h3⟩ := hrow j hz
    exact ⟨r, h1, by rw [e]; exact h2, fun hne => h3 (by rw [e] at hne; exact hne)⟩)
  clear hrow hap
  go_enter Tryd.func43, Tryd.ntmps43
  go_wp2_with fail
  go_loopw [1, 5] (fun kv i wr => ∃ j : Nat, j ≤ n ∧ i = .int .i64 j ∧ kv = .int .i64 (k + (sumLen (zss.take j) : Nat)) ∧ Touch S w wr ∧ wr.heap.size = w.heap.size ∧ Hid (∀ i (hi : i < (mixI k zss j).length), ∃ r, wr.cell? ⟨hb, off + i, none⟩ = some r ∧ WrAt .i64 wr r (mixI k zss j)[i] (bf i) ∧ ((mixI k zss j)[i] ≠ [] → S (bf i) ∧ bf i ≠ hb))) (fun _ i _ => n - (intOf i).toNat)
  case atStart => exact ⟨0, Nat.zero_le _, rfl, by simp [sumLen], Touch.refl _ _, rfl, H0⟩
  case round =>
    clear H0
    obtain ⟨j, hj, rfl, rfl, ht, hsz, hrow⟩ := hrel
    by_cases hlt : j < n
    · have hz : j < zss.length := by rw [← Hn.out]; exact hlt
      have hzm : j < (mixI k zss j).length := by rw [mixI_length]; exact hz
      obtain ⟨r, hc, hr, hs⟩ := hrow.out j hzm
      rw [mixI_ge k zss j j (Nat.le_refl _) hzm hz] at hr hs
      obtain ⟨p, c, e, -⟩ := id hr
      subst e
      have hsm := Hsum.out j hz
      have hst := Hst.out j
      have HTj : Hid (sumLen (zss.take (j + 1)) = sumLen (zss.take j) + zss[j].length) := Lib.hid (HTk.out j hz)
      have hhb : hb < wr.heap.size := World.block_lt_of_cell? _ _ hc
      -- the row's block: its own, or none
      obtain ⟨bb, hbb, hwr, hne⟩ : ∃ bb, (zss[j] ≠ [] → bb = bf j) ∧ WrAt .i64 wr (.slice p zss[j].length c) zss[j] bb ∧ bb ≠ hb ∧ (zss[j] = [] → bb = wr.heap.size) := by
        by_cases hz0 : zss[j] = []
        · refine ⟨wr.heap.size, fun h => absurd hz0 h, ?_, by omega, fun _ => rfl⟩
          rw [hz0] at hr ⊢
          exact hr.anyNil _
        · exact ⟨bf j, fun _ => rfl, hr, (hs hz0).2, fun h => absurd h hz0⟩
      have HC := Lib.hid (markIntS_any _ zss[j] bb (k + (sumLen (zss.take j) : Nat)) wr hwr (by omega) (by omega) (by omega))
      have HN : Hid (∀ w2, wr.grownBy w2 (some bb) → WrAt .i64 w2 (.slice p zss[j].length c) (marksI (k + (sumLen (zss.take j) : Nat)) zss[j].length) bb → w2.heap.size = wr.heap.size → Touch S w w2 ∧ ∀ i (hi : i < (mixI k zss (j + 1)).length), ∃ r, w2.cell? ⟨hb, off + i, none⟩ = some r ∧ WrAt .i64 w2 r (mixI k zss (j + 1))[i] (bf i) ∧ ((mixI k zss (j + 1))[i] ≠ [] → S (bf i) ∧ bf i ≠ hb)) := Lib.hid (fun w2 hg hw2 hs2 => by
        have hblk : ∀ i, i < wr.heap.size → i ≠ bb → w2.heap[i]? = wr.heap[i]? := fun i hi hn => hg.block i hi (fun e => hn (Option.some.inj e))
        refine ⟨ht.trans ⟨hg.os, hg.tape, hg.output, hg.size, fun i hi hn => ?_⟩, fun i hi => ?_⟩
        · by_cases hz0 : zss[j] = []
          · exact hblk i hi (by have := hne.2 hz0; omega)
          · refine hblk i hi (fun e => hn ?_)
            rw [e, hbb hz0]; exact (hs hz0).1
        · have hiz : i < zss.length := by rw [mixI_length] at hi; exact hi
          have him : i < (mixI k zss j).length := by rw [mixI_length]; exact hiz
          obtain ⟨ri, hci, hri, hsi⟩ := hrow.out i him
          have hci2 : w2.cell? ⟨hb, off + i, none⟩ = some ri := by rw [World.cell?_of_block (w := wr) (a := ⟨hb, off + i, none⟩) (hblk hb hhb (by have := hne.1; omega))]; exact hci
          by_cases e : i = j
          · subst e
            have er := Option.some.inj (hci.symm.trans hc)
            subst er
            have em := mixI_lt k zss (i + 1) i (by omega) hi hiz
            refine ⟨_, hci2, ?_, fun hnn => ?_⟩
            · rw [em]
              by_cases hz0 : zss[i] = []
              · have hw3 : WrAt .i64 w2 (.slice p zss[i].length c) [] bb := by rw [hz0] at hw2; simpa [marksI, hz0] using hw2
                rw [show marksI (k + (sumLen (zss.take i) : Nat)) zss[i].length = [] by rw [hz0]; rfl]
                exact hw3.anyNil _
              · rw [← hbb hz0]; exact hw2
            · rw [em] at hnn
              exact hs (fun h0 => hnn (by rw [h0]; rfl))
          · have em : (mixI k zss (j + 1))[i] = (mixI k zss j)[i] := by
              by_cases hlt2 : i < j
              · rw [mixI_lt k zss (j + 1) i (by omega) hi hiz, mixI_lt k zss j i hlt2 him hiz]
              · rw [mixI_ge k zss (j + 1) i (by omega) hi hiz, mixI_ge k zss j i (by omega) him hiz]
            rw [em]
            refine ⟨ri, hci2, hri.keep fun hzi => hblk _ (hri.rd.lt hzi) ?_, hsi⟩
            by_cases hz0 : zss[j] = []
            · have := hne.2 hz0; have := hri.rd.lt hzi; omega
            · rw [hbb hz0]
              refine Hap.out i j hiz hz e (fun h0 => hzi ?_) hz0
              by_cases hlt2 : i < j
              · rw [mixI_lt k zss j i hlt2 him hiz, h0]; rfl
              · rw [mixI_ge k zss j i (by omega) him hiz]; exact h0)
      have hap2 := Lib.hid ht
      clear hr hs hwr hne hbb hrow ht
      obtain ⟨m, hm⟩ : ∃ m, m = zss[j].length := ⟨_, rfl⟩
      obtain ⟨s, hs⟩ : ∃ s, s = sumLen (zss.take j) := ⟨_, rfl⟩
      rw [← hm, ← hs] at HC HN
      rw [← hm] at hc hsm
      rw [← hs] at hst ⊢
      rw [← hm, ← hs] at HTj
      clear hm hs
      go_wp2_with fail
      refine HC.out.mono ?_
      rintro e w2 ⟨rfl, hw2, hg, hs2⟩
      obtain ⟨n1, n2⟩ := HN.out w2 hg hw2 hs2
      have hn2 := Lib.hid n2
      clear hw2 hg n2
      go_wp2_with fail
      go_roundw
      case rel => exact ⟨j + 1, by omega, by go_num, by rw [HTj.out]; go_num, n1, by omega, hn2⟩
      case measure => simp [intOf]; omega
    · obtain rfl : j = n := by omega
      rw [HAll.out]
      have hfin : Hid (WrSS .i64 S wr (.slice (some ⟨hb, off, none⟩) j cap) (marksII k zss)) := Lib.hid (by
        rw [← mixI_all k zss, ← Hn.out]
        refine ⟨_, cap, by rw [mixI_length, ← Hn.out], by rw [mixI_length]; exact Hcap.out, .inr ⟨hb, off, bf, rfl, hsb, hrow.out, fun i j' hi hj' hij hi0 hj0 => ?_⟩⟩
        have hiz : i < zss.length := by rw [mixI_length] at hi; exact hi
        have hjz : j' < zss.length := by rw [mixI_length] at hj'; exact hj'
        have l1 := Hn.out
        refine Hap.out i j' hiz hjz hij (fun h0 => hi0 ?_) (fun h0 => hj0 ?_)
        · rw [mixI_lt k zss j i (by omega) hi hiz, h0]; rfl
        · rw [mixI_lt k zss j j' (by omega) hj' hjz, h0]; rfl)
      clear hrow
      go_wp2_with fail
      go_ret
      exact ⟨rfl, hfin.out, ht, hsz⟩
end Go.Proofs.YtbojhbhniollaaaDoor
namespace Go.Proofs.YtbojhbhniollaaaDoor
open Go.RowKit
theorem WrAt.touchS {k : IntKind} {S : Nat → Prop} {w w' : World} {v : Value} {zs : List Int} {b : Nat} (h : WrAt k w v zs b) (t : Touch S w w') (hn : zs ≠ [] → ¬ S b) : WrAt k w' v zs b :=
  h.keep fun hz => t.block b (h.rd.lt hz) (hn hz)
set_option maxRecDepth 100000 in
set_option maxHeartbeats 1000000 in
theorem heldIntSS_q (v : Value) (zss : List (List Int)) (k : Int) (w : World) (h : RdRows .i64 w v (marksII k zss)) (hl : zss.length ≤ 1048576) (hl2 : sumLen zss ≤ 1048576) (k0 : 0 ≤ k) (k1 : k ≤ 1099510000000) :
    Calls Tryd.prog 48 #[v, .int .i64 k] w fun e w' => e = .returned (.int .i64 (k + sumLen zss)) ∧ w = w' := by
  have hrow := fun j (hj : j < (marksII k zss).length) => h.row hj
  obtain ⟨a, cap, rfl, -, -⟩ := id h
  rw [marksII_length]
  obtain ⟨n, hn⟩ : ∃ n, n = zss.length := ⟨_, rfl⟩
  have Hn := Lib.hid hn
  have Hrow : Hid (∀ j (hj : j < zss.length), ∃ (blk off cap' : Nat) (p : Option Addr) (c b : Nat), a = some ⟨blk, off, none⟩ ∧ w.cell? ⟨blk, off + j, none⟩ = some (.slice p zss[j].length c) ∧ RdAt .i64 w (.slice p zss[j].length c) (marksI (k + sumLen (zss.take j)) zss[j].length) b) := Lib.hid (fun j hj => by
    obtain ⟨blk, off, cap', p, c, b, hv, hc, hr, -⟩ := hrow j (by rw [marksII_length]; exact hj)
    have ha := (Value.slice.inj hv).1
    have hml : ((marksII k zss)[j]'(by rw [marksII_length]; exact hj)).length = zss[j].length := by rw [marksII_at zss k j hj, marksI_length]
    rw [hml] at hc hr
    rw [marksII_at zss k j hj] at hr
    exact ⟨blk, off, cap', p, c, b, ha, hc, hr⟩)
  have Hsum : Hid (∀ j (hj : j < zss.length), zss[j].length ≤ 1048576) := Lib.hid (fun j hj => Nat.le_trans (len_le_sum zss hj) hl2)
  have Hst : Hid (∀ j, sumLen (zss.take j) ≤ 1048576) := Lib.hid (fun j => Nat.le_trans (sumLen_take_le zss j) hl2)
  have HTk := Lib.hid (fun j (hj : j < zss.length) => sumLen_take zss j hj)
  have HAll : Hid (sumLen (zss.take n) = sumLen zss) := Lib.hid (by rw [hn, List.take_length])
  obtain ⟨tot, htot⟩ : ∃ t, t = sumLen zss := ⟨_, rfl⟩
  rw [← htot] at HAll ⊢
  rw [← hn] at hl ⊢
  clear hn hrow h htot hl2
  go_enter Tryd.func48, Tryd.ntmps48
  go_wp2_with fail
  go_loop [1, 5] (fun kv i => ∃ j : Nat, j ≤ n ∧ i = .int .i64 j ∧ kv = .int .i64 (k + (sumLen (zss.take j) : Nat))) (fun _ i => n - (intOf i).toNat)
  case atStart => exact ⟨0, Nat.zero_le _, rfl, by simp [sumLen]⟩
  case round =>
    obtain ⟨j, hj, rfl, rfl⟩ := hrel
    by_cases hlt : j < n
    · have hz : j < zss.length := by rw [← Hn.out]; exact hlt
      obtain ⟨blk, off, cap', p, c, b, rfl, hc, hr⟩ := Hrow.out j hz
      have hsm := Hsum.out j hz
      have hst := Hst.out j
      have HTj : Hid (sumLen (zss.take (j + 1)) = sumLen (zss.take j) + zss[j].length) := Lib.hid (HTk.out j hz)
      have HC := Lib.hid (heldIntS_any _ b (k + (sumLen (zss.take j) : Nat)) (zss[j]'hz).length w hr (by omega) (by omega) (by omega))
      obtain ⟨m, hm⟩ : ∃ m, m = zss[j].length := ⟨_, rfl⟩
      obtain ⟨s, hs⟩ : ∃ s, s = sumLen (zss.take j) := ⟨_, rfl⟩
      rw [← hm, ← hs] at HC HTj
      rw [← hm] at hc hsm
      rw [← hs] at hst ⊢
      clear hm hs hr
      go_wp2_with fail
      refine HC.out.mono ?_
      rintro e _w ⟨rfl, rfl⟩
      go_wp2_with fail
      go_round
      case rel => exact ⟨j + 1, by omega, by go_num, by rw [HTj.out]; go_num⟩
      case measure => simp [intOf]; omega
    · obtain rfl : j = n := by omega
      rw [HAll.out]
      go_wp2_with fail
      go_ret
      exact ⟨rfl, rfl⟩
theorem heldIntSS_any (v : Value) (zss : List (List Int)) (k : Int) (w : World) (h : RdRows .i64 w v (marksII k zss)) (hl : zss.length ≤ 1048576) (hl2 : sumLen zss ≤ 1048576) (k0 : 0 ≤ k) (k1 : k ≤ 1099510000000) :
    Calls Tryd.prog 48 #[v, .int .i64 k] w fun e w' => e = .returned (.int .i64 (k + sumLen zss)) ∧ Below w.heap.size w w' :=
  (heldIntSS_q v zss k w h hl hl2 k0 k1).mono fun e w' ⟨he, hw⟩ => ⟨he, by subst hw; exact Below.refl _ _⟩
end Go.Proofs.YtbojhbhniollaaaDoor
namespace Go.Proofs.YtbojhbhniollaaaDoor
open Go.RowKit
theorem below_setRow {B g : Nat} {w0 w : World} (hb : Below B w0 w) (hBg : B ≤ g) (cs : Array Value) : Below B w0 (w.setRow g cs) :=
  ⟨hb.os, hb.tape, hb.output, by rw [setRow_size]; exact hb.size, fun k hk => (setRow_other w g k cs (by omega)).trans (hb.block k hk)⟩
end Go.Proofs.YtbojhbhniollaaaDoor
