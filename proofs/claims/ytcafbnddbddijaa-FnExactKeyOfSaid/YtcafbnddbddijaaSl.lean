/-
  Slices of integers in memory: what can be read, what may be written, and the lists of marks. No program in this text.
-/
import Derived.WalkKit
import Derived.WalkLawsBesides
import Derived.WalkSpells
import Derived.OpenShut
import Derived.WalkSmall
import Derived.Lib.Hide
import Derived.Laws.AppendOwnNone
namespace Go.Proofs.Ytcafbnddbddijaa
open Go.RowKit
set_option linter.unusedVariables false
set_option linter.unusedSimpArgs false

/-- The value v is a slice of the numbers zs of kind k, all of them readable, in block b (whatever b is, where there are none). -/
def RdAt (k : IntKind) (w : World) (v : Value) (zs : List Int) (b : Nat) : Prop :=
  ∃ (a : Option Addr) (cap : Nat), v = .slice a zs.length cap ∧ (zs.length ≤ cap ∧ cap ≤ maxLen ∧ (a = none → cap = 0)) ∧ (∀ n ∈ zs, (Lit.int k n).wf = true) ∧
    (zs = [] ∨ ∃ off, a = some ⟨b, off, none⟩ ∧ ∀ j (hj : j < zs.length), w.cell? ⟨b, off + j, none⟩ = some (.int k zs[j]))
/-- .. and may be written. -/
def WrAt (k : IntKind) (w : World) (v : Value) (zs : List Int) (b : Nat) : Prop :=
  ∃ (a : Option Addr) (cap : Nat), v = .slice a zs.length cap ∧ (zs.length ≤ cap ∧ cap ≤ maxLen ∧ (a = none → cap = 0)) ∧ (∀ n ∈ zs, (Lit.int k n).wf = true) ∧
    (zs = [] ∨ ∃ off, a = some ⟨b, off, none⟩ ∧ (∀ j (hj : j < zs.length), w.cell? ⟨b, off + j, none⟩ = some (.int k zs[j])) ∧ ∀ j, j < zs.length → w.frozen? ⟨b, off + j, none⟩ = false)

theorem WrAt.rd {k : IntKind} {w : World} {v : Value} {zs : List Int} {b : Nat} (h : WrAt k w v zs b) : RdAt k w v zs b := by
  obtain ⟨a, cap, h1, hcap, h2, h3⟩ := h
  refine ⟨a, cap, h1, hcap, h2, ?_⟩
  rcases h3 with h3 | ⟨off, h4, h5, _⟩
  · exact .inl h3
  · exact .inr ⟨off, h4, h5⟩
theorem RdAt.wf {k : IntKind} {w : World} {v : Value} {zs : List Int} {b : Nat} (h : RdAt k w v zs b) : ∀ n ∈ zs, (Lit.int k n).wf = true := by
  obtain ⟨a, cap, h1, hcap, h2, h3⟩ := h; exact h2
theorem RdAt.lt {k : IntKind} {w : World} {v : Value} {zs : List Int} {b : Nat} (h : RdAt k w v zs b) (hz : zs ≠ []) : b < w.heap.size := by
  obtain ⟨a, cap, h1, hcap, h2, h3⟩ := h
  rcases h3 with h3 | ⟨off, h4, h5⟩
  · exact absurd h3 hz
  · have : 0 < zs.length := List.length_pos_iff.2 hz
    exact World.block_lt_of_cell? _ _ (h5 0 this)
/-- What is read stays as it is where its block does. -/
theorem RdAt.keep {k : IntKind} {w w' : World} {v : Value} {zs : List Int} {b : Nat} (h : RdAt k w v zs b) (hb : zs ≠ [] → w'.heap[b]? = w.heap[b]?) : RdAt k w' v zs b := by
  obtain ⟨a, cap, h1, hcap, h2, h3⟩ := h
  refine ⟨a, cap, h1, hcap, h2, ?_⟩
  rcases h3 with h3 | ⟨off, h4, h5⟩
  · exact .inl h3
  · refine .inr ⟨off, h4, fun j hj => ?_⟩
    have hz : zs ≠ [] := by intro e; rw [e] at hj; simp at hj
    rw [World.cell?_of_block (w := w) (a := ⟨b, off + j, none⟩) (hb hz)]; exact h5 j hj
theorem WrAt.keep {k : IntKind} {w w' : World} {v : Value} {zs : List Int} {b : Nat} (h : WrAt k w v zs b) (hb : zs ≠ [] → w'.heap[b]? = w.heap[b]?) : WrAt k w' v zs b := by
  obtain ⟨a, cap, h1, hcap, h2, h3⟩ := h
  refine ⟨a, cap, h1, hcap, h2, ?_⟩
  rcases h3 with h3 | ⟨off, h4, h5, h6⟩
  · exact .inl h3
  · refine .inr ⟨off, h4, fun j hj => ?_, fun j hj => ?_⟩
    · have hz : zs ≠ [] := by intro e; rw [e] at hj; simp at hj
      rw [World.cell?_of_block (w := w) (a := ⟨b, off + j, none⟩) (hb hz)]; exact h5 j hj
    · have hz : zs ≠ [] := by intro e; rw [e] at hj; simp at hj
      rw [World.frozen?_of_block (w := w) (a := ⟨b, off + j, none⟩) (hb hz)]; exact h6 j hj
theorem RdAt.below {k : IntKind} {w w' : World} {v : Value} {zs : List Int} {b : Nat} (h : RdAt k w v zs b) (hb : Below w.heap.size w w') : RdAt k w' v zs b :=
  h.keep fun hz => hb.block b (h.lt hz)
theorem WrAt.below {k : IntKind} {w w' : World} {v : Value} {zs : List Int} {b : Nat} (h : WrAt k w v zs b) (hb : Below w.heap.size w w') : WrAt k w' v zs b :=
  h.keep fun hz => hb.block b (h.rd.lt hz)
theorem RdAt.grown {k : IntKind} {w w' : World} {v : Value} {zs : List Int} {b c : Nat} (h : RdAt k w v zs b) (hg : w.grownBy w' (some c)) (hne : b ≠ c) : RdAt k w' v zs b :=
  h.keep fun hz => hg.block b (h.lt hz) (fun e => hne (Option.some.inj e))
theorem WrAt.grown {k : IntKind} {w w' : World} {v : Value} {zs : List Int} {b c : Nat} (h : WrAt k w v zs b) (hg : w.grownBy w' (some c)) (hne : b ≠ c) : WrAt k w' v zs b :=
  h.keep fun hz => hg.block b (h.rd.lt hz) (fun e => hne (Option.some.inj e))

/-- The marks k, k + 1, .. n of them: as bytes, as ints. -/
def marksB (k : Int) (n : Nat) : List Int := (List.range n).map fun (i : Nat) => (k + (i : Int)) % 256
def marksI (k : Int) (n : Nat) : List Int := (List.range n).map fun (i : Nat) => k + (i : Int)
theorem marksB_length (k : Int) (n : Nat) : (marksB k n).length = n := by simp [marksB]
theorem marksI_length (k : Int) (n : Nat) : (marksI k n).length = n := by simp [marksI]
theorem marksB_at (k : Int) (n j : Nat) (h : j < (marksB k n).length) : (marksB k n)[j] = (k + (j : Int)) % 256 := by simp [marksB]
theorem marksI_at (k : Int) (n j : Nat) (h : j < (marksI k n).length) : (marksI k n)[j] = k + (j : Int) := by simp [marksI]

theorem list_eq_of {a b : List Int} (hl : a.length = b.length) (h : ∀ j (ha : j < a.length) (hb : j < b.length), a[j] = b[j]) : a = b := List.ext_getElem hl h
theorem list_ne_of {a b : List Int} {j : Nat} (ha : j < a.length) (hb : j < b.length) (h : a[j] ≠ b[j]) : a ≠ b := fun e => h (by subst e; rfl)

theorem grown_store {w0 w : World} {b : Nat} (h : w0.grownBy w (some b)) (a : Addr) (ha : a.block = b) (v : Value) : w0.grownBy (w.setCell a v) (some b) :=
  ⟨h.os, h.tape, h.output, by simp [World.setCell]; exact h.size, fun k hk hne => by rw [Below.heap_setCell _ _ _ _ (fun e => hne (by rw [e, ha]))]; exact h.block k hk hne⟩

/-- The cells of block b from off on hold the numbers zs. -/
def Cells (k : IntKind) (w : World) (b off : Nat) (zs : List Int) : Prop := ∀ j (hj : j < zs.length), w.cell? ⟨b, off + j, none⟩ = some (.int k zs[j])
def Free (w : World) (b off n : Nat) : Prop := ∀ j, j < n → w.frozen? ⟨b, off + j, none⟩ = false
theorem Cells.store {k : IntKind} {w : World} {b off : Nat} {zs : List Int} (h : Cells k w b off zs) {j : Nat} (hj : j < zs.length) (y : Int) : Cells k (w.setCell ⟨b, off + j, none⟩ (.int k y)) b off (zs.set j y) := by
  intro i hi
  have hi' : i < zs.length := by simpa using hi
  by_cases e : i = j
  · subst e
    rw [World.cell?_setCell_same _ _ _ (h i hi')]
    simp
  · rw [World.cell?_setCell_other _ _ _ _ (by intro e2; simp at e2), h i hi']
    simp [show ¬ j = i by omega]
theorem Free.store {w : World} {b off n : Nat} (h : Free w b off n) (a : Addr) (v : Value) : Free (w.setCell a v) b off n := by
  intro j hj
  rw [World.frozen?_setCell]; exact h j hj
theorem WrAt.of {k : IntKind} {w : World} {b off : Nat} {zs : List Int} (cap : Nat) (hcap : zs.length ≤ cap ∧ cap ≤ maxLen) (hw : ∀ n ∈ zs, (Lit.int k n).wf = true) (h : Cells k w b off zs) (hf : Free w b off zs.length) : WrAt k w (.slice (some ⟨b, off, none⟩) zs.length cap) zs b :=
  ⟨_, _, rfl, ⟨hcap.1, hcap.2, fun h => by cases h⟩, hw, .inr ⟨off, rfl, h, hf⟩⟩
/-- A writable slice, opened: empty, or a row of cells. -/
theorem WrAt.open {k : IntKind} {w : World} {v : Value} {zs : List Int} {b : Nat} (h : WrAt k w v zs b) : (zs = [] ∧ ∃ a cap, v = .slice a 0 cap ∧ cap ≤ maxLen ∧ (a = none → cap = 0)) ∨ (zs ≠ [] ∧ ∃ off cap, v = .slice (some ⟨b, off, none⟩) zs.length cap ∧ (zs.length ≤ cap ∧ cap ≤ maxLen) ∧ Cells k w b off zs ∧ Free w b off zs.length) := by
  obtain ⟨a, cap, h1, hcap, h2, h3⟩ := h
  by_cases hz : zs = []
  · subst hz; exact .inl ⟨rfl, a, cap, h1, hcap.2⟩
  · rcases h3 with h3 | ⟨off, rfl, h5, h6⟩
    · exact absurd h3 hz
    · exact .inr ⟨hz, off, cap, h1, ⟨hcap.1, hcap.2.1⟩, h5, h6⟩
theorem RdAt.open {k : IntKind} {w : World} {v : Value} {zs : List Int} {b : Nat} (h : RdAt k w v zs b) : (zs = [] ∧ ∃ a cap, v = .slice a 0 cap ∧ cap ≤ maxLen ∧ (a = none → cap = 0)) ∨ (zs ≠ [] ∧ ∃ off cap, v = .slice (some ⟨b, off, none⟩) zs.length cap ∧ (zs.length ≤ cap ∧ cap ≤ maxLen) ∧ Cells k w b off zs) := by
  obtain ⟨a, cap, h1, hcap, h2, h3⟩ := h
  by_cases hz : zs = []
  · subst hz; exact .inl ⟨rfl, a, cap, h1, hcap.2⟩
  · rcases h3 with h3 | ⟨off, rfl, h5⟩
    · exact absurd h3 hz
    · exact .inr ⟨hz, off, cap, h1, ⟨hcap.1, hcap.2.1⟩, h5⟩
theorem WrAt.nil (k : IntKind) (w : World) (a : Option Addr) (cap b : Nat) (h : cap ≤ maxLen ∧ (a = none → cap = 0)) : WrAt k w (.slice a 0 cap) [] b := ⟨a, cap, rfl, ⟨Nat.zero_le _, h⟩, by simp, .inl rfl⟩

theorem marksB_wf (k : Int) (n : Nat) : ∀ x ∈ marksB k n, (Lit.int .u8 x).wf = true := by
  intro x hx
  simp only [marksB, List.mem_map] at hx
  obtain ⟨i, _, rfl⟩ := hx
  have h0 : 0 ≤ (k + (i : Int)) % 256 := Int.emod_nonneg _ (by omega)
  have h1 : (k + (i : Int)) % 256 < 256 := Int.emod_lt_of_pos _ (by omega)
  simp [Lit.wf, IntKind.min, IntKind.max, IntKind.signed, IntKind.bits]
  omega
theorem marksI_wf (k : Int) (n : Nat) (h0 : 0 ≤ k) (h1 : k + n ≤ 9223372036854775807) : ∀ x ∈ marksI k n, (Lit.int .i64 x).wf = true := by
  intro x hx
  simp only [marksI, List.mem_map, List.mem_range] at hx
  obtain ⟨i, hi, rfl⟩ := hx
  exact WalkArith.wf_i64 (by omega)
/-- One mark more. -/
theorem marks_step {f : Int → Nat → List Int} {g : Nat → Int} {k : Int} (hf : ∀ n, f k n = (List.range n).map g) {zs : List Int} {j : Nat} (hj : j < zs.length) : (f k j ++ zs.drop j).set j (g j) = f k (j + 1) ++ zs.drop (j + 1) := by
  have hl : (f k j).length = j := by rw [hf]; simp
  rw [List.set_append_right _ _ (by omega), hl, Nat.sub_self, hf (j + 1), List.range_succ, List.map_append, ← hf j, List.append_assoc]
  congr 1
  have e : zs.drop j = zs[j] :: zs.drop (j + 1) := List.drop_eq_getElem_cons hj
  rw [e]
  rfl
theorem marks_len {f : Int → Nat → List Int} {g : Nat → Int} {k : Int} (hf : ∀ n, f k n = (List.range n).map g) {zs : List Int} {j : Nat} (hj : j ≤ zs.length) : (f k j ++ zs.drop j).length = zs.length := by
  rw [hf]; simp; omega

/-- What is read stays as it is where another block is written. -/
theorem RdAt.apart {k : IntKind} {w w' : World} {v : Value} {zs : List Int} {b c : Nat} (h : RdAt k w v zs b) (hg : w.grownBy w' (some c)) (hne : zs ≠ [] → b ≠ c) : RdAt k w' v zs b :=
  h.keep fun hz => hg.block b (h.lt hz) (fun e => hne hz (Option.some.inj e))
theorem WrAt.apart {k : IntKind} {w w' : World} {v : Value} {zs : List Int} {b c : Nat} (h : WrAt k w v zs b) (hg : w.grownBy w' (some c)) (hne : zs ≠ [] → b ≠ c) : WrAt k w' v zs b :=
  h.keep fun hz => hg.block b (h.rd.lt hz) (fun e => hne hz (Option.some.inj e))
/-- What touches one block of the call's own leaves all that was there when it began. -/
theorem below_touch {w0 w w' : World} {c : Nat} (h : Below w0.heap.size w0 w) (hg : w.grownBy w' (some c)) (hc : w0.heap.size ≤ c) : Below w0.heap.size w0 w' :=
  h.trans ⟨hg.os, hg.tape, hg.output, hg.size, fun k hk => hg.block k (Nat.lt_of_lt_of_le hk h.size) (fun e => by have := Option.some.inj e; omega)⟩
/-- What the call owns can be read and written, in a block of the call's own. -/
theorem own_wr {k : IntKind} {w : World} {B : Nat} {E : TypeId} {v : Value} {zs : List Int} (h : w.ownsRow B E 1 v zs.length (zs.map (Value.int k))) (hw : ∀ n ∈ zs, (Lit.int k n).wf = true) : ∃ b, B ≤ b ∧ WrAt k w v zs b := by
  obtain ⟨h1, h2⟩ := h
  rcases h2 with ⟨rfl, h0⟩ | ⟨g, cap, cur, rfl, hg, hh, hnc, hcm, hcs, htake⟩
  · have : zs = [] := List.length_eq_zero_iff.1 h0
    subst this
    exact ⟨B, Nat.le_refl _, none, 0, rfl, ⟨Nat.le_refl _, Nat.zero_le _, fun _ => rfl⟩, by simp, .inl rfl⟩
  · have hown : w.ownsRow B E 1 (.slice (some ⟨g, 0, none⟩) zs.length cap) zs.length (zs.map (Value.int k)) := ⟨h1, .inr ⟨g, cap, cur, rfl, hg, hh, hnc, hcm, hcs, htake⟩⟩
    refine ⟨g, hg, some ⟨g, 0, none⟩, cap, rfl, ⟨hnc, hcm, fun h => by cases h⟩, hw, .inr ⟨0, rfl, fun j hj => ?_, fun j _ => ?_⟩⟩
    · rw [Nat.zero_add, hown.cellAt j (by omega)]; simp [hj]
    · rw [Nat.zero_add]; exact hown.frozenAt j
theorem own_block {w : World} {B : Nat} {E : TypeId} {size n : Nat} {v : Value} {xs : List Value} (h : w.ownsRow B E size v n xs) : ∀ k, v.ownBlock = some k → B ≤ k := by
  intro k hk
  rcases h.2 with ⟨rfl, _⟩ | ⟨g, cap, cur, rfl, hg, _⟩
  · simp [Value.ownBlock] at hk
  · simp [Value.ownBlock] at hk; omega
/-- One number appended to what the call owns. -/
theorem own_snoc {k : IntKind} {w : World} {B : Nat} {E : TypeId} {v : Value} {F : List Int} {y : Int} (h : w.ownsRow B E 1 v (F.length + 1) (F.map (Value.int k) ++ [.int k y])) : w.ownsRow B E 1 v (F ++ [y]).length ((F ++ [y]).map (Value.int k)) := by
  rw [List.length_append, List.map_append]; exact h

/-- A slice of integers that came in: nil, or a row of 'cap' cells, the numbers 'zs', each fitting its kind. -/
def IsRow (k : IntKind) (w : World) (a : Option Addr) (len cap : Nat) (zs : List Int) : Prop :=
  (a = none ∧ len = 0 ∧ cap = 0 ∧ zs = []) ∨
  ∃ x, a = some x ∧ len ≤ cap ∧ cap ≤ maxLen ∧ zs.length = cap ∧ (∀ i, i < zs.length → w.cell? (x.add i) = some (.int k (zs.getD i 0))) ∧ ∀ n ∈ zs, (Lit.int k n).wf = true
theorem IsRow.rd {k : IntKind} {w : World} {a : Option Addr} {len cap : Nat} {zs : List Int} (h : IsRow k w a len cap zs) : ∃ b, RdAt k w (.slice a len cap) (zs.take len) b ∧ b < w.heap.size + 1 := by
  rcases h with ⟨rfl, rfl, rfl, rfl⟩ | ⟨x, rfl, h1, h2, h3, h4, h5⟩
  · exact ⟨0, ⟨none, 0, rfl, ⟨Nat.le_refl _, Nat.zero_le _, fun _ => rfl⟩, by simp, .inl rfl⟩, by omega⟩
  · have hl : (zs.take len).length = len := by rw [List.length_take]; omega
    by_cases h0 : len = 0
    · subst h0
      exact ⟨0, ⟨some x, cap, by simp, ⟨by simp, h2, fun h => by cases h⟩, by simp, .inl (by simp)⟩, by omega⟩
    · obtain ⟨b, off, spot⟩ := x
      have hc := h4 0 (by omega)
      have hspot : spot = none := by simpa [Addr.add] using World.cell?_spot hc
      subst hspot
      have hlt : b < w.heap.size := by
        have := World.block_lt_of_cell? _ _ hc
        simpa [Addr.add] using this
      refine ⟨b, ⟨some ⟨b, off, none⟩, cap, by rw [hl], ⟨by rw [hl]; exact h1, h2, fun h => by cases h⟩, fun n hn => h5 n (List.mem_of_mem_take hn), .inr ⟨off, rfl, fun j hj => ?_⟩⟩, by omega⟩
      have hj1 : j < len := by rw [hl] at hj; exact hj
      have hcj := h4 j (by omega)
      have e : (⟨b, off, none⟩ : Addr).add j = ⟨b, off + j, none⟩ := by simp [Addr.add]
      rw [e] at hcj
      rw [hcj]
      simp [List.getD, show j < zs.length by omega]

/-- The first k of a slice. -/
theorem RdAt.take {k : IntKind} {w : World} {b off cap : Nat} {zs : List Int} (hcap : zs.length ≤ cap ∧ cap ≤ maxLen) (hw : ∀ n ∈ zs, (Lit.int k n).wf = true) (h : Cells k w b off zs) (m : Nat) (hm : m ≤ zs.length) : RdAt k w (.slice (some ⟨b, off, none⟩) m cap) (zs.take m) b := by
  have hl : (zs.take m).length = m := by rw [List.length_take]; omega
  refine ⟨_, _, by rw [hl], ⟨by omega, hcap.2, fun h => by cases h⟩, fun n hn => hw n (List.mem_of_mem_take hn), .inr ⟨off, rfl, fun j hj => ?_⟩⟩
  rw [hl] at hj
  rw [h j (by omega)]
  simp

/-- A contract that leaves the world, as the walk of a drawn region wants it. -/
theorem flip_same {P : Program} {f : FuncId} {args : Array Value} {w : World} {v u : Value} (h : Calls P f args w fun e w' => e = .returned v ∧ w = w') (hv : v = u) : Calls P f args w fun e w' => e = .returned u ∧ w' = w :=
  h.mono fun _ _ ⟨h1, h2⟩ => ⟨by rw [h1, hv], h2.symm⟩

/-- 'append(out, b...)': out the call's own, b a slice that can be read: nil, empty or not. -/
theorem wpList_append_rd {P : Program} (w : World) {ops : Array Oper} {rest : List Oper} {o : Oper} {a : Act} {Q : Exit → Act → World → Prop} (hgd : o.guard = none) (s x : Operand) (t : TypeId)
    (ho : o.op = .call { callee := .builtin .append, args := #[s, x], argTypes := #[t, t] })
    (base : Nat) (e : TypeId) (i : TypeInfo) (z : Value) (bytes : Nat) (ht : P.underlying t = some (.slice e)) (hi : P.info? e = some i) (hz : i.zero = some z)
    (hsize : i.size = 1) (hby : i.bytes = bytes) (hzs : z.cells.size = 1)
    (v : Value) (n : Nat) (xs : List Value) (hs : a.eval s = v) (hown : w.ownsRow base e 1 v n xs)
    (k : IntKind) (vx : Value) (zs : List Int) (b : Nat) (hx : a.eval x = vx) (hr : RdAt k w vx zs b)
    (h63 : n + zs.length ≤ maxLen) (hbytes : (n + zs.length) * bytes ≤ 140737488355328) (hbase : base ≤ w.heap.size)
    (h : ∀ v' w', w'.ownsRow base e 1 v' (n + zs.length) (xs ++ zs.map (Value.int k)) → w.grownBy w' v.ownBlock → wpList P ops Q rest (a.put o.dst v') w') : wpList P ops Q (o :: rest) a w := by
  have one : ∀ u ∈ zs.map (Value.int k), u.oneCell' = true := by
    intro u hu; simp at hu; obtain ⟨y, _, rfl⟩ := hu; rfl
  rcases hr.open with ⟨rfl, ad, cap, rfl, hcm, hnil⟩ | ⟨hne, off, cap, rfl, hcap, hc⟩
  · cases ad with
    | none =>
      have hc0 := hnil rfl
      subst hc0
      refine wpList_append_own_none hgd s x t ho base e i 1 ht hi v n xs hs hown hx ?_
      refine h v w ?_ ⟨rfl, rfl, rfl, Nat.le_refl _, fun _ _ _ => rfl⟩
      simpa using hown
    | some ad =>
      refine wpList_append_own w hgd s x t ho base e i z 1 bytes ht hi hz hsize hby hzs (by decide) v n xs hs hown ad 0 cap [] hx rfl (by simp) (by simp) (by simpa using h63) (by simpa using hbytes) hbase fun v' w' h1 h2 _ => h v' w' (by simpa using h1) h2
  · refine wpList_append_own w hgd s x t ho base e i z 1 bytes ht hi hz hsize hby hzs (by decide) v n xs hs hown ⟨b, off, none⟩ zs.length cap (zs.map (Value.int k)) hx (by simp) (fun j u hu => ?_) one h63 hbytes hbase fun v' w' h1 h2 _ => h v' w' h1 h2
    have hj : j < zs.length := by have := (List.getElem?_eq_some_iff.1 hu).1; simpa using this
    have e2 : (⟨b, off, none⟩ : Addr).add j = ⟨b, off + j, none⟩ := by simp [Addr.add]
    rw [e2, hc j hj]
    simpa [hj] using hu
/-- What a call owns, grown by a list of numbers. -/
theorem own_app {k : IntKind} {w : World} {B : Nat} {E : TypeId} {v : Value} {F zs : List Int} (h : w.ownsRow B E 1 v (F.length + zs.length) (F.map (Value.int k) ++ zs.map (Value.int k))) : w.ownsRow B E 1 v (F ++ zs).length ((F ++ zs).map (Value.int k)) := by
  rw [List.length_append, List.map_append]; exact h

theorem one_cell (k : IntKind) (y : Int) : ∀ u ∈ [Value.int k y], u.oneCell' = true := by
  intro u hu; simp at hu; subst hu; rfl
theorem own_shape {w : World} {B : Nat} {E : TypeId} {size n : Nat} {v : Value} {xs : List Value} (h : w.ownsRow B E size v n xs) : ∃ a cap, v = .slice a n cap := by
  rcases h.2 with ⟨rfl, h0⟩ | ⟨g, cap, cur, rfl, _⟩
  · exact ⟨none, 0, by rw [h0]⟩
  · exact ⟨_, cap, rfl⟩
theorem own_below {w w' : World} {B : Nat} {E : TypeId} {size n : Nat} {v : Value} {xs : List Value} (h : w.ownsRow B E size v n xs) (hb : Below w.heap.size w w') : w'.ownsRow B E size v n xs :=
  h.kept (row := none) ⟨hb.os, hb.tape, hb.output, hb.size, fun k hk _ => hb.block k hk⟩ (Classical.em _)
end Go.Proofs.Ytcafbnddbddijaa
