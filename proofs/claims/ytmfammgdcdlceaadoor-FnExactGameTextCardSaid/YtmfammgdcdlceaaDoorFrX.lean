/-
  Slices of slices found marked; loads and stores of whole structs as rows; small words for the walks over struct results.
-/
import Derived.Test.YtmfammgdcdlceaaDoorFr
import Derived.Test.YtmfammgdcdlceaaDoorSetR
import Derived.Deep.Cut
import Derived.Deep.RegionHeld3
namespace Go.Proofs.YtmfammgdcdlceaaDoor
open Go.RowKit
set_option linter.unusedVariables false
set_option linter.unusedSimpArgs false

theorem WrIn.below {k : IntKind} {S : Nat → Prop} {w w' : World} {v : Value} {zs : List Int} (h : WrIn k S w v zs) (b : Below w.heap.size w w') : WrIn k S w' v zs := h.touch (Below.touch (S := fun _ => False) b) (fun _ _ hx => hx)
theorem WrSS.below {k : IntKind} {S : Nat → Prop} {w w' : World} {v : Value} {zss : List (List Int)} (h : WrSS k S w v zss) (b : Below w.heap.size w w') : WrSS k S w' v zss := h.touch (Below.touch (S := fun _ => False) b) (fun _ _ hx => hx)
theorem loadRowX {w : World} {g : Nat} {t ty : TypeId} {cs : Array Value} {fr : Nat × Nat} {d : TypeDesc} (hg : w.heap[g]? = some (.cells cs t fr)) (hu : Tryd.prog.underlying ty = some d) (hd : d.isRow = true) (hi : (Tryd.prog.info? ty).map (·.size) = some cs.size) :
    (Instr.loadAt ty (.pointer (some ⟨g, 0, none⟩))).run Tryd.prog w = .ok (.agg cs) w := by
  have := run_loadAt_mid (P := Tryd.prog) w g 0 ty cs.toList d (fun j v hv => by
    have hc : w.cell? ⟨g, 0 + j, none⟩ = cs[0 + j]? := cell_of_row w g (0 + j) cs t fr hg
    rw [hc, Nat.zero_add]; simpa using hv) hu hd (by rw [hi]; simp)
  simpa using this
theorem yieldsX {ops : Array Oper} {S : World → Prop} {op : Oper} {a : Act} (hw : Region.wanted op (yielded ops a.tmps) = true) (ty : TypeId) (x : Operand) (ho : op.op = .load ty x)
    (b : Nat) (hx : a.eval x = .pointer (some ⟨b, 0, none⟩)) (cs : Array Value) (t : TypeId) (d : TypeDesc) (hS : ∀ w : World, S w → w.heap[b]? = some (.cells cs t (0, 0)))
    (hu : Tryd.prog.underlying ty = some d) (hd : d.isRow = true) (hi : (Tryd.prog.info? ty).map (·.size) = some cs.size) : YieldsIf Tryd.prog ops S op (.agg cs) a := by
  have := yieldsIf_load_mid (P := Tryd.prog) hw ty x ho b 0 hx cs.toList d (fun w h j v hv => by
    have hc : w.cell? ⟨b, 0 + j, none⟩ = cs[0 + j]? := cell_of_row w b (0 + j) cs t (0, 0) (hS w h)
    rw [hc, Nat.zero_add]; simpa using hv) hu hd (by rw [hi]; simp)
  simpa using this
/-- A whole struct loaded, guarded or not. -/
theorem wpList_load_rowG {ops : Array Oper} {rest : List Oper} {o : Oper} {a : Act} {w : World} {Q : Exit → Act → World → Prop} (hw : Region.wanted o (yielded ops a.tmps) = true) (ty : TypeId) (x : Operand) (ho : o.op = .load ty x)
    (g : Nat) (hx : a.eval x = .pointer (some ⟨g, 0, none⟩)) (cs : Array Value) (hr : (Instr.loadAt ty (.pointer (some ⟨g, 0, none⟩))).run Tryd.prog w = .ok (.agg cs) w)
    (h : wpList Tryd.prog ops Q rest (a.put o.dst (.agg cs)) w) : wpList Tryd.prog ops Q (o :: rest) a w :=
  wpList_step fun K hK => by
    rw [if_pos hw]
    unfold Oper.wp execOp
    simp only [ho, hx, hr, Sem.run_bind, Sem.run_pure, Result.andThen_ok]
    exact hK _ _ h
/-- What a fresh box holds behind the store of a whole struct. -/
theorem freshX (w : World) (Z A : Array Value) (t : TypeId) : ((w.alloc (.cells Z t)).setRow w.heap.size A).heap[w.heap.size]? = some (.cells A t (0, 0)) ∧ Below w.heap.size w ((w.alloc (.cells Z t)).setRow w.heap.size A) ∧ w.heap.size < ((w.alloc (.cells Z t)).setRow w.heap.size A).heap.size :=
  ⟨setRow_heap _ _ Z A _ _ (heap_alloc_new _ _), below_setRow ((Below.refl _ _).alloc (Nat.le_refl _) _) (Nat.le_refl _) _, by simp [World.setRow]⟩
/-- A contract that names the block of its slice, as one that tells between which blocks it lies. -/
theorem toIn1 {P : Program} {f : FuncId} {args : Array Value} {w : World} {k : IntKind} {F : List Int} (h : Calls P f args w fun e w' => ∃ v b, e = .returned v ∧ w.heap.size ≤ b ∧ WrAt k w' v F b ∧ Below w.heap.size w w') :
    Calls P f args w fun e w' => ∃ v, e = .returned v ∧ WrIn k (In w.heap.size w'.heap.size) w' v F ∧ Below w.heap.size w w' :=
  h.mono fun e w' ⟨v, b, he, hb, hw, B⟩ => ⟨v, he, WrIn.of hw hb, B⟩
theorem toIn2 {P : Program} {f : FuncId} {args : Array Value} {w : World} {k : IntKind} {F : List Int} {u : Value} (h : Calls P f args w fun e w' => ∃ v b, e = .returned (.tuple #[v, u]) ∧ w.heap.size ≤ b ∧ WrAt k w' v F b ∧ Below w.heap.size w w') :
    Calls P f args w fun e w' => ∃ v, e = .returned (.tuple #[v, u]) ∧ WrIn k (In w.heap.size w'.heap.size) w' v F ∧ Below w.heap.size w w' :=
  h.mono fun e w' ⟨v, b, he, hb, hw, B⟩ => ⟨v, he, WrIn.of hw hb, B⟩
theorem two_apart {S T : Nat → Prop} {a b c d : Nat} (hs : ∀ x, S x → a ≤ x ∧ x < b) (ht : ∀ x, T x → c ≤ x ∧ x < d) (h : b ≤ c ∨ d ≤ a) : ∀ x, S x → ¬ T x := fun x h1 h2 => by
  have := hs x h1; have := ht x h2; omega
end Go.Proofs.YtmfammgdcdlceaaDoor
