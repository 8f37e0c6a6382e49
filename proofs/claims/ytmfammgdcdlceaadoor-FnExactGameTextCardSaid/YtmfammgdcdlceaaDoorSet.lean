/-
  A whole struct stored into its box: the cells one by one.
-/
import Derived.Test.YtmfammgdcdlceaaDoorSl
import Derived.Laws.Rows
namespace Go.Proofs.YtmfammgdcdlceaaDoor
open Go.RowKit
set_option linter.unusedVariables false
set_option linter.unusedSimpArgs false

/-- The world behind the stores of the values, one cell after the other. -/
def setAll (w : World) (g : Nat) (i : Nat) : List Value → World
  | [] => w
  | v :: vs => setAll (w.setCell ⟨g, i, none⟩ v) g (i + 1) vs
theorem setAll_size (g : Nat) (vs : List Value) : ∀ (w : World) (i : Nat), (setAll w g i vs).heap.size = w.heap.size := by
  induction vs with
  | nil => intro w i; rfl
  | cons v vs ih => intro w i; show (setAll _ g (i + 1) vs).heap.size = _; rw [ih]; simp [World.setCell]
theorem setAll_other (g : Nat) (vs : List Value) (k : Nat) (hk : k ≠ g) : ∀ (w : World) (i : Nat), (setAll w g i vs).heap[k]? = w.heap[k]? := by
  induction vs with
  | nil => intro w i; rfl
  | cons v vs ih => intro w i; show (setAll _ g (i + 1) vs).heap[k]? = _; rw [ih, Below.heap_setCell _ _ _ _ hk]
theorem setAll_below {B g : Nat} {w0 : World} (hg : B ≤ g) (vs : List Value) : ∀ (w : World) (i : Nat), Below B w0 w → Below B w0 (setAll w g i vs) := by
  induction vs with
  | nil => intro w i h; exact h
  | cons v vs ih => intro w i h; exact ih _ _ (h.setCell hg v)
theorem setAll_heap (g : Nat) (vs : List Value) : ∀ (w : World) (i : Nat) (cs : List Value) (t : TypeId) (fr : Nat × Nat), w.heap[g]? = some (.cells ⟨cs⟩ t fr) → i + vs.length = cs.length → (setAll w g i vs).heap[g]? = some (.cells ⟨cs.take i ++ vs⟩ t fr) := by
  induction vs with
  | nil => intro w i cs t fr h hl; simp at hl; subst hl; simpa [setAll] using h
  | cons v vs ih =>
    intro w i cs t fr h hl
    simp at hl
    have h2 : (w.setCell ⟨g, i, none⟩ v).heap[g]? = some (.cells ⟨cs.set i v⟩ t fr) := by simp [World.setCell, Array.getElem?_modify, h]
    have := ih _ (i + 1) (cs.set i v) t fr h2 (by simp; omega)
    show (setAll _ g (i + 1) vs).heap[g]? = _
    rw [this]
    have hi : i < cs.length := by omega
    rw [List.take_succ_eq_append_getElem (by simpa using hi)]
    simp [List.take_set_of_le]
theorem setAll_full {w : World} {g : Nat} {c : Array Value} {t : TypeId} {fr : Nat × Nat} (h : w.heap[g]? = some (.cells c t fr)) (vs : List Value) (hl : vs.length = c.size) : (setAll w g 0 vs).heap[g]? = some (.cells ⟨vs⟩ t fr) := by
  obtain ⟨cs⟩ := c
  have := setAll_heap g vs w 0 cs t fr h (by simpa using hl)
  simpa using this
theorem results_row_tmp {P : Program} {fn : Func} {p u : Tmp} {ty : TypeId} (h : fn.results = #[.cell p ty, .tmp u]) (tmps : Array Value) (w : World) (g : Nat) (t : TypeId) (cs : Array Value) (fr : Nat × Nat) (d : TypeDesc)
    (hp : tmps.getD p undef = .pointer (some ⟨g, 0, none⟩)) (hg : w.heap[g]? = some (.cells cs t fr))
    (hu : P.underlying ty = some d) (hd : (match d with | .struct _ | .array _ _ => true | _ => false) = true) (hi : (P.info? ty).map (·.size) = some cs.size) :
    (results fn tmps).run P w = .ok (.tuple #[.agg cs, tmps.getD u undef]) w := by
  have hp' : tmps[p]?.getD undef = .pointer (some ⟨g, 0, none⟩) := by simpa using hp
  simp [results, h, hp', asAddr, run_loadVar_row w g t ty cs fr d hg hu hd hi]
theorem two_boxesR {w w1 : World} {o1 o2 : Obj} (bb : Below ((w.alloc o1).alloc o2).heap.size ((w.alloc o1).alloc o2) w1) : Below w.heap.size w w1 ∧ w1.heap[w.heap.size]? = some o1 ∧ w1.heap[w.heap.size + 1]? = some o2 := by
  refine ⟨(((Below.refl w.heap.size w).alloc (Nat.le_refl _) o1).alloc (by simp) o2).trans (bb.mono (by simp; omega)), (bb.block _ (by simp; omega)).trans ?_, (bb.block _ (by simp)).trans ?_⟩
  · show ((w.heap.push o1).push o2)[w.heap.size]? = _
    rw [Array.getElem?_push, if_neg (by simp)]; simp
  · show ((w.heap.push o1).push o2)[w.heap.size + 1]? = _
    rw [Array.getElem?_push, if_pos (by simp)]
theorem one_boxR {w w1 : World} {o1 : Obj} (bb : Below (w.alloc o1).heap.size (w.alloc o1) w1) : Below w.heap.size w w1 ∧ w1.heap[w.heap.size]? = some o1 := by
  refine ⟨((Below.refl w.heap.size w).alloc (Nat.le_refl _) o1).trans (bb.mono (by simp)), (bb.block _ (by simp)).trans ?_⟩
  show (w.heap.push o1)[w.heap.size]? = _
  rw [Array.getElem?_push, if_pos (by simp)]

end Go.Proofs.YtmfammgdcdlceaaDoor
