/-
  HiddenCount, both sides.
-/
import Derived.Test.YtjlcmocepnlibaaSPeek
namespace Go.Proofs.Ytjlcmocepnlibaa
open Go.RowKit
set_option linter.unusedVariables false
set_option linter.unusedSimpArgs false

def hiddenN (D : MPeek) : Int := 52 - (D.hand.length : Int) - 1
set_option maxRecDepth 100000 in
theorem hiddenCount_any (v : Value) (D : MPeek) (w : World) (h : RdPeek w v D) (hf : D.Few) :
    Calls Try.prog 23 #[v] w fun e w' => e = .returned (.int .i64 (hiddenN D)) ∧ Below w.heap.size w w' := by
  obtain ⟨f1, f5⟩ := hf
  obtain ⟨p1, p5, c1, c5, rfl⟩ := h.shape
  have B0 := fun o => (Below.refl w.heap.size w).alloc (Nat.le_refl _) o
  unfold hiddenN
  clear h
  go_enter Try.func23, Try.ntmps23
  go_wp2_with fail
  go_ret
  exact ⟨rfl, B0 _⟩
set_option maxRecDepth 100000 in
theorem sHiddenCount_any (v : Value) (D : MPeek) (w : World) (h : RdPeek w v D) (hf : D.Few) :
    Calls Try.prog 21 #[v] w fun e w' => e = .returned (.int .i64 (hiddenN D)) ∧ Below w.heap.size w w' := by
  obtain ⟨f1, f5⟩ := hf
  obtain ⟨p1, p5, c1, c5, rfl⟩ := h.shape
  have B0 := fun o => (Below.refl w.heap.size w).alloc (Nat.le_refl _) o
  unfold hiddenN
  clear h
  go_enter Try.func21, Try.ntmps21
  go_wp2_with fail
  go_ret
  exact ⟨rfl, B0 _⟩
end Go.Proofs.Ytjlcmocepnlibaa
