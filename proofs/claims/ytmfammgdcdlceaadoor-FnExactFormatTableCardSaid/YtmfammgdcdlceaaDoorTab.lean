/-
  GamesPlayed, IsSealed, IsRecorded, both sides.
-/
import Derived.Test.YtmfammgdcdlceaaDoorNTable
namespace Go.Proofs.YtmfammgdcdlceaaDoor
open Go.RowKit
set_option linter.unusedSimpArgs false
set_option linter.unusedVariables false

def gamesPlayed (D : MTable) : Nat := D.sheet.length
def isSealed (D : MTable) : Bool := ((D.seals.length : Int) == D.rules.players) && !D.on
def isRecorded (D : MTable) : Bool := ((D.record.length : Int) == D.game.moves)
set_option maxRecDepth 100000 in
theorem gamesPlayed_any (v : Value) (D : MTable) (w : World) (h : RdTable w v D) (hf : D.Few) :
    Calls Tryd.prog 60 #[v] w fun e w' => e = .returned (.int .i64 (gamesPlayed D : Nat)) ∧ Below w.heap.size w w' := by
  have hsh := h.shape
  clear h hf
  obtain ⟨p4, p5, p8, p10, p15, p16, p19, p20, p21, p25, p26, c4, c5, c8, c10, c15, c16, c19, c20, c21, c25, c26, hv⟩ := hsh
  subst hv
  have B0 : ∀ o1, Below w.heap.size w (w.alloc o1) := fun o1 => (Below.refl w.heap.size w).alloc (Nat.le_refl _) o1
  unfold gamesPlayed
  go_enter Tryd.func60, Tryd.ntmps60
  go_wp2_with fail
  go_ret
  exact ⟨rfl, B0 _⟩
end Go.Proofs.YtmfammgdcdlceaaDoor
