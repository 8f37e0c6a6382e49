/-
  DERIVED. GIVEN WITH THE SEED: THE CARDS: each row of YtepjijmgfdgfhaaDoorRows.lean that lists a variable, with what it lists TIED to the program's text (the seventh form; the later family's looks); each row that meets fmt, with fmt's text TOLD by the authors' own Lean function (tested against real Go, not proved from fmt's source: count such statements apart). THE CARD IS WHAT COUNTS. Prove the row's statement (the work); the ties are given (YtepjijmgfdgfhaaDoorTie.lean); close each card by the builder's one call (the guide's Derived/Test/ToyasCard.lean, 'card_holds'). Laid BY PROGRAM, IN A SANDBOX (cutbox-door.mjs). By AI agents, Wed Nov 11 2026. No macro, syntax, notation, axiom, sorry.
-/
import Derived.Test.YtepjijmgfdgfhaaDoorRows
import GoSem.ClaimSeven
namespace Go.Proofs.YtepjijmgfdgfhaaDoor
namespace Rows

/-- THE TIED CARD OF 'laws.FnExactMissing'. -/
def fnExactMissingCard : Claim7 := { stood := { row := fnExactMissingRow, standIns := [], harness := (true, "29421edfef3c90399b02a60d66d1ae58c334d4aeecfae736cc0fc4d1ed6b98cd"), looks := false }, kinds := [], alts := [], laidByText := true, laidKinds := [.data], laidTests := true, laidLooks := .later }
def FnExactMissingCardSaid : Prop := Claim7.holds Tryd.pinned (.plain (OpenSpec.ofChange fnExactMissingSpec)) fnExactMissingCard

/-- THE TIED CARD OF 'laws.FnExactUnseen'. -/
def fnExactUnseenCard : Claim7 := { stood := { row := fnExactUnseenRow, standIns := [], harness := (true, "29421edfef3c90399b02a60d66d1ae58c334d4aeecfae736cc0fc4d1ed6b98cd"), looks := false }, kinds := [], alts := [], laidByText := true, laidKinds := [.data], laidTests := true, laidLooks := .later }
def FnExactUnseenCardSaid : Prop := Claim7.holds Tryd.pinned (.plain (OpenSpec.ofChange fnExactUnseenSpec)) fnExactUnseenCard

/-- THE TIED CARD OF 'laws.FnExactOutsFor'. -/
def fnExactOutsForCard : Claim7 := { stood := { row := fnExactOutsForRow, standIns := [], harness := (true, "29421edfef3c90399b02a60d66d1ae58c334d4aeecfae736cc0fc4d1ed6b98cd"), looks := false }, kinds := [], alts := [], laidByText := true, laidKinds := [.data, .data, .data, .data, .data, .data, .data, .data], laidTests := true, laidLooks := .later }
def FnExactOutsForCardSaid : Prop := Claim7.holds Tryd.pinned (.plain (OpenSpec.ofChange fnExactOutsForSpec)) fnExactOutsForCard

/-- THE SECOND FORM's CARD OF 'laws.FnExactMissing'. -/
def fnExactMissingUptoCard : Claim7 := { stood := { row := fnExactMissingUptoRow, standIns := [], harness := (true, "29421edfef3c90399b02a60d66d1ae58c334d4aeecfae736cc0fc4d1ed6b98cd"), looks := false }, kinds := [], alts := [], laidByText := true, laidKinds := [.data], laidTests := true, laidLooks := .later }
def FnExactMissingUptoCardSaid : Prop := Claim7.holds Tryd.pinned (.plain (OpenSpec.upto fnExactMissingSpec)) fnExactMissingUptoCard

/-- THE SECOND FORM's CARD OF 'laws.FnExactUnseen'. -/
def fnExactUnseenUptoCard : Claim7 := { stood := { row := fnExactUnseenUptoRow, standIns := [], harness := (true, "29421edfef3c90399b02a60d66d1ae58c334d4aeecfae736cc0fc4d1ed6b98cd"), looks := false }, kinds := [], alts := [], laidByText := true, laidKinds := [.data], laidTests := true, laidLooks := .later }
def FnExactUnseenUptoCardSaid : Prop := Claim7.holds Tryd.pinned (.plain (OpenSpec.upto fnExactUnseenSpec)) fnExactUnseenUptoCard

/-- THE SECOND FORM's CARD OF 'laws.FnExactOutsFor'. -/
def fnExactOutsForUptoCard : Claim7 := { stood := { row := fnExactOutsForUptoRow, standIns := [], harness := (true, "29421edfef3c90399b02a60d66d1ae58c334d4aeecfae736cc0fc4d1ed6b98cd"), looks := false }, kinds := [], alts := [], laidByText := true, laidKinds := [.data, .data, .data, .data, .data, .data, .data, .data], laidTests := true, laidLooks := .later }
def FnExactOutsForUptoCardSaid : Prop := Claim7.holds Tryd.pinned (.plain (OpenSpec.upto fnExactOutsForSpec)) fnExactOutsForUptoCard
end Rows
end Go.Proofs.YtepjijmgfdgfhaaDoor
