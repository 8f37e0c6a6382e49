/-
  DERIVED. GIVEN WITH THE SEED: THE CARDS: each row of YtljpeiffpkfnlabDoorRows.lean that lists a variable, with what it lists TIED to the program's text (the seventh form; the later family's looks); each row that meets fmt, with fmt's text TOLD by the authors' own Lean function (tested against real Go, not proved from fmt's source: count such statements apart). THE CARD IS WHAT COUNTS. Prove the row's statement (the work); the ties are given (YtljpeiffpkfnlabDoorTie.lean); close each card by the builder's one call (the guide's Derived/Test/ToyasCard.lean, 'card_holds'). Laid BY PROGRAM, IN A SANDBOX (cutbox-door.mjs). By AI agents, Wed Nov 11 2026. No macro, syntax, notation, axiom, sorry.
-/
import Derived.Test.YtljpeiffpkfnlabDoorRows
import GoSem.ClaimSeven
namespace Go.Proofs.YtljpeiffpkfnlabDoor
namespace Rows

/-- THE TIED CARD OF 'laws.FnExactAreOpened'. -/
def fnExactAreOpenedCard : Claim7 := { stood := { row := fnExactAreOpenedRow, standIns := [], harness := (true, "2653fe03be0aca8672645ca0b3c3482ccd4d0f4003db738ef2ee2425b7e3fa5a"), looks := true }, kinds := [], alts := [], laidByText := true, laidKinds := [.sentinel, .sentinel], laidTests := true, laidLooks := .later }
def FnExactAreOpenedCardSaid : Prop := Claim7.holds Tryd.pinned (.plain (OpenSpec.ofChange fnExactAreOpenedSpec)) fnExactAreOpenedCard

/-- THE TIED CARD OF 'laws.FnExactJointSeed'. -/
def fnExactJointSeedCard : Claim7 := { stood := { row := fnExactJointSeedRow, standIns := [], harness := (true, "2653fe03be0aca8672645ca0b3c3482ccd4d0f4003db738ef2ee2425b7e3fa5a"), looks := true }, kinds := [], alts := [], laidByText := true, laidKinds := [.sentinel, .sentinel], laidTests := true, laidLooks := .later }
def FnExactJointSeedCardSaid : Prop := Claim7.holds Tryd.pinned (.plain (OpenSpec.ofChange fnExactJointSeedSpec)) fnExactJointSeedCard

/-- THE SECOND FORM's CARD OF 'laws.FnExactAreOpened'. -/
def fnExactAreOpenedUptoCard : Claim7 := { stood := { row := fnExactAreOpenedUptoRow, standIns := [], harness := (true, "2653fe03be0aca8672645ca0b3c3482ccd4d0f4003db738ef2ee2425b7e3fa5a"), looks := true }, kinds := [], alts := [], laidByText := true, laidKinds := [.sentinel, .sentinel], laidTests := true, laidLooks := .later }
def FnExactAreOpenedUptoCardSaid : Prop := Claim7.holds Tryd.pinned (.plain (OpenSpec.upto fnExactAreOpenedSpec)) fnExactAreOpenedUptoCard

/-- THE SECOND FORM's CARD OF 'laws.FnExactJointSeed'. -/
def fnExactJointSeedUptoCard : Claim7 := { stood := { row := fnExactJointSeedUptoRow, standIns := [], harness := (true, "2653fe03be0aca8672645ca0b3c3482ccd4d0f4003db738ef2ee2425b7e3fa5a"), looks := true }, kinds := [], alts := [], laidByText := true, laidKinds := [.sentinel, .sentinel], laidTests := true, laidLooks := .later }
def FnExactJointSeedUptoCardSaid : Prop := Claim7.holds Tryd.pinned (.plain (OpenSpec.upto fnExactJointSeedSpec)) fnExactJointSeedUptoCard
end Rows
end Go.Proofs.YtljpeiffpkfnlabDoor
