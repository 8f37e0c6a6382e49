/-
  DERIVED. GIVEN WITH THE SEED: THE CARDS: each row of YtljpeiffpkfnlaaDoorRows.lean that lists a variable, with what it lists TIED to the program's text (the seventh form; the later family's looks); each row that meets fmt, with fmt's text TOLD by the authors' own Lean function (tested against real Go, not proved from fmt's source: count such statements apart). THE CARD IS WHAT COUNTS. Prove the row's statement (the work); the ties are given (YtljpeiffpkfnlaaDoorTie.lean); close each card by the builder's one call (the guide's Derived/Test/ToyasCard.lean, 'card_holds'). Laid BY PROGRAM, IN A SANDBOX (cutbox-door.mjs). By AI agents, Wed Nov 11 2026. No macro, syntax, notation, axiom, sorry.
-/
import Derived.Test.YtljpeiffpkfnlaaDoorRows
import GoSem.ClaimSeven
namespace Go.Proofs.YtljpeiffpkfnlaaDoor
namespace Rows

/-- THE TIED CARD OF 'laws.FnExactStepOf'. -/
def fnExactStepOfCard : Claim7 := { stood := { row := fnExactStepOfRow, standIns := [], harness := (true, "9b4828b890da60b892686db26c2ffd3120cdc67c4a78a4cb0a267daadebaac00"), looks := true }, kinds := [], alts := [], laidByText := true, laidKinds := [.sentinel, .sentinel], laidTests := true, laidLooks := .later }
def FnExactStepOfCardSaid : Prop := Claim7.holds Tryd.pinned (.plain (OpenSpec.ofChange fnExactStepOfSpec)) fnExactStepOfCard

/-- THE TIED CARD OF 'laws.FnExactMayBuild'. -/
def fnExactMayBuildCard : Claim7 := { stood := { row := fnExactMayBuildRow, standIns := [], harness := (true, "9b4828b890da60b892686db26c2ffd3120cdc67c4a78a4cb0a267daadebaac00"), looks := true }, kinds := [], alts := [], laidByText := true, laidKinds := [.sentinel, .sentinel], laidTests := true, laidLooks := .later }
def FnExactMayBuildCardSaid : Prop := Claim7.holds Tryd.pinned (.plain (OpenSpec.ofChange fnExactMayBuildSpec)) fnExactMayBuildCard

/-- THE TIED CARD OF 'laws.FnExactBuilt'. -/
def fnExactBuiltCard : Claim7 := { stood := { row := fnExactBuiltRow, standIns := [], harness := (true, "9b4828b890da60b892686db26c2ffd3120cdc67c4a78a4cb0a267daadebaac00"), looks := true }, kinds := [], alts := [], laidByText := true, laidKinds := [.sentinel, .sentinel], laidTests := true, laidLooks := .later }
def FnExactBuiltCardSaid : Prop := Claim7.holds Tryd.pinned (.plain (OpenSpec.ofChange fnExactBuiltSpec)) fnExactBuiltCard

/-- THE TIED CARD OF 'laws.FnExactBaseCards'. -/
def fnExactBaseCardsCard : Claim7 := { stood := { row := fnExactBaseCardsRow, standIns := [], harness := (true, "9b4828b890da60b892686db26c2ffd3120cdc67c4a78a4cb0a267daadebaac00"), looks := true }, kinds := [], alts := [], laidByText := true, laidKinds := [.sentinel, .sentinel], laidTests := true, laidLooks := .later }
def FnExactBaseCardsCardSaid : Prop := Claim7.holds Tryd.pinned (.plain (OpenSpec.ofChange fnExactBaseCardsSpec)) fnExactBaseCardsCard

/-- THE TIED CARD OF 'laws.FnExactIsSafe'. -/
def fnExactIsSafeCard : Claim7 := { stood := { row := fnExactIsSafeRow, standIns := [], harness := (true, "9b4828b890da60b892686db26c2ffd3120cdc67c4a78a4cb0a267daadebaac00"), looks := true }, kinds := [], alts := [], laidByText := true, laidKinds := [.sentinel, .sentinel], laidTests := true, laidLooks := .later }
def FnExactIsSafeCardSaid : Prop := Claim7.holds Tryd.pinned (.plain (OpenSpec.ofChange fnExactIsSafeSpec)) fnExactIsSafeCard

/-- THE TIED CARD OF 'laws.FnExactSeedSeal'. -/
def fnExactSeedSealCard : Claim7 := { stood := { row := fnExactSeedSealRow, standIns := [], harness := (true, "9b4828b890da60b892686db26c2ffd3120cdc67c4a78a4cb0a267daadebaac00"), looks := true }, kinds := [], alts := [], laidByText := true, laidKinds := [.sentinel, .sentinel], laidTests := true, laidLooks := .later }
def FnExactSeedSealCardSaid : Prop := Claim7.holds Tryd.pinned (.plain (OpenSpec.ofChange fnExactSeedSealSpec)) fnExactSeedSealCard

/-- THE TIED CARD OF 'laws.FnExactIsOpened'. -/
def fnExactIsOpenedCard : Claim7 := { stood := { row := fnExactIsOpenedRow, standIns := [], harness := (true, "9b4828b890da60b892686db26c2ffd3120cdc67c4a78a4cb0a267daadebaac00"), looks := true }, kinds := [], alts := [], laidByText := true, laidKinds := [.sentinel, .sentinel], laidTests := true, laidLooks := .later }
def FnExactIsOpenedCardSaid : Prop := Claim7.holds Tryd.pinned (.plain (OpenSpec.ofChange fnExactIsOpenedSpec)) fnExactIsOpenedCard

/-- THE SECOND FORM's CARD OF 'laws.FnExactStepOf'. -/
def fnExactStepOfUptoCard : Claim7 := { stood := { row := fnExactStepOfUptoRow, standIns := [], harness := (true, "9b4828b890da60b892686db26c2ffd3120cdc67c4a78a4cb0a267daadebaac00"), looks := true }, kinds := [], alts := [], laidByText := true, laidKinds := [.sentinel, .sentinel], laidTests := true, laidLooks := .later }
def FnExactStepOfUptoCardSaid : Prop := Claim7.holds Tryd.pinned (.plain (OpenSpec.upto fnExactStepOfSpec)) fnExactStepOfUptoCard

/-- THE SECOND FORM's CARD OF 'laws.FnExactMayBuild'. -/
def fnExactMayBuildUptoCard : Claim7 := { stood := { row := fnExactMayBuildUptoRow, standIns := [], harness := (true, "9b4828b890da60b892686db26c2ffd3120cdc67c4a78a4cb0a267daadebaac00"), looks := true }, kinds := [], alts := [], laidByText := true, laidKinds := [.sentinel, .sentinel], laidTests := true, laidLooks := .later }
def FnExactMayBuildUptoCardSaid : Prop := Claim7.holds Tryd.pinned (.plain (OpenSpec.upto fnExactMayBuildSpec)) fnExactMayBuildUptoCard

/-- THE SECOND FORM's CARD OF 'laws.FnExactBuilt'. -/
def fnExactBuiltUptoCard : Claim7 := { stood := { row := fnExactBuiltUptoRow, standIns := [], harness := (true, "9b4828b890da60b892686db26c2ffd3120cdc67c4a78a4cb0a267daadebaac00"), looks := true }, kinds := [], alts := [], laidByText := true, laidKinds := [.sentinel, .sentinel], laidTests := true, laidLooks := .later }
def FnExactBuiltUptoCardSaid : Prop := Claim7.holds Tryd.pinned (.plain (OpenSpec.upto fnExactBuiltSpec)) fnExactBuiltUptoCard

/-- THE SECOND FORM's CARD OF 'laws.FnExactBaseCards'. -/
def fnExactBaseCardsUptoCard : Claim7 := { stood := { row := fnExactBaseCardsUptoRow, standIns := [], harness := (true, "9b4828b890da60b892686db26c2ffd3120cdc67c4a78a4cb0a267daadebaac00"), looks := true }, kinds := [], alts := [], laidByText := true, laidKinds := [.sentinel, .sentinel], laidTests := true, laidLooks := .later }
def FnExactBaseCardsUptoCardSaid : Prop := Claim7.holds Tryd.pinned (.plain (OpenSpec.upto fnExactBaseCardsSpec)) fnExactBaseCardsUptoCard

/-- THE SECOND FORM's CARD OF 'laws.FnExactIsSafe'. -/
def fnExactIsSafeUptoCard : Claim7 := { stood := { row := fnExactIsSafeUptoRow, standIns := [], harness := (true, "9b4828b890da60b892686db26c2ffd3120cdc67c4a78a4cb0a267daadebaac00"), looks := true }, kinds := [], alts := [], laidByText := true, laidKinds := [.sentinel, .sentinel], laidTests := true, laidLooks := .later }
def FnExactIsSafeUptoCardSaid : Prop := Claim7.holds Tryd.pinned (.plain (OpenSpec.upto fnExactIsSafeSpec)) fnExactIsSafeUptoCard

/-- THE SECOND FORM's CARD OF 'laws.FnExactSeedSeal'. -/
def fnExactSeedSealUptoCard : Claim7 := { stood := { row := fnExactSeedSealUptoRow, standIns := [], harness := (true, "9b4828b890da60b892686db26c2ffd3120cdc67c4a78a4cb0a267daadebaac00"), looks := true }, kinds := [], alts := [], laidByText := true, laidKinds := [.sentinel, .sentinel], laidTests := true, laidLooks := .later }
def FnExactSeedSealUptoCardSaid : Prop := Claim7.holds Tryd.pinned (.plain (OpenSpec.upto fnExactSeedSealSpec)) fnExactSeedSealUptoCard

/-- THE SECOND FORM's CARD OF 'laws.FnExactIsOpened'. -/
def fnExactIsOpenedUptoCard : Claim7 := { stood := { row := fnExactIsOpenedUptoRow, standIns := [], harness := (true, "9b4828b890da60b892686db26c2ffd3120cdc67c4a78a4cb0a267daadebaac00"), looks := true }, kinds := [], alts := [], laidByText := true, laidKinds := [.sentinel, .sentinel], laidTests := true, laidLooks := .later }
def FnExactIsOpenedUptoCardSaid : Prop := Claim7.holds Tryd.pinned (.plain (OpenSpec.upto fnExactIsOpenedSpec)) fnExactIsOpenedUptoCard
end Rows
end Go.Proofs.YtljpeiffpkfnlaaDoor
