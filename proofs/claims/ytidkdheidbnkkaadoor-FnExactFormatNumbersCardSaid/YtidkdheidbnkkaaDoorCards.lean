/-
  DERIVED. GIVEN WITH THE SEED: THE CARDS: each row of YtidkdheidbnkkaaDoorRows.lean that lists a variable, with what it lists TIED to the program's text (the seventh form; the later family's looks); each row that meets fmt, with fmt's text TOLD by the authors' own Lean function (tested against real Go, not proved from fmt's source: count such statements apart). THE CARD IS WHAT COUNTS. Prove the row's statement (the work); the ties are given (YtidkdheidbnkkaaDoorTie.lean); close each card by the builder's one call (the guide's Derived/Test/ToyasCard.lean, 'card_holds'). Laid BY PROGRAM, IN A SANDBOX (cutbox-door.mjs). By AI agents, Wed Nov 11 2026. No macro, syntax, notation, axiom, sorry.
-/
import Derived.Test.YtidkdheidbnkkaaDoorRows
import GoSem.ClaimSeven
namespace Go.Proofs.YtidkdheidbnkkaaDoor
namespace Rows

/-- THE TIED CARD OF 'laws.FnExactCallsText'. -/
def fnExactCallsTextCard : Claim7 := { stood := { row := fnExactCallsTextRow, standIns := [], harness := (true, "b8604370d456229bbb0f25ab3780738484ec88db63dc6904e2977d63c4f89c42"), looks := false }, kinds := [], alts := [], laidByText := true, laidKinds := [.data, .data, .data], laidTests := true, laidLooks := .later }
def FnExactCallsTextCardSaid : Prop := Claim7.holds Tryd.pinned (.plain (OpenSpec.ofChange fnExactCallsTextSpec)) fnExactCallsTextCard

/-- THE TIED CARD OF 'laws.FnExactFormatNumbers'. -/
def fnExactFormatNumbersCard : Claim7 := { stood := { row := fnExactFormatNumbersRow, standIns := [], harness := (true, "b8604370d456229bbb0f25ab3780738484ec88db63dc6904e2977d63c4f89c42"), looks := false }, kinds := [], alts := [], laidByText := true, laidKinds := [.data, .data, .data], laidTests := true, laidLooks := .later }
def FnExactFormatNumbersCardSaid : Prop := Claim7.holds Tryd.pinned (.plain (OpenSpec.ofChange fnExactFormatNumbersSpec)) fnExactFormatNumbersCard

/-- THE SECOND FORM's CARD OF 'laws.FnExactCallsText'. -/
def fnExactCallsTextUptoCard : Claim7 := { stood := { row := fnExactCallsTextUptoRow, standIns := [], harness := (true, "b8604370d456229bbb0f25ab3780738484ec88db63dc6904e2977d63c4f89c42"), looks := false }, kinds := [], alts := [], laidByText := true, laidKinds := [.data, .data, .data], laidTests := true, laidLooks := .later }
def FnExactCallsTextUptoCardSaid : Prop := Claim7.holds Tryd.pinned (.plain (OpenSpec.upto fnExactCallsTextSpec)) fnExactCallsTextUptoCard

/-- THE SECOND FORM's CARD OF 'laws.FnExactFormatNumbers'. -/
def fnExactFormatNumbersUptoCard : Claim7 := { stood := { row := fnExactFormatNumbersUptoRow, standIns := [], harness := (true, "b8604370d456229bbb0f25ab3780738484ec88db63dc6904e2977d63c4f89c42"), looks := false }, kinds := [], alts := [], laidByText := true, laidKinds := [.data, .data, .data], laidTests := true, laidLooks := .later }
def FnExactFormatNumbersUptoCardSaid : Prop := Claim7.holds Tryd.pinned (.plain (OpenSpec.upto fnExactFormatNumbersSpec)) fnExactFormatNumbersUptoCard
end Rows
end Go.Proofs.YtidkdheidbnkkaaDoor
