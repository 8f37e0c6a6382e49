/-
  DERIVED. GIVEN WITH THE SEED: THE CARDS: each row of YtfajdbfpacmclaaDoorRows.lean that lists a variable, with what it lists TIED to the program's text (the seventh form; the later family's looks); each row that meets fmt, with fmt's text TOLD by the authors' own Lean function (tested against real Go, not proved from fmt's source: count such statements apart). THE CARD IS WHAT COUNTS. Prove the row's statement (the work); the ties are given (YtfajdbfpacmclaaDoorTie.lean); close each card by the builder's one call (the guide's Derived/Test/ToyasCard.lean, 'card_holds'). Laid BY PROGRAM, IN A SANDBOX (cutbox-door.mjs). By AI agents, Wed Nov 11 2026. No macro, syntax, notation, axiom, sorry.
-/
import Derived.Test.YtfajdbfpacmclaaDoorRows
import GoSem.ClaimSeven
namespace Go.Proofs.YtfajdbfpacmclaaDoor
namespace Rows

/-- THE TIED CARD OF 'laws.FnCalls'. -/
def fnCallsCard : Claim7 := { stood := { row := fnCallsRow, standIns := [], harness := (true, "fc1f9c5436050b03b77d7f438d0286812301bc54a19e4eb3b75f09cf636df02a"), looks := true }, kinds := [], alts := [], laidByText := true, laidKinds := [.sentinel], laidTests := true, laidLooks := .later }
def FnCallsCardSaid : Prop := Claim7.holds Tryd.pinned (.plain (OpenSpec.ofChange fnCallsSpec)) fnCallsCard

/-- THE TIED CARD OF 'laws.FnExactIsFollowed'. -/
def fnExactIsFollowedCard : Claim7 := { stood := { row := fnExactIsFollowedRow, standIns := [], harness := (true, "fc1f9c5436050b03b77d7f438d0286812301bc54a19e4eb3b75f09cf636df02a"), looks := true }, kinds := [], alts := [], laidByText := true, laidKinds := [.sentinel, .sentinel], laidTests := true, laidLooks := .later }
def FnExactIsFollowedCardSaid : Prop := Claim7.holds Tryd.pinned (.plain (OpenSpec.ofChange fnExactIsFollowedSpec)) fnExactIsFollowedCard

/-- THE TIED CARD OF 'laws.FnExactIsCalls'. -/
def fnExactIsCallsCard : Claim7 := { stood := { row := fnExactIsCallsRow, standIns := [], harness := (true, "fc1f9c5436050b03b77d7f438d0286812301bc54a19e4eb3b75f09cf636df02a"), looks := true }, kinds := [], alts := [], laidByText := true, laidKinds := [.sentinel], laidTests := true, laidLooks := .later }
def FnExactIsCallsCardSaid : Prop := Claim7.holds Tryd.pinned (.plain (OpenSpec.ofChange fnExactIsCallsSpec)) fnExactIsCallsCard

/-- THE TIED CARD OF 'laws.FnExactDeclarer'. -/
def fnExactDeclarerCard : Claim7 := { stood := { row := fnExactDeclarerRow, standIns := [], harness := (true, "fc1f9c5436050b03b77d7f438d0286812301bc54a19e4eb3b75f09cf636df02a"), looks := true }, kinds := [], alts := [], laidByText := true, laidKinds := [.sentinel], laidTests := true, laidLooks := .later }
def FnExactDeclarerCardSaid : Prop := Claim7.holds Tryd.pinned (.plain (OpenSpec.ofChange fnExactDeclarerSpec)) fnExactDeclarerCard

/-- THE TIED CARD OF 'laws.FnExactLegalCalls'. -/
def fnExactLegalCallsCard : Claim7 := { stood := { row := fnExactLegalCallsRow, standIns := [], harness := (true, "fc1f9c5436050b03b77d7f438d0286812301bc54a19e4eb3b75f09cf636df02a"), looks := true }, kinds := [], alts := [], laidByText := true, laidKinds := [.sentinel], laidTests := true, laidLooks := .later }
def FnExactLegalCallsCardSaid : Prop := Claim7.holds Tryd.pinned (.plain (OpenSpec.ofChange fnExactLegalCallsSpec)) fnExactLegalCallsCard

/-- THE SECOND FORM's CARD OF 'laws.FnCalls'. -/
def fnCallsUptoCard : Claim7 := { stood := { row := fnCallsUptoRow, standIns := [], harness := (true, "fc1f9c5436050b03b77d7f438d0286812301bc54a19e4eb3b75f09cf636df02a"), looks := true }, kinds := [], alts := [], laidByText := true, laidKinds := [.sentinel], laidTests := true, laidLooks := .later }
def FnCallsUptoCardSaid : Prop := Claim7.holds Tryd.pinned (.plain (OpenSpec.upto fnCallsSpec)) fnCallsUptoCard

/-- THE SECOND FORM's CARD OF 'laws.FnExactIsFollowed'. -/
def fnExactIsFollowedUptoCard : Claim7 := { stood := { row := fnExactIsFollowedUptoRow, standIns := [], harness := (true, "fc1f9c5436050b03b77d7f438d0286812301bc54a19e4eb3b75f09cf636df02a"), looks := true }, kinds := [], alts := [], laidByText := true, laidKinds := [.sentinel, .sentinel], laidTests := true, laidLooks := .later }
def FnExactIsFollowedUptoCardSaid : Prop := Claim7.holds Tryd.pinned (.plain (OpenSpec.upto fnExactIsFollowedSpec)) fnExactIsFollowedUptoCard

/-- THE SECOND FORM's CARD OF 'laws.FnExactIsCalls'. -/
def fnExactIsCallsUptoCard : Claim7 := { stood := { row := fnExactIsCallsUptoRow, standIns := [], harness := (true, "fc1f9c5436050b03b77d7f438d0286812301bc54a19e4eb3b75f09cf636df02a"), looks := true }, kinds := [], alts := [], laidByText := true, laidKinds := [.sentinel], laidTests := true, laidLooks := .later }
def FnExactIsCallsUptoCardSaid : Prop := Claim7.holds Tryd.pinned (.plain (OpenSpec.upto fnExactIsCallsSpec)) fnExactIsCallsUptoCard

/-- THE SECOND FORM's CARD OF 'laws.FnExactDeclarer'. -/
def fnExactDeclarerUptoCard : Claim7 := { stood := { row := fnExactDeclarerUptoRow, standIns := [], harness := (true, "fc1f9c5436050b03b77d7f438d0286812301bc54a19e4eb3b75f09cf636df02a"), looks := true }, kinds := [], alts := [], laidByText := true, laidKinds := [.sentinel], laidTests := true, laidLooks := .later }
def FnExactDeclarerUptoCardSaid : Prop := Claim7.holds Tryd.pinned (.plain (OpenSpec.upto fnExactDeclarerSpec)) fnExactDeclarerUptoCard

/-- THE SECOND FORM's CARD OF 'laws.FnExactLegalCalls'. -/
def fnExactLegalCallsUptoCard : Claim7 := { stood := { row := fnExactLegalCallsUptoRow, standIns := [], harness := (true, "fc1f9c5436050b03b77d7f438d0286812301bc54a19e4eb3b75f09cf636df02a"), looks := true }, kinds := [], alts := [], laidByText := true, laidKinds := [.sentinel], laidTests := true, laidLooks := .later }
def FnExactLegalCallsUptoCardSaid : Prop := Claim7.holds Tryd.pinned (.plain (OpenSpec.upto fnExactLegalCallsSpec)) fnExactLegalCallsUptoCard
end Rows
end Go.Proofs.YtfajdbfpacmclaaDoor
