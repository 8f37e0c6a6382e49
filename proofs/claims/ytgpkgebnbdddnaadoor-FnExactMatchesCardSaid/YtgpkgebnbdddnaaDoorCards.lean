/-
  DERIVED. GIVEN WITH THE SEED: THE CARDS: each row of YtgpkgebnbdddnaaDoorRows.lean that lists a variable, with what it lists TIED to the program's text (the seventh form; the later family's looks); each row that meets fmt, with fmt's text TOLD by the authors' own Lean function (tested against real Go, not proved from fmt's source: count such statements apart). THE CARD IS WHAT COUNTS. Prove the row's statement (the work); the ties are given (YtgpkgebnbdddnaaDoorTie.lean); close each card by the builder's one call (the guide's Derived/Test/ToyasCard.lean, 'card_holds'). Laid BY PROGRAM, IN A SANDBOX (cutbox-door.mjs). By AI agents, Wed Nov 11 2026. No macro, syntax, notation, axiom, sorry.
-/
import Derived.Test.YtgpkgebnbdddnaaDoorRows
import GoSem.ClaimSeven
namespace Go.Proofs.YtgpkgebnbdddnaaDoor
namespace Rows

/-- THE TIED CARD OF 'laws.FnExactIsPattern'. -/
def fnExactIsPatternCard : Claim7 := { stood := { row := fnExactIsPatternRow, standIns := [], harness := (true, "07c2a4edbb431024d4dc3ffa1c78dcd986247ff6aaf4fbcdef2cf701bfe73056"), looks := true }, kinds := [], alts := [], laidByText := true, laidKinds := [.data, .data, .data, .data, .data, .data, .data], laidTests := true, laidLooks := .later }
def FnExactIsPatternCardSaid : Prop := Claim7.holds Tryd.pinned (.plain (OpenSpec.ofChange fnExactIsPatternSpec)) fnExactIsPatternCard

/-- THE TIED CARD OF 'laws.FnExactMatches'. -/
def fnExactMatchesCard : Claim7 := { stood := { row := fnExactMatchesRow, standIns := [], harness := (true, "07c2a4edbb431024d4dc3ffa1c78dcd986247ff6aaf4fbcdef2cf701bfe73056"), looks := true }, kinds := [], alts := [], laidByText := true, laidKinds := [.data, .data, .data, .data, .data, .data, .data], laidTests := true, laidLooks := .later }
def FnExactMatchesCardSaid : Prop := Claim7.holds Tryd.pinned (.plain (OpenSpec.ofChange fnExactMatchesSpec)) fnExactMatchesCard

/-- THE TIED CARD OF 'laws.FnExactCountMatches'. -/
def fnExactCountMatchesCard : Claim7 := { stood := { row := fnExactCountMatchesRow, standIns := [], harness := (true, "07c2a4edbb431024d4dc3ffa1c78dcd986247ff6aaf4fbcdef2cf701bfe73056"), looks := true }, kinds := [], alts := [], laidByText := true, laidKinds := [.data, .data, .data, .data, .data, .data, .data], laidTests := true, laidLooks := .later }
def FnExactCountMatchesCardSaid : Prop := Claim7.holds Tryd.pinned (.plain (OpenSpec.ofChange fnExactCountMatchesSpec)) fnExactCountMatchesCard

/-- THE TIED CARD OF 'laws.FnExactMatchSet'. -/
def fnExactMatchSetCard : Claim7 := { stood := { row := fnExactMatchSetRow, standIns := [], harness := (true, "07c2a4edbb431024d4dc3ffa1c78dcd986247ff6aaf4fbcdef2cf701bfe73056"), looks := true }, kinds := [], alts := [], laidByText := true, laidKinds := [.data, .data, .data, .data, .data, .data, .data], laidTests := true, laidLooks := .later }
def FnExactMatchSetCardSaid : Prop := Claim7.holds Tryd.pinned (.plain (OpenSpec.ofChange fnExactMatchSetSpec)) fnExactMatchSetCard

/-- THE TIED CARD OF 'laws.FnExactNotPattern'. -/
def fnExactNotPatternCard : Claim7 := { stood := { row := fnExactNotPatternRow, standIns := [], harness := (true, "07c2a4edbb431024d4dc3ffa1c78dcd986247ff6aaf4fbcdef2cf701bfe73056"), looks := true }, kinds := [], alts := [], laidByText := true, laidKinds := [.data, .data, .data, .data, .data, .data, .data], laidTests := true, laidLooks := .later }
def FnExactNotPatternCardSaid : Prop := Claim7.holds Tryd.pinned (.plain (OpenSpec.ofChange fnExactNotPatternSpec)) fnExactNotPatternCard

/-- THE TIED CARD OF 'laws.FnExactAlikePatterns'. -/
def fnExactAlikePatternsCard : Claim7 := { stood := { row := fnExactAlikePatternsRow, standIns := [], harness := (true, "07c2a4edbb431024d4dc3ffa1c78dcd986247ff6aaf4fbcdef2cf701bfe73056"), looks := true }, kinds := [], alts := [], laidByText := true, laidKinds := [.data, .data, .data, .data, .data, .data, .data], laidTests := true, laidLooks := .later }
def FnExactAlikePatternsCardSaid : Prop := Claim7.holds Tryd.pinned (.plain (OpenSpec.ofChange fnExactAlikePatternsSpec)) fnExactAlikePatternsCard

/-- THE TIED CARD OF 'laws.FnExactIsRules'. -/
def fnExactIsRulesCard : Claim7 := { stood := { row := fnExactIsRulesRow, standIns := [], harness := (true, "07c2a4edbb431024d4dc3ffa1c78dcd986247ff6aaf4fbcdef2cf701bfe73056"), looks := true }, kinds := [], alts := [], laidByText := true, laidKinds := [.data, .data, .data, .data, .data, .data, .data], laidTests := true, laidLooks := .later }
def FnExactIsRulesCardSaid : Prop := Claim7.holds Tryd.pinned (.plain (OpenSpec.ofChange fnExactIsRulesSpec)) fnExactIsRulesCard

/-- THE TIED CARD OF 'laws.FnExactDoesSkip'. -/
def fnExactDoesSkipCard : Claim7 := { stood := { row := fnExactDoesSkipRow, standIns := [], harness := (true, "07c2a4edbb431024d4dc3ffa1c78dcd986247ff6aaf4fbcdef2cf701bfe73056"), looks := true }, kinds := [], alts := [], laidByText := true, laidKinds := [.data, .data, .data, .data, .data, .data, .data], laidTests := true, laidLooks := .later }
def FnExactDoesSkipCardSaid : Prop := Claim7.holds Tryd.pinned (.plain (OpenSpec.ofChange fnExactDoesSkipSpec)) fnExactDoesSkipCard

/-- THE TIED CARD OF 'laws.FnExactFitsOn'. -/
def fnExactFitsOnCard : Claim7 := { stood := { row := fnExactFitsOnRow, standIns := [], harness := (true, "07c2a4edbb431024d4dc3ffa1c78dcd986247ff6aaf4fbcdef2cf701bfe73056"), looks := true }, kinds := [], alts := [], laidByText := true, laidKinds := [.data, .data, .data, .data, .data, .data, .data], laidTests := true, laidLooks := .later }
def FnExactFitsOnCardSaid : Prop := Claim7.holds Tryd.pinned (.plain (OpenSpec.ofChange fnExactFitsOnSpec)) fnExactFitsOnCard

/-- THE TIED CARD OF 'laws.FnExactFitCount'. -/
def fnExactFitCountCard : Claim7 := { stood := { row := fnExactFitCountRow, standIns := [], harness := (true, "07c2a4edbb431024d4dc3ffa1c78dcd986247ff6aaf4fbcdef2cf701bfe73056"), looks := true }, kinds := [], alts := [], laidByText := true, laidKinds := [.data, .data, .data, .data, .data, .data, .data], laidTests := true, laidLooks := .later }
def FnExactFitCountCardSaid : Prop := Claim7.holds Tryd.pinned (.plain (OpenSpec.ofChange fnExactFitCountSpec)) fnExactFitCountCard

/-- THE TIED CARD OF 'laws.FnExactSkipsIn'. -/
def fnExactSkipsInCard : Claim7 := { stood := { row := fnExactSkipsInRow, standIns := [], harness := (true, "07c2a4edbb431024d4dc3ffa1c78dcd986247ff6aaf4fbcdef2cf701bfe73056"), looks := true }, kinds := [], alts := [], laidByText := true, laidKinds := [.data, .data, .data, .data, .data, .data, .data], laidTests := true, laidLooks := .later }
def FnExactSkipsInCardSaid : Prop := Claim7.holds Tryd.pinned (.plain (OpenSpec.ofChange fnExactSkipsInSpec)) fnExactSkipsInCard

/-- THE TIED CARD OF 'laws.FnExactWildShare'. -/
def fnExactWildShareCard : Claim7 := { stood := { row := fnExactWildShareRow, standIns := [], harness := (true, "07c2a4edbb431024d4dc3ffa1c78dcd986247ff6aaf4fbcdef2cf701bfe73056"), looks := true }, kinds := [], alts := [], laidByText := true, laidKinds := [.data, .data, .data, .data, .data, .data, .data], laidTests := true, laidLooks := .later }
def FnExactWildShareCardSaid : Prop := Claim7.holds Tryd.pinned (.plain (OpenSpec.ofChange fnExactWildShareSpec)) fnExactWildShareCard

/-- THE TIED CARD OF 'laws.FnExactIsOver'. -/
def fnExactIsOverCard : Claim7 := { stood := { row := fnExactIsOverRow, standIns := [], harness := (true, "07c2a4edbb431024d4dc3ffa1c78dcd986247ff6aaf4fbcdef2cf701bfe73056"), looks := true }, kinds := [], alts := [], laidByText := true, laidKinds := [.sentinel, .sentinel], laidTests := true, laidLooks := .later }
def FnExactIsOverCardSaid : Prop := Claim7.holds Tryd.pinned (.plain (OpenSpec.ofChange fnExactIsOverSpec)) fnExactIsOverCard

/-- THE TIED CARD OF 'laws.FnExactMissing'. -/
def fnExactMissingCard : Claim7 := { stood := { row := fnExactMissingRow, standIns := [], harness := (true, "07c2a4edbb431024d4dc3ffa1c78dcd986247ff6aaf4fbcdef2cf701bfe73056"), looks := true }, kinds := [], alts := [], laidByText := true, laidKinds := [.data], laidTests := true, laidLooks := .later }
def FnExactMissingCardSaid : Prop := Claim7.holds Tryd.pinned (.plain (OpenSpec.ofChange fnExactMissingSpec)) fnExactMissingCard

/-- THE SECOND FORM's CARD OF 'laws.FnExactIsPattern'. -/
def fnExactIsPatternUptoCard : Claim7 := { stood := { row := fnExactIsPatternUptoRow, standIns := [], harness := (true, "07c2a4edbb431024d4dc3ffa1c78dcd986247ff6aaf4fbcdef2cf701bfe73056"), looks := true }, kinds := [], alts := [], laidByText := true, laidKinds := [.data, .data, .data, .data, .data, .data, .data], laidTests := true, laidLooks := .later }
def FnExactIsPatternUptoCardSaid : Prop := Claim7.holds Tryd.pinned (.plain (OpenSpec.upto fnExactIsPatternSpec)) fnExactIsPatternUptoCard

/-- THE SECOND FORM's CARD OF 'laws.FnExactMatches'. -/
def fnExactMatchesUptoCard : Claim7 := { stood := { row := fnExactMatchesUptoRow, standIns := [], harness := (true, "07c2a4edbb431024d4dc3ffa1c78dcd986247ff6aaf4fbcdef2cf701bfe73056"), looks := true }, kinds := [], alts := [], laidByText := true, laidKinds := [.data, .data, .data, .data, .data, .data, .data], laidTests := true, laidLooks := .later }
def FnExactMatchesUptoCardSaid : Prop := Claim7.holds Tryd.pinned (.plain (OpenSpec.upto fnExactMatchesSpec)) fnExactMatchesUptoCard

/-- THE SECOND FORM's CARD OF 'laws.FnExactCountMatches'. -/
def fnExactCountMatchesUptoCard : Claim7 := { stood := { row := fnExactCountMatchesUptoRow, standIns := [], harness := (true, "07c2a4edbb431024d4dc3ffa1c78dcd986247ff6aaf4fbcdef2cf701bfe73056"), looks := true }, kinds := [], alts := [], laidByText := true, laidKinds := [.data, .data, .data, .data, .data, .data, .data], laidTests := true, laidLooks := .later }
def FnExactCountMatchesUptoCardSaid : Prop := Claim7.holds Tryd.pinned (.plain (OpenSpec.upto fnExactCountMatchesSpec)) fnExactCountMatchesUptoCard

/-- THE SECOND FORM's CARD OF 'laws.FnExactMatchSet'. -/
def fnExactMatchSetUptoCard : Claim7 := { stood := { row := fnExactMatchSetUptoRow, standIns := [], harness := (true, "07c2a4edbb431024d4dc3ffa1c78dcd986247ff6aaf4fbcdef2cf701bfe73056"), looks := true }, kinds := [], alts := [], laidByText := true, laidKinds := [.data, .data, .data, .data, .data, .data, .data], laidTests := true, laidLooks := .later }
def FnExactMatchSetUptoCardSaid : Prop := Claim7.holds Tryd.pinned (.plain (OpenSpec.upto fnExactMatchSetSpec)) fnExactMatchSetUptoCard

/-- THE SECOND FORM's CARD OF 'laws.FnExactNotPattern'. -/
def fnExactNotPatternUptoCard : Claim7 := { stood := { row := fnExactNotPatternUptoRow, standIns := [], harness := (true, "07c2a4edbb431024d4dc3ffa1c78dcd986247ff6aaf4fbcdef2cf701bfe73056"), looks := true }, kinds := [], alts := [], laidByText := true, laidKinds := [.data, .data, .data, .data, .data, .data, .data], laidTests := true, laidLooks := .later }
def FnExactNotPatternUptoCardSaid : Prop := Claim7.holds Tryd.pinned (.plain (OpenSpec.upto fnExactNotPatternSpec)) fnExactNotPatternUptoCard

/-- THE SECOND FORM's CARD OF 'laws.FnExactAlikePatterns'. -/
def fnExactAlikePatternsUptoCard : Claim7 := { stood := { row := fnExactAlikePatternsUptoRow, standIns := [], harness := (true, "07c2a4edbb431024d4dc3ffa1c78dcd986247ff6aaf4fbcdef2cf701bfe73056"), looks := true }, kinds := [], alts := [], laidByText := true, laidKinds := [.data, .data, .data, .data, .data, .data, .data], laidTests := true, laidLooks := .later }
def FnExactAlikePatternsUptoCardSaid : Prop := Claim7.holds Tryd.pinned (.plain (OpenSpec.upto fnExactAlikePatternsSpec)) fnExactAlikePatternsUptoCard

/-- THE SECOND FORM's CARD OF 'laws.FnExactIsRules'. -/
def fnExactIsRulesUptoCard : Claim7 := { stood := { row := fnExactIsRulesUptoRow, standIns := [], harness := (true, "07c2a4edbb431024d4dc3ffa1c78dcd986247ff6aaf4fbcdef2cf701bfe73056"), looks := true }, kinds := [], alts := [], laidByText := true, laidKinds := [.data, .data, .data, .data, .data, .data, .data], laidTests := true, laidLooks := .later }
def FnExactIsRulesUptoCardSaid : Prop := Claim7.holds Tryd.pinned (.plain (OpenSpec.upto fnExactIsRulesSpec)) fnExactIsRulesUptoCard

/-- THE SECOND FORM's CARD OF 'laws.FnExactDoesSkip'. -/
def fnExactDoesSkipUptoCard : Claim7 := { stood := { row := fnExactDoesSkipUptoRow, standIns := [], harness := (true, "07c2a4edbb431024d4dc3ffa1c78dcd986247ff6aaf4fbcdef2cf701bfe73056"), looks := true }, kinds := [], alts := [], laidByText := true, laidKinds := [.data, .data, .data, .data, .data, .data, .data], laidTests := true, laidLooks := .later }
def FnExactDoesSkipUptoCardSaid : Prop := Claim7.holds Tryd.pinned (.plain (OpenSpec.upto fnExactDoesSkipSpec)) fnExactDoesSkipUptoCard

/-- THE SECOND FORM's CARD OF 'laws.FnExactFitsOn'. -/
def fnExactFitsOnUptoCard : Claim7 := { stood := { row := fnExactFitsOnUptoRow, standIns := [], harness := (true, "07c2a4edbb431024d4dc3ffa1c78dcd986247ff6aaf4fbcdef2cf701bfe73056"), looks := true }, kinds := [], alts := [], laidByText := true, laidKinds := [.data, .data, .data, .data, .data, .data, .data], laidTests := true, laidLooks := .later }
def FnExactFitsOnUptoCardSaid : Prop := Claim7.holds Tryd.pinned (.plain (OpenSpec.upto fnExactFitsOnSpec)) fnExactFitsOnUptoCard

/-- THE SECOND FORM's CARD OF 'laws.FnExactFitCount'. -/
def fnExactFitCountUptoCard : Claim7 := { stood := { row := fnExactFitCountUptoRow, standIns := [], harness := (true, "07c2a4edbb431024d4dc3ffa1c78dcd986247ff6aaf4fbcdef2cf701bfe73056"), looks := true }, kinds := [], alts := [], laidByText := true, laidKinds := [.data, .data, .data, .data, .data, .data, .data], laidTests := true, laidLooks := .later }
def FnExactFitCountUptoCardSaid : Prop := Claim7.holds Tryd.pinned (.plain (OpenSpec.upto fnExactFitCountSpec)) fnExactFitCountUptoCard

/-- THE SECOND FORM's CARD OF 'laws.FnExactSkipsIn'. -/
def fnExactSkipsInUptoCard : Claim7 := { stood := { row := fnExactSkipsInUptoRow, standIns := [], harness := (true, "07c2a4edbb431024d4dc3ffa1c78dcd986247ff6aaf4fbcdef2cf701bfe73056"), looks := true }, kinds := [], alts := [], laidByText := true, laidKinds := [.data, .data, .data, .data, .data, .data, .data], laidTests := true, laidLooks := .later }
def FnExactSkipsInUptoCardSaid : Prop := Claim7.holds Tryd.pinned (.plain (OpenSpec.upto fnExactSkipsInSpec)) fnExactSkipsInUptoCard

/-- THE SECOND FORM's CARD OF 'laws.FnExactWildShare'. -/
def fnExactWildShareUptoCard : Claim7 := { stood := { row := fnExactWildShareUptoRow, standIns := [], harness := (true, "07c2a4edbb431024d4dc3ffa1c78dcd986247ff6aaf4fbcdef2cf701bfe73056"), looks := true }, kinds := [], alts := [], laidByText := true, laidKinds := [.data, .data, .data, .data, .data, .data, .data], laidTests := true, laidLooks := .later }
def FnExactWildShareUptoCardSaid : Prop := Claim7.holds Tryd.pinned (.plain (OpenSpec.upto fnExactWildShareSpec)) fnExactWildShareUptoCard

/-- THE SECOND FORM's CARD OF 'laws.FnExactIsOver'. -/
def fnExactIsOverUptoCard : Claim7 := { stood := { row := fnExactIsOverUptoRow, standIns := [], harness := (true, "07c2a4edbb431024d4dc3ffa1c78dcd986247ff6aaf4fbcdef2cf701bfe73056"), looks := true }, kinds := [], alts := [], laidByText := true, laidKinds := [.sentinel, .sentinel], laidTests := true, laidLooks := .later }
def FnExactIsOverUptoCardSaid : Prop := Claim7.holds Tryd.pinned (.plain (OpenSpec.upto fnExactIsOverSpec)) fnExactIsOverUptoCard

/-- THE SECOND FORM's CARD OF 'laws.FnExactMissing'. -/
def fnExactMissingUptoCard : Claim7 := { stood := { row := fnExactMissingUptoRow, standIns := [], harness := (true, "07c2a4edbb431024d4dc3ffa1c78dcd986247ff6aaf4fbcdef2cf701bfe73056"), looks := true }, kinds := [], alts := [], laidByText := true, laidKinds := [.data], laidTests := true, laidLooks := .later }
def FnExactMissingUptoCardSaid : Prop := Claim7.holds Tryd.pinned (.plain (OpenSpec.upto fnExactMissingSpec)) fnExactMissingUptoCard
end Rows
end Go.Proofs.YtgpkgebnbdddnaaDoor
