/-
  DERIVED. GIVEN WITH THE SEED: THE CARDS: each row of YtigmglmcdnekoaaDoorRows.lean that lists a variable, with what it lists TIED to the program's text (the seventh form; the later family's looks); each row that meets fmt, with fmt's text TOLD by the authors' own Lean function (tested against real Go, not proved from fmt's source: count such statements apart). THE CARD IS WHAT COUNTS. Prove the row's statement (the work); the ties are given (YtigmglmcdnekoaaDoorTie.lean); close each card by the builder's one call (the guide's Derived/Test/ToyasCard.lean, 'card_holds'). Laid BY PROGRAM, IN A SANDBOX (cutbox-door.mjs). By AI agents, Wed Nov 11 2026. No macro, syntax, notation, axiom, sorry.
-/
import Derived.Test.YtigmglmcdnekoaaDoorRows
import GoSem.ClaimSeven
namespace Go.Proofs.YtigmglmcdnekoaaDoor
namespace Rows

/-- THE TIED CARD OF 'laws.FnExactMissing'. -/
def fnExactMissingCard : Claim7 := { stood := { row := fnExactMissingRow, standIns := [], harness := (true, "54d7293989476dee261edc4ab09d15b711e87747431d59952045d212b0e0c9c2"), looks := true }, kinds := [], alts := [], laidByText := true, laidKinds := [.data], laidTests := true, laidLooks := .later }
def FnExactMissingCardSaid : Prop := Claim7.holds Tryd.pinned (.plain (OpenSpec.ofChange fnExactMissingSpec)) fnExactMissingCard

/-- THE TIED CARD OF 'laws.FnExactShuffled'. -/
def fnExactShuffledCard : Claim7 := { stood := { row := fnExactShuffledRow, standIns := [], harness := (true, "54d7293989476dee261edc4ab09d15b711e87747431d59952045d212b0e0c9c2"), looks := true }, kinds := [], alts := [], laidByText := true, laidKinds := [.sentinel, .sentinel], laidTests := true, laidLooks := .later }
def FnExactShuffledCardSaid : Prop := Claim7.holds Tryd.pinned (.plain (OpenSpec.ofChange fnExactShuffledSpec)) fnExactShuffledCard

/-- THE TIED CARD OF 'laws.FnExactJointDeck'. -/
def fnExactJointDeckCard : Claim7 := { stood := { row := fnExactJointDeckRow, standIns := [], harness := (true, "54d7293989476dee261edc4ab09d15b711e87747431d59952045d212b0e0c9c2"), looks := true }, kinds := [], alts := [], laidByText := true, laidKinds := [.sentinel, .sentinel], laidTests := true, laidLooks := .later }
def FnExactJointDeckCardSaid : Prop := Claim7.holds Tryd.pinned (.plain (OpenSpec.ofChange fnExactJointDeckSpec)) fnExactJointDeckCard

/-- THE TIED CARD OF 'laws.FnExactIsPattern'. -/
def fnExactIsPatternCard : Claim7 := { stood := { row := fnExactIsPatternRow, standIns := [], harness := (true, "54d7293989476dee261edc4ab09d15b711e87747431d59952045d212b0e0c9c2"), looks := true }, kinds := [], alts := [], laidByText := true, laidKinds := [.data, .data, .data, .data, .data, .data, .data], laidTests := true, laidLooks := .later }
def FnExactIsPatternCardSaid : Prop := Claim7.holds Tryd.pinned (.plain (OpenSpec.ofChange fnExactIsPatternSpec)) fnExactIsPatternCard

/-- THE TIED CARD OF 'laws.FnExactMatches'. -/
def fnExactMatchesCard : Claim7 := { stood := { row := fnExactMatchesRow, standIns := [], harness := (true, "54d7293989476dee261edc4ab09d15b711e87747431d59952045d212b0e0c9c2"), looks := true }, kinds := [], alts := [], laidByText := true, laidKinds := [.data, .data, .data, .data, .data, .data, .data], laidTests := true, laidLooks := .later }
def FnExactMatchesCardSaid : Prop := Claim7.holds Tryd.pinned (.plain (OpenSpec.ofChange fnExactMatchesSpec)) fnExactMatchesCard

/-- THE TIED CARD OF 'laws.FnExactCountMatches'. -/
def fnExactCountMatchesCard : Claim7 := { stood := { row := fnExactCountMatchesRow, standIns := [], harness := (true, "54d7293989476dee261edc4ab09d15b711e87747431d59952045d212b0e0c9c2"), looks := true }, kinds := [], alts := [], laidByText := true, laidKinds := [.data, .data, .data, .data, .data, .data, .data], laidTests := true, laidLooks := .later }
def FnExactCountMatchesCardSaid : Prop := Claim7.holds Tryd.pinned (.plain (OpenSpec.ofChange fnExactCountMatchesSpec)) fnExactCountMatchesCard

/-- THE TIED CARD OF 'laws.FnExactMatchSet'. -/
def fnExactMatchSetCard : Claim7 := { stood := { row := fnExactMatchSetRow, standIns := [], harness := (true, "54d7293989476dee261edc4ab09d15b711e87747431d59952045d212b0e0c9c2"), looks := true }, kinds := [], alts := [], laidByText := true, laidKinds := [.data, .data, .data, .data, .data, .data, .data], laidTests := true, laidLooks := .later }
def FnExactMatchSetCardSaid : Prop := Claim7.holds Tryd.pinned (.plain (OpenSpec.ofChange fnExactMatchSetSpec)) fnExactMatchSetCard

/-- THE TIED CARD OF 'laws.FnExactNotPattern'. -/
def fnExactNotPatternCard : Claim7 := { stood := { row := fnExactNotPatternRow, standIns := [], harness := (true, "54d7293989476dee261edc4ab09d15b711e87747431d59952045d212b0e0c9c2"), looks := true }, kinds := [], alts := [], laidByText := true, laidKinds := [.data, .data, .data, .data, .data, .data, .data], laidTests := true, laidLooks := .later }
def FnExactNotPatternCardSaid : Prop := Claim7.holds Tryd.pinned (.plain (OpenSpec.ofChange fnExactNotPatternSpec)) fnExactNotPatternCard

/-- THE TIED CARD OF 'laws.FnExactAlikePatterns'. -/
def fnExactAlikePatternsCard : Claim7 := { stood := { row := fnExactAlikePatternsRow, standIns := [], harness := (true, "54d7293989476dee261edc4ab09d15b711e87747431d59952045d212b0e0c9c2"), looks := true }, kinds := [], alts := [], laidByText := true, laidKinds := [.data, .data, .data, .data, .data, .data, .data], laidTests := true, laidLooks := .later }
def FnExactAlikePatternsCardSaid : Prop := Claim7.holds Tryd.pinned (.plain (OpenSpec.ofChange fnExactAlikePatternsSpec)) fnExactAlikePatternsCard

/-- THE TIED CARD OF 'laws.FnExactIsDeal'. -/
def fnExactIsDealCard : Claim7 := { stood := { row := fnExactIsDealRow, standIns := [], harness := (true, "54d7293989476dee261edc4ab09d15b711e87747431d59952045d212b0e0c9c2"), looks := true }, kinds := [], alts := [], laidByText := true, laidKinds := [.sentinel, .sentinel], laidTests := true, laidLooks := .later }
def FnExactIsDealCardSaid : Prop := Claim7.holds Tryd.pinned (.plain (OpenSpec.ofChange fnExactIsDealSpec)) fnExactIsDealCard

/-- THE TIED CARD OF 'laws.FnExactIsOver'. -/
def fnExactIsOverCard : Claim7 := { stood := { row := fnExactIsOverRow, standIns := [], harness := (true, "54d7293989476dee261edc4ab09d15b711e87747431d59952045d212b0e0c9c2"), looks := true }, kinds := [], alts := [], laidByText := true, laidKinds := [.sentinel, .sentinel], laidTests := true, laidLooks := .later }
def FnExactIsOverCardSaid : Prop := Claim7.holds Tryd.pinned (.plain (OpenSpec.ofChange fnExactIsOverSpec)) fnExactIsOverCard

/-- THE TIED CARD OF 'laws.FnCalls'. -/
def fnCallsCard : Claim7 := { stood := { row := fnCallsRow, standIns := [], harness := (true, "54d7293989476dee261edc4ab09d15b711e87747431d59952045d212b0e0c9c2"), looks := true }, kinds := [], alts := [], laidByText := true, laidKinds := [.sentinel], laidTests := true, laidLooks := .later }
def FnCallsCardSaid : Prop := Claim7.holds Tryd.pinned (.plain (OpenSpec.ofChange fnCallsSpec)) fnCallsCard

/-- THE SECOND FORM's CARD OF 'laws.FnExactMissing'. -/
def fnExactMissingUptoCard : Claim7 := { stood := { row := fnExactMissingUptoRow, standIns := [], harness := (true, "54d7293989476dee261edc4ab09d15b711e87747431d59952045d212b0e0c9c2"), looks := true }, kinds := [], alts := [], laidByText := true, laidKinds := [.data], laidTests := true, laidLooks := .later }
def FnExactMissingUptoCardSaid : Prop := Claim7.holds Tryd.pinned (.plain (OpenSpec.upto fnExactMissingSpec)) fnExactMissingUptoCard

/-- THE SECOND FORM's CARD OF 'laws.FnExactShuffled'. -/
def fnExactShuffledUptoCard : Claim7 := { stood := { row := fnExactShuffledUptoRow, standIns := [], harness := (true, "54d7293989476dee261edc4ab09d15b711e87747431d59952045d212b0e0c9c2"), looks := true }, kinds := [], alts := [], laidByText := true, laidKinds := [.sentinel, .sentinel], laidTests := true, laidLooks := .later }
def FnExactShuffledUptoCardSaid : Prop := Claim7.holds Tryd.pinned (.plain (OpenSpec.upto fnExactShuffledSpec)) fnExactShuffledUptoCard

/-- THE SECOND FORM's CARD OF 'laws.FnExactJointDeck'. -/
def fnExactJointDeckUptoCard : Claim7 := { stood := { row := fnExactJointDeckUptoRow, standIns := [], harness := (true, "54d7293989476dee261edc4ab09d15b711e87747431d59952045d212b0e0c9c2"), looks := true }, kinds := [], alts := [], laidByText := true, laidKinds := [.sentinel, .sentinel], laidTests := true, laidLooks := .later }
def FnExactJointDeckUptoCardSaid : Prop := Claim7.holds Tryd.pinned (.plain (OpenSpec.upto fnExactJointDeckSpec)) fnExactJointDeckUptoCard

/-- THE SECOND FORM's CARD OF 'laws.FnExactIsPattern'. -/
def fnExactIsPatternUptoCard : Claim7 := { stood := { row := fnExactIsPatternUptoRow, standIns := [], harness := (true, "54d7293989476dee261edc4ab09d15b711e87747431d59952045d212b0e0c9c2"), looks := true }, kinds := [], alts := [], laidByText := true, laidKinds := [.data, .data, .data, .data, .data, .data, .data], laidTests := true, laidLooks := .later }
def FnExactIsPatternUptoCardSaid : Prop := Claim7.holds Tryd.pinned (.plain (OpenSpec.upto fnExactIsPatternSpec)) fnExactIsPatternUptoCard

/-- THE SECOND FORM's CARD OF 'laws.FnExactMatches'. -/
def fnExactMatchesUptoCard : Claim7 := { stood := { row := fnExactMatchesUptoRow, standIns := [], harness := (true, "54d7293989476dee261edc4ab09d15b711e87747431d59952045d212b0e0c9c2"), looks := true }, kinds := [], alts := [], laidByText := true, laidKinds := [.data, .data, .data, .data, .data, .data, .data], laidTests := true, laidLooks := .later }
def FnExactMatchesUptoCardSaid : Prop := Claim7.holds Tryd.pinned (.plain (OpenSpec.upto fnExactMatchesSpec)) fnExactMatchesUptoCard

/-- THE SECOND FORM's CARD OF 'laws.FnExactCountMatches'. -/
def fnExactCountMatchesUptoCard : Claim7 := { stood := { row := fnExactCountMatchesUptoRow, standIns := [], harness := (true, "54d7293989476dee261edc4ab09d15b711e87747431d59952045d212b0e0c9c2"), looks := true }, kinds := [], alts := [], laidByText := true, laidKinds := [.data, .data, .data, .data, .data, .data, .data], laidTests := true, laidLooks := .later }
def FnExactCountMatchesUptoCardSaid : Prop := Claim7.holds Tryd.pinned (.plain (OpenSpec.upto fnExactCountMatchesSpec)) fnExactCountMatchesUptoCard

/-- THE SECOND FORM's CARD OF 'laws.FnExactMatchSet'. -/
def fnExactMatchSetUptoCard : Claim7 := { stood := { row := fnExactMatchSetUptoRow, standIns := [], harness := (true, "54d7293989476dee261edc4ab09d15b711e87747431d59952045d212b0e0c9c2"), looks := true }, kinds := [], alts := [], laidByText := true, laidKinds := [.data, .data, .data, .data, .data, .data, .data], laidTests := true, laidLooks := .later }
def FnExactMatchSetUptoCardSaid : Prop := Claim7.holds Tryd.pinned (.plain (OpenSpec.upto fnExactMatchSetSpec)) fnExactMatchSetUptoCard

/-- THE SECOND FORM's CARD OF 'laws.FnExactNotPattern'. -/
def fnExactNotPatternUptoCard : Claim7 := { stood := { row := fnExactNotPatternUptoRow, standIns := [], harness := (true, "54d7293989476dee261edc4ab09d15b711e87747431d59952045d212b0e0c9c2"), looks := true }, kinds := [], alts := [], laidByText := true, laidKinds := [.data, .data, .data, .data, .data, .data, .data], laidTests := true, laidLooks := .later }
def FnExactNotPatternUptoCardSaid : Prop := Claim7.holds Tryd.pinned (.plain (OpenSpec.upto fnExactNotPatternSpec)) fnExactNotPatternUptoCard

/-- THE SECOND FORM's CARD OF 'laws.FnExactAlikePatterns'. -/
def fnExactAlikePatternsUptoCard : Claim7 := { stood := { row := fnExactAlikePatternsUptoRow, standIns := [], harness := (true, "54d7293989476dee261edc4ab09d15b711e87747431d59952045d212b0e0c9c2"), looks := true }, kinds := [], alts := [], laidByText := true, laidKinds := [.data, .data, .data, .data, .data, .data, .data], laidTests := true, laidLooks := .later }
def FnExactAlikePatternsUptoCardSaid : Prop := Claim7.holds Tryd.pinned (.plain (OpenSpec.upto fnExactAlikePatternsSpec)) fnExactAlikePatternsUptoCard

/-- THE SECOND FORM's CARD OF 'laws.FnExactIsDeal'. -/
def fnExactIsDealUptoCard : Claim7 := { stood := { row := fnExactIsDealUptoRow, standIns := [], harness := (true, "54d7293989476dee261edc4ab09d15b711e87747431d59952045d212b0e0c9c2"), looks := true }, kinds := [], alts := [], laidByText := true, laidKinds := [.sentinel, .sentinel], laidTests := true, laidLooks := .later }
def FnExactIsDealUptoCardSaid : Prop := Claim7.holds Tryd.pinned (.plain (OpenSpec.upto fnExactIsDealSpec)) fnExactIsDealUptoCard

/-- THE SECOND FORM's CARD OF 'laws.FnExactIsOver'. -/
def fnExactIsOverUptoCard : Claim7 := { stood := { row := fnExactIsOverUptoRow, standIns := [], harness := (true, "54d7293989476dee261edc4ab09d15b711e87747431d59952045d212b0e0c9c2"), looks := true }, kinds := [], alts := [], laidByText := true, laidKinds := [.sentinel, .sentinel], laidTests := true, laidLooks := .later }
def FnExactIsOverUptoCardSaid : Prop := Claim7.holds Tryd.pinned (.plain (OpenSpec.upto fnExactIsOverSpec)) fnExactIsOverUptoCard

/-- THE SECOND FORM's CARD OF 'laws.FnCalls'. -/
def fnCallsUptoCard : Claim7 := { stood := { row := fnCallsUptoRow, standIns := [], harness := (true, "54d7293989476dee261edc4ab09d15b711e87747431d59952045d212b0e0c9c2"), looks := true }, kinds := [], alts := [], laidByText := true, laidKinds := [.sentinel], laidTests := true, laidLooks := .later }
def FnCallsUptoCardSaid : Prop := Claim7.holds Tryd.pinned (.plain (OpenSpec.upto fnCallsSpec)) fnCallsUptoCard
end Rows
end Go.Proofs.YtigmglmcdnekoaaDoor
