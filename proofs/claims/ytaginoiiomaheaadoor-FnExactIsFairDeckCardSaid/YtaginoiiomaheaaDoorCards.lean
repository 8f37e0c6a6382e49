/-
  DERIVED. GIVEN WITH THE SEED: THE CARDS: each row of YtaginoiiomaheaaDoorRows.lean that lists a variable, with what it lists TIED to the program's text (the seventh form; the later family's looks); each row that meets fmt, with fmt's text TOLD by the authors' own Lean function (tested against real Go, not proved from fmt's source: count such statements apart). THE CARD IS WHAT COUNTS. Prove the row's statement (the work); the ties are given (YtaginoiiomaheaaDoorTie.lean); close each card by the builder's one call (the guide's Derived/Test/ToyasCard.lean, 'card_holds'). Laid BY PROGRAM, IN A SANDBOX (cutbox-door.mjs). By AI agents, Wed Nov 11 2026. No macro, syntax, notation, axiom, sorry.
-/
import Derived.Test.YtaginoiiomaheaaDoorRows
import GoSem.ClaimSeven
namespace Go.Proofs.YtaginoiiomaheaaDoor
namespace Rows

/-- THE TIED CARD OF 'laws.FnExactIsFairDeck'. -/
def fnExactIsFairDeckCard : Claim7 := { stood := { row := fnExactIsFairDeckRow, standIns := [], harness := (true, "361d677e6e557524d73e664ae9b9db8cb057b4700abf6b75e570da8a6620b63c"), looks := true }, kinds := [], alts := [], laidByText := true, laidKinds := [.sentinel, .sentinel], laidTests := true, laidLooks := .later }
def FnExactIsFairDeckCardSaid : Prop := Claim7.holds Tryd.pinned (.plain (OpenSpec.ofChange fnExactIsFairDeckSpec)) fnExactIsFairDeckCard

/-- THE SECOND FORM's CARD OF 'laws.FnExactIsFairDeck'. -/
def fnExactIsFairDeckUptoCard : Claim7 := { stood := { row := fnExactIsFairDeckUptoRow, standIns := [], harness := (true, "361d677e6e557524d73e664ae9b9db8cb057b4700abf6b75e570da8a6620b63c"), looks := true }, kinds := [], alts := [], laidByText := true, laidKinds := [.sentinel, .sentinel], laidTests := true, laidLooks := .later }
def FnExactIsFairDeckUptoCardSaid : Prop := Claim7.holds Tryd.pinned (.plain (OpenSpec.upto fnExactIsFairDeckSpec)) fnExactIsFairDeckUptoCard
end Rows
end Go.Proofs.YtaginoiiomaheaaDoor
