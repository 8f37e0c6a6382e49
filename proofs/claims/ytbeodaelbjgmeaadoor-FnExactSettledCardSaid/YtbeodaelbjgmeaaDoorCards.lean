/-
  DERIVED. GIVEN WITH THE SEED: THE CARDS: each row of YtbeodaelbjgmeaaDoorRows.lean that lists a variable, with what it lists TIED to the program's text (the seventh form; the later family's looks); each row that meets fmt, with fmt's text TOLD by the authors' own Lean function (tested against real Go, not proved from fmt's source: count such statements apart). THE CARD IS WHAT COUNTS. Prove the row's statement (the work); the ties are given (YtbeodaelbjgmeaaDoorTie.lean); close each card by the builder's one call (the guide's Derived/Test/ToyasCard.lean, 'card_holds'). Laid BY PROGRAM, IN A SANDBOX (cutbox-door.mjs). By AI agents, Wed Nov 11 2026. No macro, syntax, notation, axiom, sorry.
-/
import Derived.Test.YtbeodaelbjgmeaaDoorRows
import GoSem.ClaimSeven
namespace Go.Proofs.YtbeodaelbjgmeaaDoor
namespace Rows

/-- THE TIED CARD OF 'laws.FnExactIsGame'. -/
def fnExactIsGameCard : Claim7 := { stood := { row := fnExactIsGameRow, standIns := [], harness := (true, "f73c064b3e179454727698c88e100246b875eed99e923796d517855a489b45ae"), looks := false }, kinds := [], alts := [], laidByText := true, laidKinds := [.data, .data, .data, .data, .data, .data, .data], laidTests := true, laidLooks := .later }
def FnExactIsGameCardSaid : Prop := Claim7.holds Tryd.pinned (.plain (OpenSpec.ofChange fnExactIsGameSpec)) fnExactIsGameCard

/-- THE TIED CARD OF 'laws.FnExactWinner'. -/
def fnExactWinnerCard : Claim7 := { stood := { row := fnExactWinnerRow, standIns := [], harness := (true, "f73c064b3e179454727698c88e100246b875eed99e923796d517855a489b45ae"), looks := false }, kinds := [], alts := [], laidByText := true, laidKinds := [.data, .data, .data, .data, .data, .data, .data], laidTests := true, laidLooks := .later }
def FnExactWinnerCardSaid : Prop := Claim7.holds Tryd.pinned (.plain (OpenSpec.ofChange fnExactWinnerSpec)) fnExactWinnerCard

/-- THE TIED CARD OF 'laws.FnExactIsEnded'. -/
def fnExactIsEndedCard : Claim7 := { stood := { row := fnExactIsEndedRow, standIns := [], harness := (true, "f73c064b3e179454727698c88e100246b875eed99e923796d517855a489b45ae"), looks := false }, kinds := [], alts := [], laidByText := true, laidKinds := [.data, .data, .data, .data, .data, .data, .data], laidTests := true, laidLooks := .later }
def FnExactIsEndedCardSaid : Prop := Claim7.holds Tryd.pinned (.plain (OpenSpec.ofChange fnExactIsEndedSpec)) fnExactIsEndedCard

/-- THE TIED CARD OF 'laws.FnExactMovesLeft'. -/
def fnExactMovesLeftCard : Claim7 := { stood := { row := fnExactMovesLeftRow, standIns := [], harness := (true, "f73c064b3e179454727698c88e100246b875eed99e923796d517855a489b45ae"), looks := false }, kinds := [], alts := [], laidByText := true, laidKinds := [.data, .data, .data, .data, .data, .data, .data], laidTests := true, laidLooks := .later }
def FnExactMovesLeftCardSaid : Prop := Claim7.holds Tryd.pinned (.plain (OpenSpec.ofChange fnExactMovesLeftSpec)) fnExactMovesLeftCard

/-- THE TIED CARD OF 'laws.FnExactIsDrawn'. -/
def fnExactIsDrawnCard : Claim7 := { stood := { row := fnExactIsDrawnRow, standIns := [], harness := (true, "f73c064b3e179454727698c88e100246b875eed99e923796d517855a489b45ae"), looks := false }, kinds := [], alts := [], laidByText := true, laidKinds := [.data, .data, .data, .data, .data, .data, .data], laidTests := true, laidLooks := .later }
def FnExactIsDrawnCardSaid : Prop := Claim7.holds Tryd.pinned (.plain (OpenSpec.ofChange fnExactIsDrawnSpec)) fnExactIsDrawnCard

/-- THE TIED CARD OF 'laws.FnExactLoser'. -/
def fnExactLoserCard : Claim7 := { stood := { row := fnExactLoserRow, standIns := [], harness := (true, "f73c064b3e179454727698c88e100246b875eed99e923796d517855a489b45ae"), looks := false }, kinds := [], alts := [], laidByText := true, laidKinds := [.data, .data, .data, .data, .data, .data, .data], laidTests := true, laidLooks := .later }
def FnExactLoserCardSaid : Prop := Claim7.holds Tryd.pinned (.plain (OpenSpec.ofChange fnExactLoserSpec)) fnExactLoserCard

/-- THE TIED CARD OF 'laws.FnExactSettled'. -/
def fnExactSettledCard : Claim7 := { stood := { row := fnExactSettledRow, standIns := [], harness := (true, "f73c064b3e179454727698c88e100246b875eed99e923796d517855a489b45ae"), looks := false }, kinds := [], alts := [], laidByText := true, laidKinds := [.data, .data, .data, .data, .data, .data, .data], laidTests := true, laidLooks := .later }
def FnExactSettledCardSaid : Prop := Claim7.holds Tryd.pinned (.plain (OpenSpec.ofChange fnExactSettledSpec)) fnExactSettledCard

/-- THE SECOND FORM's CARD OF 'laws.FnExactIsGame'. -/
def fnExactIsGameUptoCard : Claim7 := { stood := { row := fnExactIsGameUptoRow, standIns := [], harness := (true, "f73c064b3e179454727698c88e100246b875eed99e923796d517855a489b45ae"), looks := false }, kinds := [], alts := [], laidByText := true, laidKinds := [.data, .data, .data, .data, .data, .data, .data], laidTests := true, laidLooks := .later }
def FnExactIsGameUptoCardSaid : Prop := Claim7.holds Tryd.pinned (.plain (OpenSpec.upto fnExactIsGameSpec)) fnExactIsGameUptoCard

/-- THE SECOND FORM's CARD OF 'laws.FnExactWinner'. -/
def fnExactWinnerUptoCard : Claim7 := { stood := { row := fnExactWinnerUptoRow, standIns := [], harness := (true, "f73c064b3e179454727698c88e100246b875eed99e923796d517855a489b45ae"), looks := false }, kinds := [], alts := [], laidByText := true, laidKinds := [.data, .data, .data, .data, .data, .data, .data], laidTests := true, laidLooks := .later }
def FnExactWinnerUptoCardSaid : Prop := Claim7.holds Tryd.pinned (.plain (OpenSpec.upto fnExactWinnerSpec)) fnExactWinnerUptoCard

/-- THE SECOND FORM's CARD OF 'laws.FnExactIsEnded'. -/
def fnExactIsEndedUptoCard : Claim7 := { stood := { row := fnExactIsEndedUptoRow, standIns := [], harness := (true, "f73c064b3e179454727698c88e100246b875eed99e923796d517855a489b45ae"), looks := false }, kinds := [], alts := [], laidByText := true, laidKinds := [.data, .data, .data, .data, .data, .data, .data], laidTests := true, laidLooks := .later }
def FnExactIsEndedUptoCardSaid : Prop := Claim7.holds Tryd.pinned (.plain (OpenSpec.upto fnExactIsEndedSpec)) fnExactIsEndedUptoCard

/-- THE SECOND FORM's CARD OF 'laws.FnExactMovesLeft'. -/
def fnExactMovesLeftUptoCard : Claim7 := { stood := { row := fnExactMovesLeftUptoRow, standIns := [], harness := (true, "f73c064b3e179454727698c88e100246b875eed99e923796d517855a489b45ae"), looks := false }, kinds := [], alts := [], laidByText := true, laidKinds := [.data, .data, .data, .data, .data, .data, .data], laidTests := true, laidLooks := .later }
def FnExactMovesLeftUptoCardSaid : Prop := Claim7.holds Tryd.pinned (.plain (OpenSpec.upto fnExactMovesLeftSpec)) fnExactMovesLeftUptoCard

/-- THE SECOND FORM's CARD OF 'laws.FnExactIsDrawn'. -/
def fnExactIsDrawnUptoCard : Claim7 := { stood := { row := fnExactIsDrawnUptoRow, standIns := [], harness := (true, "f73c064b3e179454727698c88e100246b875eed99e923796d517855a489b45ae"), looks := false }, kinds := [], alts := [], laidByText := true, laidKinds := [.data, .data, .data, .data, .data, .data, .data], laidTests := true, laidLooks := .later }
def FnExactIsDrawnUptoCardSaid : Prop := Claim7.holds Tryd.pinned (.plain (OpenSpec.upto fnExactIsDrawnSpec)) fnExactIsDrawnUptoCard

/-- THE SECOND FORM's CARD OF 'laws.FnExactLoser'. -/
def fnExactLoserUptoCard : Claim7 := { stood := { row := fnExactLoserUptoRow, standIns := [], harness := (true, "f73c064b3e179454727698c88e100246b875eed99e923796d517855a489b45ae"), looks := false }, kinds := [], alts := [], laidByText := true, laidKinds := [.data, .data, .data, .data, .data, .data, .data], laidTests := true, laidLooks := .later }
def FnExactLoserUptoCardSaid : Prop := Claim7.holds Tryd.pinned (.plain (OpenSpec.upto fnExactLoserSpec)) fnExactLoserUptoCard

/-- THE SECOND FORM's CARD OF 'laws.FnExactSettled'. -/
def fnExactSettledUptoCard : Claim7 := { stood := { row := fnExactSettledUptoRow, standIns := [], harness := (true, "f73c064b3e179454727698c88e100246b875eed99e923796d517855a489b45ae"), looks := false }, kinds := [], alts := [], laidByText := true, laidKinds := [.data, .data, .data, .data, .data, .data, .data], laidTests := true, laidLooks := .later }
def FnExactSettledUptoCardSaid : Prop := Claim7.holds Tryd.pinned (.plain (OpenSpec.upto fnExactSettledSpec)) fnExactSettledUptoCard
end Rows
end Go.Proofs.YtbeodaelbjgmeaaDoor
