/-
  DERIVED. GIVEN WITH THE SEED: THE CARDS: each row of YtnllhaplgijlcaaDoorRows.lean that lists a variable, with what it lists TIED to the program's text (the seventh form; the later family's looks); each row that meets fmt, with fmt's text TOLD by the authors' own Lean function (tested against real Go, not proved from fmt's source: count such statements apart). THE CARD IS WHAT COUNTS. Prove the row's statement (the work); the ties are given (YtnllhaplgijlcaaDoorTie.lean); close each card by the builder's one call (the guide's Derived/Test/ToyasCard.lean, 'card_holds'). Laid BY PROGRAM, IN A SANDBOX (cutbox-door.mjs). By AI agents, Wed Nov 11 2026. No macro, syntax, notation, axiom, sorry.
-/
import Derived.Test.YtnllhaplgijlcaaDoorRows
import GoSem.ClaimSeven
namespace Go.Proofs.YtnllhaplgijlcaaDoor
namespace Rows

/-- THE TIED CARD OF 'laws.FnExactTurnOf'. -/
def fnExactTurnOfCard : Claim7 := { stood := { row := fnExactTurnOfRow, standIns := [], harness := (true, "680ea070a9c1d3dd283b583eab080462f78029ca52991f57a44833be77d97552"), looks := true }, kinds := [], alts := [], laidByText := true, laidKinds := [.sentinel, .sentinel], laidTests := true, laidLooks := .later }
def FnExactTurnOfCardSaid : Prop := Claim7.holds Tryd.pinned (.plain (OpenSpec.ofChange fnExactTurnOfSpec)) fnExactTurnOfCard

/-- THE TIED CARD OF 'laws.FnExactIsOver'. -/
def fnExactIsOverCard : Claim7 := { stood := { row := fnExactIsOverRow, standIns := [], harness := (true, "680ea070a9c1d3dd283b583eab080462f78029ca52991f57a44833be77d97552"), looks := true }, kinds := [], alts := [], laidByText := true, laidKinds := [.sentinel, .sentinel], laidTests := true, laidLooks := .later }
def FnExactIsOverCardSaid : Prop := Claim7.holds Tryd.pinned (.plain (OpenSpec.ofChange fnExactIsOverSpec)) fnExactIsOverCard

/-- THE TIED CARD OF 'laws.FnExactIsDeal'. -/
def fnExactIsDealCard : Claim7 := { stood := { row := fnExactIsDealRow, standIns := [], harness := (true, "680ea070a9c1d3dd283b583eab080462f78029ca52991f57a44833be77d97552"), looks := true }, kinds := [], alts := [], laidByText := true, laidKinds := [.sentinel, .sentinel], laidTests := true, laidLooks := .later }
def FnExactIsDealCardSaid : Prop := Claim7.holds Tryd.pinned (.plain (OpenSpec.ofChange fnExactIsDealSpec)) fnExactIsDealCard

/-- THE TIED CARD OF 'laws.FnExactNewDeal'. -/
def fnExactNewDealCard : Claim7 := { stood := { row := fnExactNewDealRow, standIns := [], harness := (true, "680ea070a9c1d3dd283b583eab080462f78029ca52991f57a44833be77d97552"), looks := true }, kinds := [], alts := [], laidByText := true, laidKinds := [.sentinel, .sentinel], laidTests := true, laidLooks := .later }
def FnExactNewDealCardSaid : Prop := Claim7.holds Tryd.pinned (.plain (OpenSpec.ofChange fnExactNewDealSpec)) fnExactNewDealCard

/-- THE TIED CARD OF 'laws.FnExactPlayCard'. -/
def fnExactPlayCardCard : Claim7 := { stood := { row := fnExactPlayCardRow, standIns := [], harness := (true, "680ea070a9c1d3dd283b583eab080462f78029ca52991f57a44833be77d97552"), looks := true }, kinds := [], alts := [], laidByText := true, laidKinds := [.sentinel, .sentinel], laidTests := true, laidLooks := .later }
def FnExactPlayCardCardSaid : Prop := Claim7.holds Tryd.pinned (.plain (OpenSpec.ofChange fnExactPlayCardSpec)) fnExactPlayCardCard

/-- THE TIED CARD OF 'laws.FnExactPlayAll'. -/
def fnExactPlayAllCard : Claim7 := { stood := { row := fnExactPlayAllRow, standIns := [], harness := (true, "680ea070a9c1d3dd283b583eab080462f78029ca52991f57a44833be77d97552"), looks := true }, kinds := [], alts := [], laidByText := true, laidKinds := [.sentinel, .sentinel], laidTests := true, laidLooks := .later }
def FnExactPlayAllCardSaid : Prop := Claim7.holds Tryd.pinned (.plain (OpenSpec.ofChange fnExactPlayAllSpec)) fnExactPlayAllCard

/-- THE TIED CARD OF 'laws.FnExactDealt'. -/
def fnExactDealtCard : Claim7 := { stood := { row := fnExactDealtRow, standIns := [], harness := (true, "680ea070a9c1d3dd283b583eab080462f78029ca52991f57a44833be77d97552"), looks := true }, kinds := [], alts := [], laidByText := true, laidKinds := [.handle], laidTests := true, laidLooks := .later }
def FnExactDealtCardSaid : Prop := Claim7.holds Tryd.pinned (.plain (OpenSpec.ofChange fnExactDealtSpec)) fnExactDealtCard

/-- THE SECOND FORM's CARD OF 'laws.FnExactTurnOf'. -/
def fnExactTurnOfUptoCard : Claim7 := { stood := { row := fnExactTurnOfUptoRow, standIns := [], harness := (true, "680ea070a9c1d3dd283b583eab080462f78029ca52991f57a44833be77d97552"), looks := true }, kinds := [], alts := [], laidByText := true, laidKinds := [.sentinel, .sentinel], laidTests := true, laidLooks := .later }
def FnExactTurnOfUptoCardSaid : Prop := Claim7.holds Tryd.pinned (.plain (OpenSpec.upto fnExactTurnOfSpec)) fnExactTurnOfUptoCard

/-- THE SECOND FORM's CARD OF 'laws.FnExactIsOver'. -/
def fnExactIsOverUptoCard : Claim7 := { stood := { row := fnExactIsOverUptoRow, standIns := [], harness := (true, "680ea070a9c1d3dd283b583eab080462f78029ca52991f57a44833be77d97552"), looks := true }, kinds := [], alts := [], laidByText := true, laidKinds := [.sentinel, .sentinel], laidTests := true, laidLooks := .later }
def FnExactIsOverUptoCardSaid : Prop := Claim7.holds Tryd.pinned (.plain (OpenSpec.upto fnExactIsOverSpec)) fnExactIsOverUptoCard

/-- THE SECOND FORM's CARD OF 'laws.FnExactIsDeal'. -/
def fnExactIsDealUptoCard : Claim7 := { stood := { row := fnExactIsDealUptoRow, standIns := [], harness := (true, "680ea070a9c1d3dd283b583eab080462f78029ca52991f57a44833be77d97552"), looks := true }, kinds := [], alts := [], laidByText := true, laidKinds := [.sentinel, .sentinel], laidTests := true, laidLooks := .later }
def FnExactIsDealUptoCardSaid : Prop := Claim7.holds Tryd.pinned (.plain (OpenSpec.upto fnExactIsDealSpec)) fnExactIsDealUptoCard

/-- THE SECOND FORM's CARD OF 'laws.FnExactNewDeal'. -/
def fnExactNewDealUptoCard : Claim7 := { stood := { row := fnExactNewDealUptoRow, standIns := [], harness := (true, "680ea070a9c1d3dd283b583eab080462f78029ca52991f57a44833be77d97552"), looks := true }, kinds := [], alts := [], laidByText := true, laidKinds := [.sentinel, .sentinel], laidTests := true, laidLooks := .later }
def FnExactNewDealUptoCardSaid : Prop := Claim7.holds Tryd.pinned (.plain (OpenSpec.upto fnExactNewDealSpec)) fnExactNewDealUptoCard

/-- THE SECOND FORM's CARD OF 'laws.FnExactPlayCard'. -/
def fnExactPlayCardUptoCard : Claim7 := { stood := { row := fnExactPlayCardUptoRow, standIns := [], harness := (true, "680ea070a9c1d3dd283b583eab080462f78029ca52991f57a44833be77d97552"), looks := true }, kinds := [], alts := [], laidByText := true, laidKinds := [.sentinel, .sentinel], laidTests := true, laidLooks := .later }
def FnExactPlayCardUptoCardSaid : Prop := Claim7.holds Tryd.pinned (.plain (OpenSpec.upto fnExactPlayCardSpec)) fnExactPlayCardUptoCard

/-- THE SECOND FORM's CARD OF 'laws.FnExactPlayAll'. -/
def fnExactPlayAllUptoCard : Claim7 := { stood := { row := fnExactPlayAllUptoRow, standIns := [], harness := (true, "680ea070a9c1d3dd283b583eab080462f78029ca52991f57a44833be77d97552"), looks := true }, kinds := [], alts := [], laidByText := true, laidKinds := [.sentinel, .sentinel], laidTests := true, laidLooks := .later }
def FnExactPlayAllUptoCardSaid : Prop := Claim7.holds Tryd.pinned (.plain (OpenSpec.upto fnExactPlayAllSpec)) fnExactPlayAllUptoCard

/-- THE SECOND FORM's CARD OF 'laws.FnExactDealt'. -/
def fnExactDealtUptoCard : Claim7 := { stood := { row := fnExactDealtUptoRow, standIns := [], harness := (true, "680ea070a9c1d3dd283b583eab080462f78029ca52991f57a44833be77d97552"), looks := true }, kinds := [], alts := [], laidByText := true, laidKinds := [.handle], laidTests := true, laidLooks := .later }
def FnExactDealtUptoCardSaid : Prop := Claim7.holds Tryd.pinned (.plain (OpenSpec.upto fnExactDealtSpec)) fnExactDealtUptoCard
end Rows
end Go.Proofs.YtnllhaplgijlcaaDoor
