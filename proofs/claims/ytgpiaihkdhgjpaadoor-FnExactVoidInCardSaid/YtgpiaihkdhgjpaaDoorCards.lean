/-
  DERIVED. GIVEN WITH THE SEED: THE CARDS: each row of YtgpiaihkdhgjpaaDoorRows.lean that lists a variable, with what it lists TIED to the program's text (the seventh form; the later family's looks); each row that meets fmt, with fmt's text TOLD by the authors' own Lean function (tested against real Go, not proved from fmt's source: count such statements apart). THE CARD IS WHAT COUNTS. Prove the row's statement (the work); the ties are given (YtgpiaihkdhgjpaaDoorTie.lean); close each card by the builder's one call (the guide's Derived/Test/ToyasCard.lean, 'card_holds'). Laid BY PROGRAM, IN A SANDBOX (cutbox-door.mjs). By AI agents, Wed Nov 11 2026. No macro, syntax, notation, axiom, sorry.
-/
import Derived.Test.YtgpiaihkdhgjpaaDoorRows
import GoSem.ClaimSeven
namespace Go.Proofs.YtgpiaihkdhgjpaaDoor
namespace Rows

/-- THE TIED CARD OF 'laws.FnExactVoidIn'. -/
def fnExactVoidInCard : Claim7 := { stood := { row := fnExactVoidInRow, standIns := [], harness := (true, "e21961f658fe5ab202dcb73c3cba41218801696b941d66019e0cb894a7705a39"), looks := true }, kinds := [], alts := [], laidByText := true, laidKinds := [.sentinel, .sentinel], laidTests := true, laidLooks := .later }
def FnExactVoidInCardSaid : Prop := Claim7.holds Tryd.pinned (.plain (OpenSpec.ofChange fnExactVoidInSpec)) fnExactVoidInCard

/-- THE TIED CARD OF 'laws.FnExactSightOf'. -/
def fnExactSightOfCard : Claim7 := { stood := { row := fnExactSightOfRow, standIns := [], harness := (true, "e21961f658fe5ab202dcb73c3cba41218801696b941d66019e0cb894a7705a39"), looks := true }, kinds := [], alts := [], laidByText := true, laidKinds := [.sentinel, .sentinel], laidTests := true, laidLooks := .later }
def FnExactSightOfCardSaid : Prop := Claim7.holds Tryd.pinned (.plain (OpenSpec.ofChange fnExactSightOfSpec)) fnExactSightOfCard

/-- THE TIED CARD OF 'laws.FnExactNewDeal'. -/
def fnExactNewDealCard : Claim7 := { stood := { row := fnExactNewDealRow, standIns := [], harness := (true, "e21961f658fe5ab202dcb73c3cba41218801696b941d66019e0cb894a7705a39"), looks := true }, kinds := [], alts := [], laidByText := true, laidKinds := [.sentinel, .sentinel], laidTests := true, laidLooks := .later }
def FnExactNewDealCardSaid : Prop := Claim7.holds Tryd.pinned (.plain (OpenSpec.ofChange fnExactNewDealSpec)) fnExactNewDealCard

/-- THE TIED CARD OF 'laws.FnExactSwapHidden'. -/
def fnExactSwapHiddenCard : Claim7 := { stood := { row := fnExactSwapHiddenRow, standIns := [], harness := (true, "e21961f658fe5ab202dcb73c3cba41218801696b941d66019e0cb894a7705a39"), looks := true }, kinds := [], alts := [], laidByText := true, laidKinds := [.sentinel, .sentinel], laidTests := true, laidLooks := .later }
def FnExactSwapHiddenCardSaid : Prop := Claim7.holds Tryd.pinned (.plain (OpenSpec.ofChange fnExactSwapHiddenSpec)) fnExactSwapHiddenCard

/-- THE TIED CARD OF 'laws.FnExactPlayCard'. -/
def fnExactPlayCardCard : Claim7 := { stood := { row := fnExactPlayCardRow, standIns := [], harness := (true, "e21961f658fe5ab202dcb73c3cba41218801696b941d66019e0cb894a7705a39"), looks := true }, kinds := [], alts := [], laidByText := true, laidKinds := [.sentinel, .sentinel], laidTests := true, laidLooks := .later }
def FnExactPlayCardCardSaid : Prop := Claim7.holds Tryd.pinned (.plain (OpenSpec.ofChange fnExactPlayCardSpec)) fnExactPlayCardCard

/-- THE TIED CARD OF 'laws.FnExactPlayAll'. -/
def fnExactPlayAllCard : Claim7 := { stood := { row := fnExactPlayAllRow, standIns := [], harness := (true, "e21961f658fe5ab202dcb73c3cba41218801696b941d66019e0cb894a7705a39"), looks := true }, kinds := [], alts := [], laidByText := true, laidKinds := [.sentinel, .sentinel], laidTests := true, laidLooks := .later }
def FnExactPlayAllCardSaid : Prop := Claim7.holds Tryd.pinned (.plain (OpenSpec.ofChange fnExactPlayAllSpec)) fnExactPlayAllCard

/-- THE SECOND FORM's CARD OF 'laws.FnExactVoidIn'. -/
def fnExactVoidInUptoCard : Claim7 := { stood := { row := fnExactVoidInUptoRow, standIns := [], harness := (true, "e21961f658fe5ab202dcb73c3cba41218801696b941d66019e0cb894a7705a39"), looks := true }, kinds := [], alts := [], laidByText := true, laidKinds := [.sentinel, .sentinel], laidTests := true, laidLooks := .later }
def FnExactVoidInUptoCardSaid : Prop := Claim7.holds Tryd.pinned (.plain (OpenSpec.upto fnExactVoidInSpec)) fnExactVoidInUptoCard

/-- THE SECOND FORM's CARD OF 'laws.FnExactSightOf'. -/
def fnExactSightOfUptoCard : Claim7 := { stood := { row := fnExactSightOfUptoRow, standIns := [], harness := (true, "e21961f658fe5ab202dcb73c3cba41218801696b941d66019e0cb894a7705a39"), looks := true }, kinds := [], alts := [], laidByText := true, laidKinds := [.sentinel, .sentinel], laidTests := true, laidLooks := .later }
def FnExactSightOfUptoCardSaid : Prop := Claim7.holds Tryd.pinned (.plain (OpenSpec.upto fnExactSightOfSpec)) fnExactSightOfUptoCard

/-- THE SECOND FORM's CARD OF 'laws.FnExactNewDeal'. -/
def fnExactNewDealUptoCard : Claim7 := { stood := { row := fnExactNewDealUptoRow, standIns := [], harness := (true, "e21961f658fe5ab202dcb73c3cba41218801696b941d66019e0cb894a7705a39"), looks := true }, kinds := [], alts := [], laidByText := true, laidKinds := [.sentinel, .sentinel], laidTests := true, laidLooks := .later }
def FnExactNewDealUptoCardSaid : Prop := Claim7.holds Tryd.pinned (.plain (OpenSpec.upto fnExactNewDealSpec)) fnExactNewDealUptoCard

/-- THE SECOND FORM's CARD OF 'laws.FnExactSwapHidden'. -/
def fnExactSwapHiddenUptoCard : Claim7 := { stood := { row := fnExactSwapHiddenUptoRow, standIns := [], harness := (true, "e21961f658fe5ab202dcb73c3cba41218801696b941d66019e0cb894a7705a39"), looks := true }, kinds := [], alts := [], laidByText := true, laidKinds := [.sentinel, .sentinel], laidTests := true, laidLooks := .later }
def FnExactSwapHiddenUptoCardSaid : Prop := Claim7.holds Tryd.pinned (.plain (OpenSpec.upto fnExactSwapHiddenSpec)) fnExactSwapHiddenUptoCard

/-- THE SECOND FORM's CARD OF 'laws.FnExactPlayCard'. -/
def fnExactPlayCardUptoCard : Claim7 := { stood := { row := fnExactPlayCardUptoRow, standIns := [], harness := (true, "e21961f658fe5ab202dcb73c3cba41218801696b941d66019e0cb894a7705a39"), looks := true }, kinds := [], alts := [], laidByText := true, laidKinds := [.sentinel, .sentinel], laidTests := true, laidLooks := .later }
def FnExactPlayCardUptoCardSaid : Prop := Claim7.holds Tryd.pinned (.plain (OpenSpec.upto fnExactPlayCardSpec)) fnExactPlayCardUptoCard

/-- THE SECOND FORM's CARD OF 'laws.FnExactPlayAll'. -/
def fnExactPlayAllUptoCard : Claim7 := { stood := { row := fnExactPlayAllUptoRow, standIns := [], harness := (true, "e21961f658fe5ab202dcb73c3cba41218801696b941d66019e0cb894a7705a39"), looks := true }, kinds := [], alts := [], laidByText := true, laidKinds := [.sentinel, .sentinel], laidTests := true, laidLooks := .later }
def FnExactPlayAllUptoCardSaid : Prop := Claim7.holds Tryd.pinned (.plain (OpenSpec.upto fnExactPlayAllSpec)) fnExactPlayAllUptoCard
end Rows
end Go.Proofs.YtgpiaihkdhgjpaaDoor
