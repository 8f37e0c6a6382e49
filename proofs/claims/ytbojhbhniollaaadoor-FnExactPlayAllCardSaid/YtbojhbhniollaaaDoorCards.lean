/-
  DERIVED. GIVEN WITH THE SEED: THE CARDS: each row of YtbojhbhniollaaaDoorRows.lean that lists a variable, with what it lists TIED to the program's text (the seventh form; the later family's looks); each row that meets fmt, with fmt's text TOLD by the authors' own Lean function (tested against real Go, not proved from fmt's source: count such statements apart). THE CARD IS WHAT COUNTS. Prove the row's statement (the work); the ties are given (YtbojhbhniollaaaDoorTie.lean); close each card by the builder's one call (the guide's Derived/Test/ToyasCard.lean, 'card_holds'). Laid BY PROGRAM, IN A SANDBOX (cutbox-door.mjs). By AI agents, Wed Nov 11 2026. No macro, syntax, notation, axiom, sorry.
-/
import Derived.Test.YtbojhbhniollaaaDoorRows
import GoSem.ClaimSeven
namespace Go.Proofs.YtbojhbhniollaaaDoor
namespace Rows

/-- THE TIED CARD OF 'laws.FnExactSightOf'. -/
def fnExactSightOfCard : Claim7 := { stood := { row := fnExactSightOfRow, standIns := [], harness := (true, "7a3c2edc573f8ca09674f7fd0e380317ef0edaf3e5130a3e34a5c78d0c47629a"), looks := true }, kinds := [], alts := [], laidByText := true, laidKinds := [.sentinel, .sentinel], laidTests := true, laidLooks := .later }
def FnExactSightOfCardSaid : Prop := Claim7.holds Tryd.pinned (.plain (OpenSpec.ofChange fnExactSightOfSpec)) fnExactSightOfCard

/-- THE TIED CARD OF 'laws.FnExactSwapHidden'. -/
def fnExactSwapHiddenCard : Claim7 := { stood := { row := fnExactSwapHiddenRow, standIns := [], harness := (true, "7a3c2edc573f8ca09674f7fd0e380317ef0edaf3e5130a3e34a5c78d0c47629a"), looks := true }, kinds := [], alts := [], laidByText := true, laidKinds := [.sentinel, .sentinel], laidTests := true, laidLooks := .later }
def FnExactSwapHiddenCardSaid : Prop := Claim7.holds Tryd.pinned (.plain (OpenSpec.ofChange fnExactSwapHiddenSpec)) fnExactSwapHiddenCard

/-- THE TIED CARD OF 'laws.FnExactPlayCard'. -/
def fnExactPlayCardCard : Claim7 := { stood := { row := fnExactPlayCardRow, standIns := [], harness := (true, "7a3c2edc573f8ca09674f7fd0e380317ef0edaf3e5130a3e34a5c78d0c47629a"), looks := true }, kinds := [], alts := [], laidByText := true, laidKinds := [.sentinel, .sentinel], laidTests := true, laidLooks := .later }
def FnExactPlayCardCardSaid : Prop := Claim7.holds Tryd.pinned (.plain (OpenSpec.ofChange fnExactPlayCardSpec)) fnExactPlayCardCard

/-- THE TIED CARD OF 'laws.FnExactPlayAll'. -/
def fnExactPlayAllCard : Claim7 := { stood := { row := fnExactPlayAllRow, standIns := [], harness := (true, "7a3c2edc573f8ca09674f7fd0e380317ef0edaf3e5130a3e34a5c78d0c47629a"), looks := true }, kinds := [], alts := [], laidByText := true, laidKinds := [.sentinel, .sentinel], laidTests := true, laidLooks := .later }
def FnExactPlayAllCardSaid : Prop := Claim7.holds Tryd.pinned (.plain (OpenSpec.ofChange fnExactPlayAllSpec)) fnExactPlayAllCard

/-- THE TIED CARD OF 'laws.FnExactSameSight'. -/
def fnExactSameSightCard : Claim7 := { stood := { row := fnExactSameSightRow, standIns := [], harness := (true, "7a3c2edc573f8ca09674f7fd0e380317ef0edaf3e5130a3e34a5c78d0c47629a"), looks := true }, kinds := [], alts := [], laidByText := true, laidKinds := [.data, .data, .data], laidTests := true, laidLooks := .later }
def FnExactSameSightCardSaid : Prop := Claim7.holds Tryd.pinned (.plain (OpenSpec.ofChange fnExactSameSightSpec)) fnExactSameSightCard

/-- THE SECOND FORM's CARD OF 'laws.FnExactSightOf'. -/
def fnExactSightOfUptoCard : Claim7 := { stood := { row := fnExactSightOfUptoRow, standIns := [], harness := (true, "7a3c2edc573f8ca09674f7fd0e380317ef0edaf3e5130a3e34a5c78d0c47629a"), looks := true }, kinds := [], alts := [], laidByText := true, laidKinds := [.sentinel, .sentinel], laidTests := true, laidLooks := .later }
def FnExactSightOfUptoCardSaid : Prop := Claim7.holds Tryd.pinned (.plain (OpenSpec.upto fnExactSightOfSpec)) fnExactSightOfUptoCard

/-- THE SECOND FORM's CARD OF 'laws.FnExactSwapHidden'. -/
def fnExactSwapHiddenUptoCard : Claim7 := { stood := { row := fnExactSwapHiddenUptoRow, standIns := [], harness := (true, "7a3c2edc573f8ca09674f7fd0e380317ef0edaf3e5130a3e34a5c78d0c47629a"), looks := true }, kinds := [], alts := [], laidByText := true, laidKinds := [.sentinel, .sentinel], laidTests := true, laidLooks := .later }
def FnExactSwapHiddenUptoCardSaid : Prop := Claim7.holds Tryd.pinned (.plain (OpenSpec.upto fnExactSwapHiddenSpec)) fnExactSwapHiddenUptoCard

/-- THE SECOND FORM's CARD OF 'laws.FnExactPlayCard'. -/
def fnExactPlayCardUptoCard : Claim7 := { stood := { row := fnExactPlayCardUptoRow, standIns := [], harness := (true, "7a3c2edc573f8ca09674f7fd0e380317ef0edaf3e5130a3e34a5c78d0c47629a"), looks := true }, kinds := [], alts := [], laidByText := true, laidKinds := [.sentinel, .sentinel], laidTests := true, laidLooks := .later }
def FnExactPlayCardUptoCardSaid : Prop := Claim7.holds Tryd.pinned (.plain (OpenSpec.upto fnExactPlayCardSpec)) fnExactPlayCardUptoCard

/-- THE SECOND FORM's CARD OF 'laws.FnExactPlayAll'. -/
def fnExactPlayAllUptoCard : Claim7 := { stood := { row := fnExactPlayAllUptoRow, standIns := [], harness := (true, "7a3c2edc573f8ca09674f7fd0e380317ef0edaf3e5130a3e34a5c78d0c47629a"), looks := true }, kinds := [], alts := [], laidByText := true, laidKinds := [.sentinel, .sentinel], laidTests := true, laidLooks := .later }
def FnExactPlayAllUptoCardSaid : Prop := Claim7.holds Tryd.pinned (.plain (OpenSpec.upto fnExactPlayAllSpec)) fnExactPlayAllUptoCard

/-- THE SECOND FORM's CARD OF 'laws.FnExactSameSight'. -/
def fnExactSameSightUptoCard : Claim7 := { stood := { row := fnExactSameSightUptoRow, standIns := [], harness := (true, "7a3c2edc573f8ca09674f7fd0e380317ef0edaf3e5130a3e34a5c78d0c47629a"), looks := true }, kinds := [], alts := [], laidByText := true, laidKinds := [.data, .data, .data], laidTests := true, laidLooks := .later }
def FnExactSameSightUptoCardSaid : Prop := Claim7.holds Tryd.pinned (.plain (OpenSpec.upto fnExactSameSightSpec)) fnExactSameSightUptoCard
end Rows
end Go.Proofs.YtbojhbhniollaaaDoor
