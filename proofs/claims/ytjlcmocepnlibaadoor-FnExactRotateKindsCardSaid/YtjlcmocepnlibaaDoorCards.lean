/-
  DERIVED. GIVEN WITH THE SEED: THE CARDS: each row of YtjlcmocepnlibaaDoorRows.lean that lists a variable, with what it lists TIED to the program's text (the seventh form; the later family's looks); each row that meets fmt, with fmt's text TOLD by the authors' own Lean function (tested against real Go, not proved from fmt's source: count such statements apart). THE CARD IS WHAT COUNTS. Prove the row's statement (the work); the ties are given (YtjlcmocepnlibaaDoorTie.lean); close each card by the builder's one call (the guide's Derived/Test/ToyasCard.lean, 'card_holds'). Laid BY PROGRAM, IN A SANDBOX (cutbox-door.mjs). By AI agents, Wed Nov 11 2026. No macro, syntax, notation, axiom, sorry.
-/
import Derived.Test.YtjlcmocepnlibaaDoorRows
import GoSem.ClaimSeven
namespace Go.Proofs.YtjlcmocepnlibaaDoor
namespace Rows

/-- THE TIED CARD OF 'laws.FnExactEventName'. -/
def fnExactEventNameCard : Claim7 := { stood := { row := fnExactEventNameRow, standIns := [], harness := (true, "a8e19660705207661fe4ed509c730d1e653941e506faacd7415175cde5753834"), looks := true }, kinds := [], alts := [], laidByText := true, laidKinds := [.data], laidTests := true, laidLooks := .later }
def FnExactEventNameCardSaid : Prop := Claim7.holds Tryd.pinned (.plain (OpenSpec.ofChange fnExactEventNameSpec)) fnExactEventNameCard

/-- THE TIED CARD OF 'laws.FnExactSeatsFor'. -/
def fnExactSeatsForCard : Claim7 := { stood := { row := fnExactSeatsForRow, standIns := [], harness := (true, "a8e19660705207661fe4ed509c730d1e653941e506faacd7415175cde5753834"), looks := true }, kinds := [], alts := [], laidByText := true, laidKinds := [.sentinel, .sentinel], laidTests := true, laidLooks := .later }
def FnExactSeatsForCardSaid : Prop := Claim7.holds Tryd.pinned (.plain (OpenSpec.ofChange fnExactSeatsForSpec)) fnExactSeatsForCard

/-- THE TIED CARD OF 'laws.FnExactRotateKinds'. -/
def fnExactRotateKindsCard : Claim7 := { stood := { row := fnExactRotateKindsRow, standIns := [], harness := (true, "a8e19660705207661fe4ed509c730d1e653941e506faacd7415175cde5753834"), looks := true }, kinds := [], alts := [], laidByText := true, laidKinds := [.sentinel, .sentinel], laidTests := true, laidLooks := .later }
def FnExactRotateKindsCardSaid : Prop := Claim7.holds Tryd.pinned (.plain (OpenSpec.ofChange fnExactRotateKindsSpec)) fnExactRotateKindsCard

/-- THE SECOND FORM's CARD OF 'laws.FnExactEventName'. -/
def fnExactEventNameUptoCard : Claim7 := { stood := { row := fnExactEventNameUptoRow, standIns := [], harness := (true, "a8e19660705207661fe4ed509c730d1e653941e506faacd7415175cde5753834"), looks := true }, kinds := [], alts := [], laidByText := true, laidKinds := [.data], laidTests := true, laidLooks := .later }
def FnExactEventNameUptoCardSaid : Prop := Claim7.holds Tryd.pinned (.plain (OpenSpec.upto fnExactEventNameSpec)) fnExactEventNameUptoCard

/-- THE SECOND FORM's CARD OF 'laws.FnExactSeatsFor'. -/
def fnExactSeatsForUptoCard : Claim7 := { stood := { row := fnExactSeatsForUptoRow, standIns := [], harness := (true, "a8e19660705207661fe4ed509c730d1e653941e506faacd7415175cde5753834"), looks := true }, kinds := [], alts := [], laidByText := true, laidKinds := [.sentinel, .sentinel], laidTests := true, laidLooks := .later }
def FnExactSeatsForUptoCardSaid : Prop := Claim7.holds Tryd.pinned (.plain (OpenSpec.upto fnExactSeatsForSpec)) fnExactSeatsForUptoCard

/-- THE SECOND FORM's CARD OF 'laws.FnExactRotateKinds'. -/
def fnExactRotateKindsUptoCard : Claim7 := { stood := { row := fnExactRotateKindsUptoRow, standIns := [], harness := (true, "a8e19660705207661fe4ed509c730d1e653941e506faacd7415175cde5753834"), looks := true }, kinds := [], alts := [], laidByText := true, laidKinds := [.sentinel, .sentinel], laidTests := true, laidLooks := .later }
def FnExactRotateKindsUptoCardSaid : Prop := Claim7.holds Tryd.pinned (.plain (OpenSpec.upto fnExactRotateKindsSpec)) fnExactRotateKindsUptoCard
end Rows
end Go.Proofs.YtjlcmocepnlibaaDoor
