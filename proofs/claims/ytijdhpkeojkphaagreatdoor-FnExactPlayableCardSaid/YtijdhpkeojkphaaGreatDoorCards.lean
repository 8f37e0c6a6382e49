/-
  DERIVED. GIVEN WITH THE SEED: THE CARDS: each row of YtijdhpkeojkphaaGreatDoorRows.lean that lists a variable, with what it lists TIED to the program's text (the seventh form; the later family's looks); each row that meets fmt, with fmt's text TOLD by the authors' own Lean function (tested against real Go, not proved from fmt's source: count such statements apart). THE CARD IS WHAT COUNTS. Prove the row's statement (the work); the ties are given (YtijdhpkeojkphaaGreatDoorTie.lean); close each card by the builder's one call (the guide's Derived/Test/ToyasCard.lean, 'card_holds'). Laid BY PROGRAM, IN A SANDBOX (cutbox-door.mjs). By AI agents, Wed Nov 11 2026. No macro, syntax, notation, axiom, sorry.
-/
import Derived.Test.YtijdhpkeojkphaaGreatDoorRows
import GoSem.ClaimSeven
namespace Go.Proofs.YtijdhpkeojkphaaGreatDoor
namespace Rows

/-- THE TIED CARD OF 'laws.FnExactPlayable'. -/
def fnExactPlayableCard : Claim7 := { stood := { row := fnExactPlayableRow, standIns := [], harness := (true, "9cc6ee62e8c1b82bfcc65df0cf556bb1eb5e15d46e2dcc0f608111374f930c27"), looks := true }, kinds := [], alts := [], laidByText := true, laidKinds := [.data, .data, .data, .data, .data, .data, .data], laidTests := true, laidLooks := .later }
def FnExactPlayableCardSaid : Prop := Claim7.holds Tryz.pinned (.plain (OpenSpec.ofChange fnExactPlayableSpec)) fnExactPlayableCard

/-- THE TIED CARD OF 'laws.FnExactPlayOn'. -/
def fnExactPlayOnCard : Claim7 := { stood := { row := fnExactPlayOnRow, standIns := [], harness := (true, "9cc6ee62e8c1b82bfcc65df0cf556bb1eb5e15d46e2dcc0f608111374f930c27"), looks := true }, kinds := [], alts := [], laidByText := true, laidKinds := [.data, .data, .data, .data, .data, .data, .data], laidTests := true, laidLooks := .later }
def FnExactPlayOnCardSaid : Prop := Claim7.holds Tryz.pinned (.plain (OpenSpec.ofChange fnExactPlayOnSpec)) fnExactPlayOnCard

/-- THE TIED CARD OF 'laws.FnExactTakeCards'. -/
def fnExactTakeCardsCard : Claim7 := { stood := { row := fnExactTakeCardsRow, standIns := [], harness := (true, "9cc6ee62e8c1b82bfcc65df0cf556bb1eb5e15d46e2dcc0f608111374f930c27"), looks := true }, kinds := [], alts := [], laidByText := true, laidKinds := [.data, .data, .data, .data, .data, .data, .data], laidTests := true, laidLooks := .later }
def FnExactTakeCardsCardSaid : Prop := Claim7.holds Tryz.pinned (.plain (OpenSpec.ofChange fnExactTakeCardsSpec)) fnExactTakeCardsCard

/-- THE TIED CARD OF 'laws.FnExactAutoMove'. -/
def fnExactAutoMoveCard : Claim7 := { stood := { row := fnExactAutoMoveRow, standIns := [], harness := (true, "9cc6ee62e8c1b82bfcc65df0cf556bb1eb5e15d46e2dcc0f608111374f930c27"), looks := true }, kinds := [], alts := [], laidByText := true, laidKinds := [.data, .data, .data, .data, .data, .data, .data], laidTests := true, laidLooks := .later }
def FnExactAutoMoveCardSaid : Prop := Claim7.holds Tryz.pinned (.plain (OpenSpec.ofChange fnExactAutoMoveSpec)) fnExactAutoMoveCard

/-- THE TIED CARD OF 'laws.FnExactReplayMove'. -/
def fnExactReplayMoveCard : Claim7 := { stood := { row := fnExactReplayMoveRow, standIns := [], harness := (true, "9cc6ee62e8c1b82bfcc65df0cf556bb1eb5e15d46e2dcc0f608111374f930c27"), looks := true }, kinds := [], alts := [], laidByText := true, laidKinds := [.data, .data, .data, .data, .data, .data, .data], laidTests := true, laidLooks := .later }
def FnExactReplayMoveCardSaid : Prop := Claim7.holds Tryz.pinned (.plain (OpenSpec.ofChange fnExactReplayMoveSpec)) fnExactReplayMoveCard

/-- THE SECOND FORM's CARD OF 'laws.FnExactPlayable'. -/
def fnExactPlayableUptoCard : Claim7 := { stood := { row := fnExactPlayableUptoRow, standIns := [], harness := (true, "9cc6ee62e8c1b82bfcc65df0cf556bb1eb5e15d46e2dcc0f608111374f930c27"), looks := true }, kinds := [], alts := [], laidByText := true, laidKinds := [.data, .data, .data, .data, .data, .data, .data], laidTests := true, laidLooks := .later }
def FnExactPlayableUptoCardSaid : Prop := Claim7.holds Tryz.pinned (.plain (OpenSpec.upto fnExactPlayableSpec)) fnExactPlayableUptoCard

/-- THE SECOND FORM's CARD OF 'laws.FnExactPlayOn'. -/
def fnExactPlayOnUptoCard : Claim7 := { stood := { row := fnExactPlayOnUptoRow, standIns := [], harness := (true, "9cc6ee62e8c1b82bfcc65df0cf556bb1eb5e15d46e2dcc0f608111374f930c27"), looks := true }, kinds := [], alts := [], laidByText := true, laidKinds := [.data, .data, .data, .data, .data, .data, .data], laidTests := true, laidLooks := .later }
def FnExactPlayOnUptoCardSaid : Prop := Claim7.holds Tryz.pinned (.plain (OpenSpec.upto fnExactPlayOnSpec)) fnExactPlayOnUptoCard

/-- THE SECOND FORM's CARD OF 'laws.FnExactTakeCards'. -/
def fnExactTakeCardsUptoCard : Claim7 := { stood := { row := fnExactTakeCardsUptoRow, standIns := [], harness := (true, "9cc6ee62e8c1b82bfcc65df0cf556bb1eb5e15d46e2dcc0f608111374f930c27"), looks := true }, kinds := [], alts := [], laidByText := true, laidKinds := [.data, .data, .data, .data, .data, .data, .data], laidTests := true, laidLooks := .later }
def FnExactTakeCardsUptoCardSaid : Prop := Claim7.holds Tryz.pinned (.plain (OpenSpec.upto fnExactTakeCardsSpec)) fnExactTakeCardsUptoCard

/-- THE SECOND FORM's CARD OF 'laws.FnExactAutoMove'. -/
def fnExactAutoMoveUptoCard : Claim7 := { stood := { row := fnExactAutoMoveUptoRow, standIns := [], harness := (true, "9cc6ee62e8c1b82bfcc65df0cf556bb1eb5e15d46e2dcc0f608111374f930c27"), looks := true }, kinds := [], alts := [], laidByText := true, laidKinds := [.data, .data, .data, .data, .data, .data, .data], laidTests := true, laidLooks := .later }
def FnExactAutoMoveUptoCardSaid : Prop := Claim7.holds Tryz.pinned (.plain (OpenSpec.upto fnExactAutoMoveSpec)) fnExactAutoMoveUptoCard

/-- THE SECOND FORM's CARD OF 'laws.FnExactReplayMove'. -/
def fnExactReplayMoveUptoCard : Claim7 := { stood := { row := fnExactReplayMoveUptoRow, standIns := [], harness := (true, "9cc6ee62e8c1b82bfcc65df0cf556bb1eb5e15d46e2dcc0f608111374f930c27"), looks := true }, kinds := [], alts := [], laidByText := true, laidKinds := [.data, .data, .data, .data, .data, .data, .data], laidTests := true, laidLooks := .later }
def FnExactReplayMoveUptoCardSaid : Prop := Claim7.holds Tryz.pinned (.plain (OpenSpec.upto fnExactReplayMoveSpec)) fnExactReplayMoveUptoCard
end Rows
end Go.Proofs.YtijdhpkeojkphaaGreatDoor
