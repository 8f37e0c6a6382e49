/-
  DERIVED. GIVEN WITH THE SEED: THE CARDS: each row of YtoeobpdgfhgpiaaGreatDoorRows.lean that lists a variable, with what it lists TIED to the program's text (the seventh form; the later family's looks); each row that meets fmt, with fmt's text TOLD by the authors' own Lean function (tested against real Go, not proved from fmt's source: count such statements apart). THE CARD IS WHAT COUNTS. Prove the row's statement (the work); the ties are given (YtoeobpdgfhgpiaaGreatDoorTie.lean); close each card by the builder's one call (the guide's Derived/Test/ToyasCard.lean, 'card_holds'). Laid BY PROGRAM, IN A SANDBOX (cutbox-door.mjs). By AI agents, Wed Nov 11 2026. No macro, syntax, notation, axiom, sorry.
-/
import Derived.Test.YtoeobpdgfhgpiaaGreatDoorRows
import GoSem.ClaimSeven
namespace Go.Proofs.YtoeobpdgfhgpiaaGreatDoor
namespace Rows

/-- THE TIED CARD OF 'laws.FnExactPeekOf'. -/
def fnExactPeekOfCard : Claim7 := { stood := { row := fnExactPeekOfRow, standIns := [], harness := (true, "aa417c9e1aa8b51cc90edc4daab6ad89f41db62d7fa00c2eef5640d93e89aac4"), looks := true }, kinds := [], alts := [], laidByText := true, laidKinds := [.data, .data, .data, .data, .data, .data, .data], laidTests := true, laidLooks := .later }
def FnExactPeekOfCardSaid : Prop := Claim7.holds Tryz.pinned (.plain (OpenSpec.ofChange fnExactPeekOfSpec)) fnExactPeekOfCard

/-- THE TIED CARD OF 'laws.FnExactStirHidden'. -/
def fnExactStirHiddenCard : Claim7 := { stood := { row := fnExactStirHiddenRow, standIns := [], harness := (true, "aa417c9e1aa8b51cc90edc4daab6ad89f41db62d7fa00c2eef5640d93e89aac4"), looks := true }, kinds := [], alts := [], laidByText := true, laidKinds := [.sentinel, .sentinel, .data, .data, .data, .data, .data, .data, .data], laidTests := true, laidLooks := .later }
def FnExactStirHiddenCardSaid : Prop := Claim7.holds Tryz.pinned (.plain (OpenSpec.ofChange fnExactStirHiddenSpec)) fnExactStirHiddenCard

/-- THE SECOND FORM's CARD OF 'laws.FnExactPeekOf'. -/
def fnExactPeekOfUptoCard : Claim7 := { stood := { row := fnExactPeekOfUptoRow, standIns := [], harness := (true, "aa417c9e1aa8b51cc90edc4daab6ad89f41db62d7fa00c2eef5640d93e89aac4"), looks := true }, kinds := [], alts := [], laidByText := true, laidKinds := [.data, .data, .data, .data, .data, .data, .data], laidTests := true, laidLooks := .later }
def FnExactPeekOfUptoCardSaid : Prop := Claim7.holds Tryz.pinned (.plain (OpenSpec.upto fnExactPeekOfSpec)) fnExactPeekOfUptoCard

/-- THE SECOND FORM's CARD OF 'laws.FnExactStirHidden'. -/
def fnExactStirHiddenUptoCard : Claim7 := { stood := { row := fnExactStirHiddenUptoRow, standIns := [], harness := (true, "aa417c9e1aa8b51cc90edc4daab6ad89f41db62d7fa00c2eef5640d93e89aac4"), looks := true }, kinds := [], alts := [], laidByText := true, laidKinds := [.sentinel, .sentinel, .data, .data, .data, .data, .data, .data, .data], laidTests := true, laidLooks := .later }
def FnExactStirHiddenUptoCardSaid : Prop := Claim7.holds Tryz.pinned (.plain (OpenSpec.upto fnExactStirHiddenSpec)) fnExactStirHiddenUptoCard
end Rows
end Go.Proofs.YtoeobpdgfhgpiaaGreatDoor
