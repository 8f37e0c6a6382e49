/-
  DERIVED. GIVEN WITH THE SEED: THE CARDS: each row of YtonpdjgokmedjaaDoorRows.lean that lists a variable, with what it lists TIED to the program's text (the seventh form; the later family's looks); each row that meets fmt, with fmt's text TOLD by the authors' own Lean function (tested against real Go, not proved from fmt's source: count such statements apart). THE CARD IS WHAT COUNTS. Prove the row's statement (the work); the ties are given (YtonpdjgokmedjaaDoorTie.lean); close each card by the builder's one call (the guide's Derived/Test/ToyasCard.lean, 'card_holds'). Laid BY PROGRAM, IN A SANDBOX (cutbox-door.mjs). By AI agents, Wed Nov 11 2026. No macro, syntax, notation, axiom, sorry.
-/
import Derived.Test.YtonpdjgokmedjaaDoorRows
import GoSem.ClaimSeven
namespace Go.Proofs.YtonpdjgokmedjaaDoor
namespace Rows

/-- THE TIED CARD OF 'laws.FnExactAlikePatterns'. -/
def fnExactAlikePatternsCard : Claim7 := { stood := { row := fnExactAlikePatternsRow, standIns := [], harness := (true, "e8b54bec110907d89a2c19b594b0bfd0961c6a2b25ff85293aeed1f5222c43d2"), looks := false }, kinds := [], alts := [], laidByText := true, laidKinds := [.data, .data, .data, .data, .data, .data, .data], laidTests := true, laidLooks := .later }
def FnExactAlikePatternsCardSaid : Prop := Claim7.holds Tryd.pinned (.plain (OpenSpec.ofChange fnExactAlikePatternsSpec)) fnExactAlikePatternsCard

/-- THE TIED CARD OF 'laws.FnExactIsRules'. -/
def fnExactIsRulesCard : Claim7 := { stood := { row := fnExactIsRulesRow, standIns := [], harness := (true, "e8b54bec110907d89a2c19b594b0bfd0961c6a2b25ff85293aeed1f5222c43d2"), looks := false }, kinds := [], alts := [], laidByText := true, laidKinds := [.data, .data, .data, .data, .data, .data, .data], laidTests := true, laidLooks := .later }
def FnExactIsRulesCardSaid : Prop := Claim7.holds Tryd.pinned (.plain (OpenSpec.ofChange fnExactIsRulesSpec)) fnExactIsRulesCard

/-- THE TIED CARD OF 'laws.FnExactDoesSkip'. -/
def fnExactDoesSkipCard : Claim7 := { stood := { row := fnExactDoesSkipRow, standIns := [], harness := (true, "e8b54bec110907d89a2c19b594b0bfd0961c6a2b25ff85293aeed1f5222c43d2"), looks := false }, kinds := [], alts := [], laidByText := true, laidKinds := [.data, .data, .data, .data, .data, .data, .data], laidTests := true, laidLooks := .later }
def FnExactDoesSkipCardSaid : Prop := Claim7.holds Tryd.pinned (.plain (OpenSpec.ofChange fnExactDoesSkipSpec)) fnExactDoesSkipCard

/-- THE TIED CARD OF 'laws.FnExactFitsOn'. -/
def fnExactFitsOnCard : Claim7 := { stood := { row := fnExactFitsOnRow, standIns := [], harness := (true, "e8b54bec110907d89a2c19b594b0bfd0961c6a2b25ff85293aeed1f5222c43d2"), looks := false }, kinds := [], alts := [], laidByText := true, laidKinds := [.data, .data, .data, .data, .data, .data, .data], laidTests := true, laidLooks := .later }
def FnExactFitsOnCardSaid : Prop := Claim7.holds Tryd.pinned (.plain (OpenSpec.ofChange fnExactFitsOnSpec)) fnExactFitsOnCard

/-- THE TIED CARD OF 'laws.FnExactFitCount'. -/
def fnExactFitCountCard : Claim7 := { stood := { row := fnExactFitCountRow, standIns := [], harness := (true, "e8b54bec110907d89a2c19b594b0bfd0961c6a2b25ff85293aeed1f5222c43d2"), looks := false }, kinds := [], alts := [], laidByText := true, laidKinds := [.data, .data, .data, .data, .data, .data, .data], laidTests := true, laidLooks := .later }
def FnExactFitCountCardSaid : Prop := Claim7.holds Tryd.pinned (.plain (OpenSpec.ofChange fnExactFitCountSpec)) fnExactFitCountCard

/-- THE TIED CARD OF 'laws.FnExactSkipsIn'. -/
def fnExactSkipsInCard : Claim7 := { stood := { row := fnExactSkipsInRow, standIns := [], harness := (true, "e8b54bec110907d89a2c19b594b0bfd0961c6a2b25ff85293aeed1f5222c43d2"), looks := false }, kinds := [], alts := [], laidByText := true, laidKinds := [.data, .data, .data, .data, .data, .data, .data], laidTests := true, laidLooks := .later }
def FnExactSkipsInCardSaid : Prop := Claim7.holds Tryd.pinned (.plain (OpenSpec.ofChange fnExactSkipsInSpec)) fnExactSkipsInCard

/-- THE TIED CARD OF 'laws.FnExactWildShare'. -/
def fnExactWildShareCard : Claim7 := { stood := { row := fnExactWildShareRow, standIns := [], harness := (true, "e8b54bec110907d89a2c19b594b0bfd0961c6a2b25ff85293aeed1f5222c43d2"), looks := false }, kinds := [], alts := [], laidByText := true, laidKinds := [.data, .data, .data, .data, .data, .data, .data], laidTests := true, laidLooks := .later }
def FnExactWildShareCardSaid : Prop := Claim7.holds Tryd.pinned (.plain (OpenSpec.ofChange fnExactWildShareSpec)) fnExactWildShareCard

/-- THE SECOND FORM's CARD OF 'laws.FnExactAlikePatterns'. -/
def fnExactAlikePatternsUptoCard : Claim7 := { stood := { row := fnExactAlikePatternsUptoRow, standIns := [], harness := (true, "e8b54bec110907d89a2c19b594b0bfd0961c6a2b25ff85293aeed1f5222c43d2"), looks := false }, kinds := [], alts := [], laidByText := true, laidKinds := [.data, .data, .data, .data, .data, .data, .data], laidTests := true, laidLooks := .later }
def FnExactAlikePatternsUptoCardSaid : Prop := Claim7.holds Tryd.pinned (.plain (OpenSpec.upto fnExactAlikePatternsSpec)) fnExactAlikePatternsUptoCard

/-- THE SECOND FORM's CARD OF 'laws.FnExactIsRules'. -/
def fnExactIsRulesUptoCard : Claim7 := { stood := { row := fnExactIsRulesUptoRow, standIns := [], harness := (true, "e8b54bec110907d89a2c19b594b0bfd0961c6a2b25ff85293aeed1f5222c43d2"), looks := false }, kinds := [], alts := [], laidByText := true, laidKinds := [.data, .data, .data, .data, .data, .data, .data], laidTests := true, laidLooks := .later }
def FnExactIsRulesUptoCardSaid : Prop := Claim7.holds Tryd.pinned (.plain (OpenSpec.upto fnExactIsRulesSpec)) fnExactIsRulesUptoCard

/-- THE SECOND FORM's CARD OF 'laws.FnExactDoesSkip'. -/
def fnExactDoesSkipUptoCard : Claim7 := { stood := { row := fnExactDoesSkipUptoRow, standIns := [], harness := (true, "e8b54bec110907d89a2c19b594b0bfd0961c6a2b25ff85293aeed1f5222c43d2"), looks := false }, kinds := [], alts := [], laidByText := true, laidKinds := [.data, .data, .data, .data, .data, .data, .data], laidTests := true, laidLooks := .later }
def FnExactDoesSkipUptoCardSaid : Prop := Claim7.holds Tryd.pinned (.plain (OpenSpec.upto fnExactDoesSkipSpec)) fnExactDoesSkipUptoCard

/-- THE SECOND FORM's CARD OF 'laws.FnExactFitsOn'. -/
def fnExactFitsOnUptoCard : Claim7 := { stood := { row := fnExactFitsOnUptoRow, standIns := [], harness := (true, "e8b54bec110907d89a2c19b594b0bfd0961c6a2b25ff85293aeed1f5222c43d2"), looks := false }, kinds := [], alts := [], laidByText := true, laidKinds := [.data, .data, .data, .data, .data, .data, .data], laidTests := true, laidLooks := .later }
def FnExactFitsOnUptoCardSaid : Prop := Claim7.holds Tryd.pinned (.plain (OpenSpec.upto fnExactFitsOnSpec)) fnExactFitsOnUptoCard

/-- THE SECOND FORM's CARD OF 'laws.FnExactFitCount'. -/
def fnExactFitCountUptoCard : Claim7 := { stood := { row := fnExactFitCountUptoRow, standIns := [], harness := (true, "e8b54bec110907d89a2c19b594b0bfd0961c6a2b25ff85293aeed1f5222c43d2"), looks := false }, kinds := [], alts := [], laidByText := true, laidKinds := [.data, .data, .data, .data, .data, .data, .data], laidTests := true, laidLooks := .later }
def FnExactFitCountUptoCardSaid : Prop := Claim7.holds Tryd.pinned (.plain (OpenSpec.upto fnExactFitCountSpec)) fnExactFitCountUptoCard

/-- THE SECOND FORM's CARD OF 'laws.FnExactSkipsIn'. -/
def fnExactSkipsInUptoCard : Claim7 := { stood := { row := fnExactSkipsInUptoRow, standIns := [], harness := (true, "e8b54bec110907d89a2c19b594b0bfd0961c6a2b25ff85293aeed1f5222c43d2"), looks := false }, kinds := [], alts := [], laidByText := true, laidKinds := [.data, .data, .data, .data, .data, .data, .data], laidTests := true, laidLooks := .later }
def FnExactSkipsInUptoCardSaid : Prop := Claim7.holds Tryd.pinned (.plain (OpenSpec.upto fnExactSkipsInSpec)) fnExactSkipsInUptoCard

/-- THE SECOND FORM's CARD OF 'laws.FnExactWildShare'. -/
def fnExactWildShareUptoCard : Claim7 := { stood := { row := fnExactWildShareUptoRow, standIns := [], harness := (true, "e8b54bec110907d89a2c19b594b0bfd0961c6a2b25ff85293aeed1f5222c43d2"), looks := false }, kinds := [], alts := [], laidByText := true, laidKinds := [.data, .data, .data, .data, .data, .data, .data], laidTests := true, laidLooks := .later }
def FnExactWildShareUptoCardSaid : Prop := Claim7.holds Tryd.pinned (.plain (OpenSpec.upto fnExactWildShareSpec)) fnExactWildShareUptoCard
end Rows
end Go.Proofs.YtonpdjgokmedjaaDoor
