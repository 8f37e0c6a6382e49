/-
  NARROWER THAN 'FOR EVERY INPUT', by the rows' own cells (each row's printed sentence says how): FnExactAlikePatterns: laid · FnExactIsRules: laid · FnExactDoesSkip: laid · FnExactFitsOn: laid · FnExactFitCount: laid · FnExactSkipsIn: laid · FnExactWildShare: laid.
  DERIVED. THE GIVEN ROWS OF THIS SEAT. 7 by the template 'for every input the law returns true; each argument reads behind the call as it read before'; 0 by the template 'total and deterministic' (their statements: YtonpdjgokmedjaaDoorTotals.lean).
  GIVEN WITH THE SEED: the statements are not yours to turn. If you find one false, say at which input.
  Laid BY PROGRAM, IN A SANDBOX (cutbox-rows.mjs): the forced cells as the released guide's own fill.sh prints them over the translation a8a462a3254270d3… (all of the seat's roots in one cut). By AI agents, Wed Nov 11 2026. No macro, syntax, notation, axiom, sorry.
-/
import Derived.Test.YtonpdjgokmedjaaDoorChecked
import GoSem.Claim
import GoSem.ClaimJoined
import GoSem.ClaimMapViews
import Derived.JoinedTies
import Derived.KernelRfl
namespace Go.Proofs.YtonpdjgokmedjaaDoor
/- THE CELL 'sum', in the pinned program and in every row, IS THE sha256 OF THE DUMP (.gsa) THAT YtonpdjgokmedjaaDoorProg.lean LOADS. Nothing in Lean hashes anything: it is a label: what it is worth is what the hold of that sum in a sandbox is worth. -/
noncomputable def Tryd.pinned : Pinned := { name := "ytonpdjgokmedjaadoor", sum := "a8a462a3254270d313aa8f7cc00598203e5850985854119c981806d728f3b2a5", checked := Tryd.checked }
namespace Rows
def none {H : Type} : Left H := { results := [], args := [] }

/- WHAT THE LISTED PACKAGE-LEVEL VARIABLES READ AS WHEN THE CALL BEGINS. Each datum BY PROGRAM (the guide's laid-datum.mjs) off the statement by which the dump's own 'gosem.cut.vars' lays the variable. In a bare row this is a premise. The card (YtonpdjgokmedjaaDoorCards.lean) ties it to the program's text. -/
def laid_loop_example_g03010_impl_suitSigns {H : Type} : DataW H := .agg [.lit (.int .i64 100), .lit (.int .i64 4), .lit (.int .i64 0)]
def laid_loop_example_g03010_impl_rankSigns {H : Type} : DataW H := .agg [.lit (.int .i64 200), .lit (.int .i64 13), .lit (.int .i64 0)]
def laid_loop_example_g03010_impl_fromSigns {H : Type} : DataW H := .agg [.lit (.int .i64 300), .lit (.int .i64 13), .lit (.int .i64 0)]
def laid_loop_example_g03010_impl_redSign {H : Type} : DataW H := .agg [.lit (.int .i64 400), .lit (.int .i64 1), .lit (.int .i64 0)]
def laid_loop_example_g03010_impl_notSign {H : Type} : DataW H := .agg [.lit (.int .i64 (-1)), .lit (.int .i64 1), .lit (.int .i64 1)]
def laid_loop_example_g03010_impl_andSign {H : Type} : DataW H := .agg [.lit (.int .i64 (-2)), .lit (.int .i64 1), .lit (.int .i64 2)]
def laid_loop_example_g03010_impl_orSign {H : Type} : DataW H := .agg [.lit (.int .i64 (-3)), .lit (.int .i64 1), .lit (.int .i64 2)]

/-- 'laws.FnExactAlikePatterns': WHATEVER THE INPUT: true; the input reads as it did. -/
def fnExactAlikePatternsSpec : ChangeSpec := { name := "fnExactAlikePatterns", vars := ["loop.example/g03010/impl.suitSigns", "loop.example/g03010/impl.rankSigns", "loop.example/g03010/impl.fromSigns", "loop.example/g03010/impl.redSign", "loop.example/g03010/impl.notSign", "loop.example/g03010/impl.andSign", "loop.example/g03010/impl.orSign"], fn := fun _ => fun
  | [d1, d2, g1, g2, g3, g4, g5, g6, g7] => { results := [.lit (.bool true)], args := [d1, d2], vars := [g1, g2, g3, g4, g5, g6, g7] }
  | _ => none }
def fnExactAlikePatternsRow : OpenClaim := { program := "ytonpdjgokmedjaadoor", sum := "a8a462a3254270d313aa8f7cc00598203e5850985854119c981806d728f3b2a5", func := "loop.example/g03010/laws.FnExactAlikePatterns", spec := "fnExactAlikePatterns", unfollowed := true, recurses := true, named := ["loop.example/g03010/impl.suitSigns", "loop.example/g03010/impl.rankSigns", "loop.example/g03010/impl.fromSigns", "loop.example/g03010/impl.redSign", "loop.example/g03010/impl.notSign", "loop.example/g03010/impl.andSign", "loop.example/g03010/impl.orSign"], apart := false, laid := [("loop.example/g03010/impl.suitSigns", laid_loop_example_g03010_impl_suitSigns), ("loop.example/g03010/impl.rankSigns", laid_loop_example_g03010_impl_rankSigns), ("loop.example/g03010/impl.fromSigns", laid_loop_example_g03010_impl_fromSigns), ("loop.example/g03010/impl.redSign", laid_loop_example_g03010_impl_redSign), ("loop.example/g03010/impl.notSign", laid_loop_example_g03010_impl_notSign), ("loop.example/g03010/impl.andSign", laid_loop_example_g03010_impl_andSign), ("loop.example/g03010/impl.orSign", laid_loop_example_g03010_impl_orSign)] }
def FnExactAlikePatternsSaid : Prop := fnExactAlikePatternsRow.holds Tryd.pinned (OpenSpec.ofChange fnExactAlikePatternsSpec)

/-- ITS FALSE NEIGHBOUR: 'it returns false'. Refute it at one input. -/
def fnExactAlikePatternsWrong : ChangeSpec := { name := "fnExactAlikePatterns", vars := ["loop.example/g03010/impl.suitSigns", "loop.example/g03010/impl.rankSigns", "loop.example/g03010/impl.fromSigns", "loop.example/g03010/impl.redSign", "loop.example/g03010/impl.notSign", "loop.example/g03010/impl.andSign", "loop.example/g03010/impl.orSign"], fn := fun _ => fun
  | [d1, d2, g1, g2, g3, g4, g5, g6, g7] => { results := [.lit (.bool false)], args := [d1, d2], vars := [g1, g2, g3, g4, g5, g6, g7] }
  | _ => none }
def FnExactAlikePatternsWrongFalsely : Prop := fnExactAlikePatternsRow.holds Tryd.pinned (OpenSpec.ofChange fnExactAlikePatternsWrong)

/-- 'laws.FnExactIsRules': WHATEVER THE INPUT: true; the input reads as it did. -/
def fnExactIsRulesSpec : ChangeSpec := { name := "fnExactIsRules", vars := ["loop.example/g03010/impl.suitSigns", "loop.example/g03010/impl.rankSigns", "loop.example/g03010/impl.fromSigns", "loop.example/g03010/impl.redSign", "loop.example/g03010/impl.notSign", "loop.example/g03010/impl.andSign", "loop.example/g03010/impl.orSign"], fn := fun _ => fun
  | [d, g1, g2, g3, g4, g5, g6, g7] => { results := [.lit (.bool true)], args := [d], vars := [g1, g2, g3, g4, g5, g6, g7] }
  | _ => none }
def fnExactIsRulesRow : OpenClaim := { program := "ytonpdjgokmedjaadoor", sum := "a8a462a3254270d313aa8f7cc00598203e5850985854119c981806d728f3b2a5", func := "loop.example/g03010/laws.FnExactIsRules", spec := "fnExactIsRules", unfollowed := true, recurses := true, named := ["loop.example/g03010/impl.suitSigns", "loop.example/g03010/impl.rankSigns", "loop.example/g03010/impl.fromSigns", "loop.example/g03010/impl.redSign", "loop.example/g03010/impl.notSign", "loop.example/g03010/impl.andSign", "loop.example/g03010/impl.orSign"], apart := false, laid := [("loop.example/g03010/impl.suitSigns", laid_loop_example_g03010_impl_suitSigns), ("loop.example/g03010/impl.rankSigns", laid_loop_example_g03010_impl_rankSigns), ("loop.example/g03010/impl.fromSigns", laid_loop_example_g03010_impl_fromSigns), ("loop.example/g03010/impl.redSign", laid_loop_example_g03010_impl_redSign), ("loop.example/g03010/impl.notSign", laid_loop_example_g03010_impl_notSign), ("loop.example/g03010/impl.andSign", laid_loop_example_g03010_impl_andSign), ("loop.example/g03010/impl.orSign", laid_loop_example_g03010_impl_orSign)] }
def FnExactIsRulesSaid : Prop := fnExactIsRulesRow.holds Tryd.pinned (OpenSpec.ofChange fnExactIsRulesSpec)

/-- ITS FALSE NEIGHBOUR: 'it returns false'. Refute it at one input. -/
def fnExactIsRulesWrong : ChangeSpec := { name := "fnExactIsRules", vars := ["loop.example/g03010/impl.suitSigns", "loop.example/g03010/impl.rankSigns", "loop.example/g03010/impl.fromSigns", "loop.example/g03010/impl.redSign", "loop.example/g03010/impl.notSign", "loop.example/g03010/impl.andSign", "loop.example/g03010/impl.orSign"], fn := fun _ => fun
  | [d, g1, g2, g3, g4, g5, g6, g7] => { results := [.lit (.bool false)], args := [d], vars := [g1, g2, g3, g4, g5, g6, g7] }
  | _ => none }
def FnExactIsRulesWrongFalsely : Prop := fnExactIsRulesRow.holds Tryd.pinned (OpenSpec.ofChange fnExactIsRulesWrong)

/-- 'laws.FnExactDoesSkip': WHATEVER THE INPUT: true; the input reads as it did. -/
def fnExactDoesSkipSpec : ChangeSpec := { name := "fnExactDoesSkip", vars := ["loop.example/g03010/impl.suitSigns", "loop.example/g03010/impl.rankSigns", "loop.example/g03010/impl.fromSigns", "loop.example/g03010/impl.redSign", "loop.example/g03010/impl.notSign", "loop.example/g03010/impl.andSign", "loop.example/g03010/impl.orSign"], fn := fun _ => fun
  | [d1, d2, g1, g2, g3, g4, g5, g6, g7] => { results := [.lit (.bool true)], args := [d1, d2], vars := [g1, g2, g3, g4, g5, g6, g7] }
  | _ => none }
def fnExactDoesSkipRow : OpenClaim := { program := "ytonpdjgokmedjaadoor", sum := "a8a462a3254270d313aa8f7cc00598203e5850985854119c981806d728f3b2a5", func := "loop.example/g03010/laws.FnExactDoesSkip", spec := "fnExactDoesSkip", unfollowed := true, recurses := true, named := ["loop.example/g03010/impl.suitSigns", "loop.example/g03010/impl.rankSigns", "loop.example/g03010/impl.fromSigns", "loop.example/g03010/impl.redSign", "loop.example/g03010/impl.notSign", "loop.example/g03010/impl.andSign", "loop.example/g03010/impl.orSign"], apart := false, laid := [("loop.example/g03010/impl.suitSigns", laid_loop_example_g03010_impl_suitSigns), ("loop.example/g03010/impl.rankSigns", laid_loop_example_g03010_impl_rankSigns), ("loop.example/g03010/impl.fromSigns", laid_loop_example_g03010_impl_fromSigns), ("loop.example/g03010/impl.redSign", laid_loop_example_g03010_impl_redSign), ("loop.example/g03010/impl.notSign", laid_loop_example_g03010_impl_notSign), ("loop.example/g03010/impl.andSign", laid_loop_example_g03010_impl_andSign), ("loop.example/g03010/impl.orSign", laid_loop_example_g03010_impl_orSign)] }
def FnExactDoesSkipSaid : Prop := fnExactDoesSkipRow.holds Tryd.pinned (OpenSpec.ofChange fnExactDoesSkipSpec)

/-- ITS FALSE NEIGHBOUR: 'it returns false'. Refute it at one input. -/
def fnExactDoesSkipWrong : ChangeSpec := { name := "fnExactDoesSkip", vars := ["loop.example/g03010/impl.suitSigns", "loop.example/g03010/impl.rankSigns", "loop.example/g03010/impl.fromSigns", "loop.example/g03010/impl.redSign", "loop.example/g03010/impl.notSign", "loop.example/g03010/impl.andSign", "loop.example/g03010/impl.orSign"], fn := fun _ => fun
  | [d1, d2, g1, g2, g3, g4, g5, g6, g7] => { results := [.lit (.bool false)], args := [d1, d2], vars := [g1, g2, g3, g4, g5, g6, g7] }
  | _ => none }
def FnExactDoesSkipWrongFalsely : Prop := fnExactDoesSkipRow.holds Tryd.pinned (OpenSpec.ofChange fnExactDoesSkipWrong)

/-- 'laws.FnExactFitsOn': WHATEVER THE INPUT: true; the input reads as it did. -/
def fnExactFitsOnSpec : ChangeSpec := { name := "fnExactFitsOn", vars := ["loop.example/g03010/impl.suitSigns", "loop.example/g03010/impl.rankSigns", "loop.example/g03010/impl.fromSigns", "loop.example/g03010/impl.redSign", "loop.example/g03010/impl.notSign", "loop.example/g03010/impl.andSign", "loop.example/g03010/impl.orSign"], fn := fun _ => fun
  | [d1, d2, d3, g1, g2, g3, g4, g5, g6, g7] => { results := [.lit (.bool true)], args := [d1, d2, d3], vars := [g1, g2, g3, g4, g5, g6, g7] }
  | _ => none }
def fnExactFitsOnRow : OpenClaim := { program := "ytonpdjgokmedjaadoor", sum := "a8a462a3254270d313aa8f7cc00598203e5850985854119c981806d728f3b2a5", func := "loop.example/g03010/laws.FnExactFitsOn", spec := "fnExactFitsOn", unfollowed := true, recurses := true, named := ["loop.example/g03010/impl.suitSigns", "loop.example/g03010/impl.rankSigns", "loop.example/g03010/impl.fromSigns", "loop.example/g03010/impl.redSign", "loop.example/g03010/impl.notSign", "loop.example/g03010/impl.andSign", "loop.example/g03010/impl.orSign"], apart := false, laid := [("loop.example/g03010/impl.suitSigns", laid_loop_example_g03010_impl_suitSigns), ("loop.example/g03010/impl.rankSigns", laid_loop_example_g03010_impl_rankSigns), ("loop.example/g03010/impl.fromSigns", laid_loop_example_g03010_impl_fromSigns), ("loop.example/g03010/impl.redSign", laid_loop_example_g03010_impl_redSign), ("loop.example/g03010/impl.notSign", laid_loop_example_g03010_impl_notSign), ("loop.example/g03010/impl.andSign", laid_loop_example_g03010_impl_andSign), ("loop.example/g03010/impl.orSign", laid_loop_example_g03010_impl_orSign)] }
def FnExactFitsOnSaid : Prop := fnExactFitsOnRow.holds Tryd.pinned (OpenSpec.ofChange fnExactFitsOnSpec)

/-- ITS FALSE NEIGHBOUR: 'it returns false'. Refute it at one input. -/
def fnExactFitsOnWrong : ChangeSpec := { name := "fnExactFitsOn", vars := ["loop.example/g03010/impl.suitSigns", "loop.example/g03010/impl.rankSigns", "loop.example/g03010/impl.fromSigns", "loop.example/g03010/impl.redSign", "loop.example/g03010/impl.notSign", "loop.example/g03010/impl.andSign", "loop.example/g03010/impl.orSign"], fn := fun _ => fun
  | [d1, d2, d3, g1, g2, g3, g4, g5, g6, g7] => { results := [.lit (.bool false)], args := [d1, d2, d3], vars := [g1, g2, g3, g4, g5, g6, g7] }
  | _ => none }
def FnExactFitsOnWrongFalsely : Prop := fnExactFitsOnRow.holds Tryd.pinned (OpenSpec.ofChange fnExactFitsOnWrong)

/-- 'laws.FnExactFitCount': WHATEVER THE INPUT: true; the input reads as it did. -/
def fnExactFitCountSpec : ChangeSpec := { name := "fnExactFitCount", vars := ["loop.example/g03010/impl.suitSigns", "loop.example/g03010/impl.rankSigns", "loop.example/g03010/impl.fromSigns", "loop.example/g03010/impl.redSign", "loop.example/g03010/impl.notSign", "loop.example/g03010/impl.andSign", "loop.example/g03010/impl.orSign"], fn := fun _ => fun
  | [d1, d2, g1, g2, g3, g4, g5, g6, g7] => { results := [.lit (.bool true)], args := [d1, d2], vars := [g1, g2, g3, g4, g5, g6, g7] }
  | _ => none }
def fnExactFitCountRow : OpenClaim := { program := "ytonpdjgokmedjaadoor", sum := "a8a462a3254270d313aa8f7cc00598203e5850985854119c981806d728f3b2a5", func := "loop.example/g03010/laws.FnExactFitCount", spec := "fnExactFitCount", unfollowed := true, recurses := true, named := ["loop.example/g03010/impl.suitSigns", "loop.example/g03010/impl.rankSigns", "loop.example/g03010/impl.fromSigns", "loop.example/g03010/impl.redSign", "loop.example/g03010/impl.notSign", "loop.example/g03010/impl.andSign", "loop.example/g03010/impl.orSign"], apart := false, laid := [("loop.example/g03010/impl.suitSigns", laid_loop_example_g03010_impl_suitSigns), ("loop.example/g03010/impl.rankSigns", laid_loop_example_g03010_impl_rankSigns), ("loop.example/g03010/impl.fromSigns", laid_loop_example_g03010_impl_fromSigns), ("loop.example/g03010/impl.redSign", laid_loop_example_g03010_impl_redSign), ("loop.example/g03010/impl.notSign", laid_loop_example_g03010_impl_notSign), ("loop.example/g03010/impl.andSign", laid_loop_example_g03010_impl_andSign), ("loop.example/g03010/impl.orSign", laid_loop_example_g03010_impl_orSign)] }
def FnExactFitCountSaid : Prop := fnExactFitCountRow.holds Tryd.pinned (OpenSpec.ofChange fnExactFitCountSpec)

/-- ITS FALSE NEIGHBOUR: 'it returns false'. Refute it at one input. -/
def fnExactFitCountWrong : ChangeSpec := { name := "fnExactFitCount", vars := ["loop.example/g03010/impl.suitSigns", "loop.example/g03010/impl.rankSigns", "loop.example/g03010/impl.fromSigns", "loop.example/g03010/impl.redSign", "loop.example/g03010/impl.notSign", "loop.example/g03010/impl.andSign", "loop.example/g03010/impl.orSign"], fn := fun _ => fun
  | [d1, d2, g1, g2, g3, g4, g5, g6, g7] => { results := [.lit (.bool false)], args := [d1, d2], vars := [g1, g2, g3, g4, g5, g6, g7] }
  | _ => none }
def FnExactFitCountWrongFalsely : Prop := fnExactFitCountRow.holds Tryd.pinned (OpenSpec.ofChange fnExactFitCountWrong)

/-- 'laws.FnExactSkipsIn': WHATEVER THE INPUT: true; the input reads as it did. -/
def fnExactSkipsInSpec : ChangeSpec := { name := "fnExactSkipsIn", vars := ["loop.example/g03010/impl.suitSigns", "loop.example/g03010/impl.rankSigns", "loop.example/g03010/impl.fromSigns", "loop.example/g03010/impl.redSign", "loop.example/g03010/impl.notSign", "loop.example/g03010/impl.andSign", "loop.example/g03010/impl.orSign"], fn := fun _ => fun
  | [d1, d2, g1, g2, g3, g4, g5, g6, g7] => { results := [.lit (.bool true)], args := [d1, d2], vars := [g1, g2, g3, g4, g5, g6, g7] }
  | _ => none }
def fnExactSkipsInRow : OpenClaim := { program := "ytonpdjgokmedjaadoor", sum := "a8a462a3254270d313aa8f7cc00598203e5850985854119c981806d728f3b2a5", func := "loop.example/g03010/laws.FnExactSkipsIn", spec := "fnExactSkipsIn", unfollowed := true, recurses := true, named := ["loop.example/g03010/impl.suitSigns", "loop.example/g03010/impl.rankSigns", "loop.example/g03010/impl.fromSigns", "loop.example/g03010/impl.redSign", "loop.example/g03010/impl.notSign", "loop.example/g03010/impl.andSign", "loop.example/g03010/impl.orSign"], apart := false, laid := [("loop.example/g03010/impl.suitSigns", laid_loop_example_g03010_impl_suitSigns), ("loop.example/g03010/impl.rankSigns", laid_loop_example_g03010_impl_rankSigns), ("loop.example/g03010/impl.fromSigns", laid_loop_example_g03010_impl_fromSigns), ("loop.example/g03010/impl.redSign", laid_loop_example_g03010_impl_redSign), ("loop.example/g03010/impl.notSign", laid_loop_example_g03010_impl_notSign), ("loop.example/g03010/impl.andSign", laid_loop_example_g03010_impl_andSign), ("loop.example/g03010/impl.orSign", laid_loop_example_g03010_impl_orSign)] }
def FnExactSkipsInSaid : Prop := fnExactSkipsInRow.holds Tryd.pinned (OpenSpec.ofChange fnExactSkipsInSpec)

/-- ITS FALSE NEIGHBOUR: 'it returns false'. Refute it at one input. -/
def fnExactSkipsInWrong : ChangeSpec := { name := "fnExactSkipsIn", vars := ["loop.example/g03010/impl.suitSigns", "loop.example/g03010/impl.rankSigns", "loop.example/g03010/impl.fromSigns", "loop.example/g03010/impl.redSign", "loop.example/g03010/impl.notSign", "loop.example/g03010/impl.andSign", "loop.example/g03010/impl.orSign"], fn := fun _ => fun
  | [d1, d2, g1, g2, g3, g4, g5, g6, g7] => { results := [.lit (.bool false)], args := [d1, d2], vars := [g1, g2, g3, g4, g5, g6, g7] }
  | _ => none }
def FnExactSkipsInWrongFalsely : Prop := fnExactSkipsInRow.holds Tryd.pinned (OpenSpec.ofChange fnExactSkipsInWrong)

/-- 'laws.FnExactWildShare': WHATEVER THE INPUT: true; the input reads as it did. -/
def fnExactWildShareSpec : ChangeSpec := { name := "fnExactWildShare", vars := ["loop.example/g03010/impl.suitSigns", "loop.example/g03010/impl.rankSigns", "loop.example/g03010/impl.fromSigns", "loop.example/g03010/impl.redSign", "loop.example/g03010/impl.notSign", "loop.example/g03010/impl.andSign", "loop.example/g03010/impl.orSign"], fn := fun _ => fun
  | [d, g1, g2, g3, g4, g5, g6, g7] => { results := [.lit (.bool true)], args := [d], vars := [g1, g2, g3, g4, g5, g6, g7] }
  | _ => none }
def fnExactWildShareRow : OpenClaim := { program := "ytonpdjgokmedjaadoor", sum := "a8a462a3254270d313aa8f7cc00598203e5850985854119c981806d728f3b2a5", func := "loop.example/g03010/laws.FnExactWildShare", spec := "fnExactWildShare", unfollowed := true, recurses := true, named := ["loop.example/g03010/impl.suitSigns", "loop.example/g03010/impl.rankSigns", "loop.example/g03010/impl.fromSigns", "loop.example/g03010/impl.redSign", "loop.example/g03010/impl.notSign", "loop.example/g03010/impl.andSign", "loop.example/g03010/impl.orSign"], apart := false, laid := [("loop.example/g03010/impl.suitSigns", laid_loop_example_g03010_impl_suitSigns), ("loop.example/g03010/impl.rankSigns", laid_loop_example_g03010_impl_rankSigns), ("loop.example/g03010/impl.fromSigns", laid_loop_example_g03010_impl_fromSigns), ("loop.example/g03010/impl.redSign", laid_loop_example_g03010_impl_redSign), ("loop.example/g03010/impl.notSign", laid_loop_example_g03010_impl_notSign), ("loop.example/g03010/impl.andSign", laid_loop_example_g03010_impl_andSign), ("loop.example/g03010/impl.orSign", laid_loop_example_g03010_impl_orSign)] }
def FnExactWildShareSaid : Prop := fnExactWildShareRow.holds Tryd.pinned (OpenSpec.ofChange fnExactWildShareSpec)

/-- ITS FALSE NEIGHBOUR: 'it returns false'. Refute it at one input. -/
def fnExactWildShareWrong : ChangeSpec := { name := "fnExactWildShare", vars := ["loop.example/g03010/impl.suitSigns", "loop.example/g03010/impl.rankSigns", "loop.example/g03010/impl.fromSigns", "loop.example/g03010/impl.redSign", "loop.example/g03010/impl.notSign", "loop.example/g03010/impl.andSign", "loop.example/g03010/impl.orSign"], fn := fun _ => fun
  | [d, g1, g2, g3, g4, g5, g6, g7] => { results := [.lit (.bool false)], args := [d], vars := [g1, g2, g3, g4, g5, g6, g7] }
  | _ => none }
def FnExactWildShareWrongFalsely : Prop := fnExactWildShareRow.holds Tryd.pinned (OpenSpec.ofChange fnExactWildShareWrong)

/- THE SECOND FORM. 'bulk': how many values and letters a reading holds, each counted each time it is reached (what is shared counts as often as it is met; a slice's spare places count too). A statement '..UptoSaid' is the law's where the arguments, and the package variables that the reading takes, are together of bulk at most 1048576: NARROWER than '..Said'. Prove '..Said' where nothing that the law and all that it calls make is longer than what came in: it says more and counts as full. Else prove '..UptoSaid'. A law counts once. -/
mutual
def uptoBulk {H : Type} : DataW H → Nat
  | .lit (.string bytes) => bytes.length + 1
  | .lit _ => 1
  | .nil => 1
  | .ptr d => uptoBulk d + 1
  | .slice elems spare => uptoBulkAll elems + uptoBulkAll spare + 1
  | .agg parts => uptoBulkAll parts + 1
  | .iface _ d => uptoBulk d + 1
  | .map entries => uptoBulkEntries entries + 1
  | .held _ => 1
def uptoBulkAll {H : Type} : List (DataW H) → Nat
  | [] => 0
  | d :: r => uptoBulk d + uptoBulkAll r
def uptoBulkEntries {H : Type} : List (Lit × DataW H) → Nat
  | [] => 0
  | x :: r => uptoBulkEntry x + uptoBulkEntries r
def uptoBulkEntry {H : Type} : Lit × DataW H → Nat
  | (.string bytes, d) => bytes.length + uptoBulk d + 1
  | (_, d) => uptoBulk d + 1
 end
def uptoSmall : (H : Type) → List (DataW H) → Bool := fun _ ds => decide (uptoBulkAll ds ≤ 1048576)
def OpenSpec.upto (s : _root_.Go.ChangeSpec) : _root_.Go.OpenSpec := { _root_.Go.OpenSpec.ofChange s with cond := some uptoSmall }

/-- 'laws.FnExactAlikePatterns', WHERE WHAT IT READS IS OF BULK AT MOST 1048576: true; the input reads as it did. -/
def fnExactAlikePatternsUptoRow : OpenClaim := { program := "ytonpdjgokmedjaadoor", sum := "a8a462a3254270d313aa8f7cc00598203e5850985854119c981806d728f3b2a5", func := "loop.example/g03010/laws.FnExactAlikePatterns", spec := "fnExactAlikePatterns", unfollowed := true, recurses := true, named := ["loop.example/g03010/impl.suitSigns", "loop.example/g03010/impl.rankSigns", "loop.example/g03010/impl.fromSigns", "loop.example/g03010/impl.redSign", "loop.example/g03010/impl.notSign", "loop.example/g03010/impl.andSign", "loop.example/g03010/impl.orSign"], apart := false, laid := [("loop.example/g03010/impl.suitSigns", laid_loop_example_g03010_impl_suitSigns), ("loop.example/g03010/impl.rankSigns", laid_loop_example_g03010_impl_rankSigns), ("loop.example/g03010/impl.fromSigns", laid_loop_example_g03010_impl_fromSigns), ("loop.example/g03010/impl.redSign", laid_loop_example_g03010_impl_redSign), ("loop.example/g03010/impl.notSign", laid_loop_example_g03010_impl_notSign), ("loop.example/g03010/impl.andSign", laid_loop_example_g03010_impl_andSign), ("loop.example/g03010/impl.orSign", laid_loop_example_g03010_impl_orSign)], narrowed := true }
def FnExactAlikePatternsUptoSaid : Prop := fnExactAlikePatternsUptoRow.holds Tryd.pinned (OpenSpec.upto fnExactAlikePatternsSpec)

/-- 'laws.FnExactIsRules', WHERE WHAT IT READS IS OF BULK AT MOST 1048576: true; the input reads as it did. -/
def fnExactIsRulesUptoRow : OpenClaim := { program := "ytonpdjgokmedjaadoor", sum := "a8a462a3254270d313aa8f7cc00598203e5850985854119c981806d728f3b2a5", func := "loop.example/g03010/laws.FnExactIsRules", spec := "fnExactIsRules", unfollowed := true, recurses := true, named := ["loop.example/g03010/impl.suitSigns", "loop.example/g03010/impl.rankSigns", "loop.example/g03010/impl.fromSigns", "loop.example/g03010/impl.redSign", "loop.example/g03010/impl.notSign", "loop.example/g03010/impl.andSign", "loop.example/g03010/impl.orSign"], apart := false, laid := [("loop.example/g03010/impl.suitSigns", laid_loop_example_g03010_impl_suitSigns), ("loop.example/g03010/impl.rankSigns", laid_loop_example_g03010_impl_rankSigns), ("loop.example/g03010/impl.fromSigns", laid_loop_example_g03010_impl_fromSigns), ("loop.example/g03010/impl.redSign", laid_loop_example_g03010_impl_redSign), ("loop.example/g03010/impl.notSign", laid_loop_example_g03010_impl_notSign), ("loop.example/g03010/impl.andSign", laid_loop_example_g03010_impl_andSign), ("loop.example/g03010/impl.orSign", laid_loop_example_g03010_impl_orSign)], narrowed := true }
def FnExactIsRulesUptoSaid : Prop := fnExactIsRulesUptoRow.holds Tryd.pinned (OpenSpec.upto fnExactIsRulesSpec)

/-- 'laws.FnExactDoesSkip', WHERE WHAT IT READS IS OF BULK AT MOST 1048576: true; the input reads as it did. -/
def fnExactDoesSkipUptoRow : OpenClaim := { program := "ytonpdjgokmedjaadoor", sum := "a8a462a3254270d313aa8f7cc00598203e5850985854119c981806d728f3b2a5", func := "loop.example/g03010/laws.FnExactDoesSkip", spec := "fnExactDoesSkip", unfollowed := true, recurses := true, named := ["loop.example/g03010/impl.suitSigns", "loop.example/g03010/impl.rankSigns", "loop.example/g03010/impl.fromSigns", "loop.example/g03010/impl.redSign", "loop.example/g03010/impl.notSign", "loop.example/g03010/impl.andSign", "loop.example/g03010/impl.orSign"], apart := false, laid := [("loop.example/g03010/impl.suitSigns", laid_loop_example_g03010_impl_suitSigns), ("loop.example/g03010/impl.rankSigns", laid_loop_example_g03010_impl_rankSigns), ("loop.example/g03010/impl.fromSigns", laid_loop_example_g03010_impl_fromSigns), ("loop.example/g03010/impl.redSign", laid_loop_example_g03010_impl_redSign), ("loop.example/g03010/impl.notSign", laid_loop_example_g03010_impl_notSign), ("loop.example/g03010/impl.andSign", laid_loop_example_g03010_impl_andSign), ("loop.example/g03010/impl.orSign", laid_loop_example_g03010_impl_orSign)], narrowed := true }
def FnExactDoesSkipUptoSaid : Prop := fnExactDoesSkipUptoRow.holds Tryd.pinned (OpenSpec.upto fnExactDoesSkipSpec)

/-- 'laws.FnExactFitsOn', WHERE WHAT IT READS IS OF BULK AT MOST 1048576: true; the input reads as it did. -/
def fnExactFitsOnUptoRow : OpenClaim := { program := "ytonpdjgokmedjaadoor", sum := "a8a462a3254270d313aa8f7cc00598203e5850985854119c981806d728f3b2a5", func := "loop.example/g03010/laws.FnExactFitsOn", spec := "fnExactFitsOn", unfollowed := true, recurses := true, named := ["loop.example/g03010/impl.suitSigns", "loop.example/g03010/impl.rankSigns", "loop.example/g03010/impl.fromSigns", "loop.example/g03010/impl.redSign", "loop.example/g03010/impl.notSign", "loop.example/g03010/impl.andSign", "loop.example/g03010/impl.orSign"], apart := false, laid := [("loop.example/g03010/impl.suitSigns", laid_loop_example_g03010_impl_suitSigns), ("loop.example/g03010/impl.rankSigns", laid_loop_example_g03010_impl_rankSigns), ("loop.example/g03010/impl.fromSigns", laid_loop_example_g03010_impl_fromSigns), ("loop.example/g03010/impl.redSign", laid_loop_example_g03010_impl_redSign), ("loop.example/g03010/impl.notSign", laid_loop_example_g03010_impl_notSign), ("loop.example/g03010/impl.andSign", laid_loop_example_g03010_impl_andSign), ("loop.example/g03010/impl.orSign", laid_loop_example_g03010_impl_orSign)], narrowed := true }
def FnExactFitsOnUptoSaid : Prop := fnExactFitsOnUptoRow.holds Tryd.pinned (OpenSpec.upto fnExactFitsOnSpec)

/-- 'laws.FnExactFitCount', WHERE WHAT IT READS IS OF BULK AT MOST 1048576: true; the input reads as it did. -/
def fnExactFitCountUptoRow : OpenClaim := { program := "ytonpdjgokmedjaadoor", sum := "a8a462a3254270d313aa8f7cc00598203e5850985854119c981806d728f3b2a5", func := "loop.example/g03010/laws.FnExactFitCount", spec := "fnExactFitCount", unfollowed := true, recurses := true, named := ["loop.example/g03010/impl.suitSigns", "loop.example/g03010/impl.rankSigns", "loop.example/g03010/impl.fromSigns", "loop.example/g03010/impl.redSign", "loop.example/g03010/impl.notSign", "loop.example/g03010/impl.andSign", "loop.example/g03010/impl.orSign"], apart := false, laid := [("loop.example/g03010/impl.suitSigns", laid_loop_example_g03010_impl_suitSigns), ("loop.example/g03010/impl.rankSigns", laid_loop_example_g03010_impl_rankSigns), ("loop.example/g03010/impl.fromSigns", laid_loop_example_g03010_impl_fromSigns), ("loop.example/g03010/impl.redSign", laid_loop_example_g03010_impl_redSign), ("loop.example/g03010/impl.notSign", laid_loop_example_g03010_impl_notSign), ("loop.example/g03010/impl.andSign", laid_loop_example_g03010_impl_andSign), ("loop.example/g03010/impl.orSign", laid_loop_example_g03010_impl_orSign)], narrowed := true }
def FnExactFitCountUptoSaid : Prop := fnExactFitCountUptoRow.holds Tryd.pinned (OpenSpec.upto fnExactFitCountSpec)

/-- 'laws.FnExactSkipsIn', WHERE WHAT IT READS IS OF BULK AT MOST 1048576: true; the input reads as it did. -/
def fnExactSkipsInUptoRow : OpenClaim := { program := "ytonpdjgokmedjaadoor", sum := "a8a462a3254270d313aa8f7cc00598203e5850985854119c981806d728f3b2a5", func := "loop.example/g03010/laws.FnExactSkipsIn", spec := "fnExactSkipsIn", unfollowed := true, recurses := true, named := ["loop.example/g03010/impl.suitSigns", "loop.example/g03010/impl.rankSigns", "loop.example/g03010/impl.fromSigns", "loop.example/g03010/impl.redSign", "loop.example/g03010/impl.notSign", "loop.example/g03010/impl.andSign", "loop.example/g03010/impl.orSign"], apart := false, laid := [("loop.example/g03010/impl.suitSigns", laid_loop_example_g03010_impl_suitSigns), ("loop.example/g03010/impl.rankSigns", laid_loop_example_g03010_impl_rankSigns), ("loop.example/g03010/impl.fromSigns", laid_loop_example_g03010_impl_fromSigns), ("loop.example/g03010/impl.redSign", laid_loop_example_g03010_impl_redSign), ("loop.example/g03010/impl.notSign", laid_loop_example_g03010_impl_notSign), ("loop.example/g03010/impl.andSign", laid_loop_example_g03010_impl_andSign), ("loop.example/g03010/impl.orSign", laid_loop_example_g03010_impl_orSign)], narrowed := true }
def FnExactSkipsInUptoSaid : Prop := fnExactSkipsInUptoRow.holds Tryd.pinned (OpenSpec.upto fnExactSkipsInSpec)

/-- 'laws.FnExactWildShare', WHERE WHAT IT READS IS OF BULK AT MOST 1048576: true; the input reads as it did. -/
def fnExactWildShareUptoRow : OpenClaim := { program := "ytonpdjgokmedjaadoor", sum := "a8a462a3254270d313aa8f7cc00598203e5850985854119c981806d728f3b2a5", func := "loop.example/g03010/laws.FnExactWildShare", spec := "fnExactWildShare", unfollowed := true, recurses := true, named := ["loop.example/g03010/impl.suitSigns", "loop.example/g03010/impl.rankSigns", "loop.example/g03010/impl.fromSigns", "loop.example/g03010/impl.redSign", "loop.example/g03010/impl.notSign", "loop.example/g03010/impl.andSign", "loop.example/g03010/impl.orSign"], apart := false, laid := [("loop.example/g03010/impl.suitSigns", laid_loop_example_g03010_impl_suitSigns), ("loop.example/g03010/impl.rankSigns", laid_loop_example_g03010_impl_rankSigns), ("loop.example/g03010/impl.fromSigns", laid_loop_example_g03010_impl_fromSigns), ("loop.example/g03010/impl.redSign", laid_loop_example_g03010_impl_redSign), ("loop.example/g03010/impl.notSign", laid_loop_example_g03010_impl_notSign), ("loop.example/g03010/impl.andSign", laid_loop_example_g03010_impl_andSign), ("loop.example/g03010/impl.orSign", laid_loop_example_g03010_impl_orSign)], narrowed := true }
def FnExactWildShareUptoSaid : Prop := fnExactWildShareUptoRow.holds Tryd.pinned (OpenSpec.upto fnExactWildShareSpec)

end Rows
end Go.Proofs.YtonpdjgokmedjaaDoor
