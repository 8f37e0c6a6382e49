/-
  NARROWER THAN 'FOR EVERY INPUT', by the rows' own cells (each row's printed sentence says how): FnExactIsPattern: laid · FnExactMatches: laid · FnExactCountMatches: laid · FnExactMatchSet: laid · FnExactNotPattern: laid · FnExactAlikePatterns: laid · FnExactIsRules: laid · FnExactDoesSkip: laid · FnExactFitsOn: laid · FnExactFitCount: laid · FnExactSkipsIn: laid · FnExactWildShare: laid · FnExactIsOver: ifaces, laid · FnExactMissing: laid.
  DERIVED. THE GIVEN ROWS OF THIS SEAT. 14 by the template 'for every input the law returns true; each argument reads behind the call as it read before'; 0 by the template 'total and deterministic' (their statements: YtgpkgebnbdddnaaDoorTotals.lean).
  GIVEN WITH THE SEED: the statements are not yours to turn. If you find one false, say at which input.
  Laid BY PROGRAM, IN A SANDBOX (cutbox-rows.mjs): the forced cells as the released guide's own fill.sh prints them over the translation 82251faafe964eb8… (all of the seat's roots in one cut). By AI agents, Wed Nov 11 2026. No macro, syntax, notation, axiom, sorry.
-/
import Derived.Test.YtgpkgebnbdddnaaDoorChecked
import GoSem.Claim
import GoSem.ClaimJoined
import GoSem.ClaimMapViews
import Derived.JoinedTies
import Derived.KernelRfl
namespace Go.Proofs.YtgpkgebnbdddnaaDoor
/- THE CELL 'sum', in the pinned program and in every row, IS THE sha256 OF THE DUMP (.gsa) THAT YtgpkgebnbdddnaaDoorProg.lean LOADS. Nothing in Lean hashes anything: it is a label: what it is worth is what the hold of that sum in a sandbox is worth. -/
noncomputable def Tryd.pinned : Pinned := { name := "ytgpkgebnbdddnaadoor", sum := "82251faafe964eb84161e36b063dac1a2a3db7414c364efc6d79d851d75c17bb", checked := Tryd.checked }
namespace Rows
def none {H : Type} : Left H := { results := [], args := [] }

/- WHAT THE LISTED PACKAGE-LEVEL VARIABLES READ AS WHEN THE CALL BEGINS. Each datum BY PROGRAM (the guide's laid-datum.mjs) off the statement by which the dump's own 'gosem.cut.vars' lays the variable. In a bare row this is a premise. The card (YtgpkgebnbdddnaaDoorCards.lean) ties it to the program's text. -/
def laid_loop_example_g03010_impl_suitSigns {H : Type} : DataW H := .agg [.lit (.int .i64 100), .lit (.int .i64 4), .lit (.int .i64 0)]
def laid_loop_example_g03010_impl_rankSigns {H : Type} : DataW H := .agg [.lit (.int .i64 200), .lit (.int .i64 13), .lit (.int .i64 0)]
def laid_loop_example_g03010_impl_fromSigns {H : Type} : DataW H := .agg [.lit (.int .i64 300), .lit (.int .i64 13), .lit (.int .i64 0)]
def laid_loop_example_g03010_impl_redSign {H : Type} : DataW H := .agg [.lit (.int .i64 400), .lit (.int .i64 1), .lit (.int .i64 0)]
def laid_loop_example_g03010_impl_notSign {H : Type} : DataW H := .agg [.lit (.int .i64 (-1)), .lit (.int .i64 1), .lit (.int .i64 1)]
def laid_loop_example_g03010_impl_andSign {H : Type} : DataW H := .agg [.lit (.int .i64 (-2)), .lit (.int .i64 1), .lit (.int .i64 2)]
def laid_loop_example_g03010_impl_orSign {H : Type} : DataW H := .agg [.lit (.int .i64 (-3)), .lit (.int .i64 1), .lit (.int .i64 2)]
def laid_loop_example_g03010_impl_errNotDecimal {H : Type} : DataW H := .iface "*errors.errorString" (.ptr (.agg [.lit (.string [110, 111, 116, 32, 116, 104, 101, 32, 100, 101, 99, 105, 109, 97, 108, 32, 102, 111, 114, 109, 32, 111, 102, 32, 97, 110, 32, 105, 110, 116, 101, 103, 101, 114])]))
def laid_loop_example_g03010_impl_errOutOfRange {H : Type} : DataW H := .iface "*errors.errorString" (.ptr (.agg [.lit (.string [105, 110, 116, 101, 103, 101, 114, 32, 111, 117, 116, 32, 111, 102, 32, 114, 97, 110, 103, 101])]))
def laid_math_bits_deBruijn64tab {H : Type} : DataW H := .agg [.lit (.int .u8 0), .lit (.int .u8 1), .lit (.int .u8 56), .lit (.int .u8 2), .lit (.int .u8 57), .lit (.int .u8 49), .lit (.int .u8 28), .lit (.int .u8 3), .lit (.int .u8 61), .lit (.int .u8 58), .lit (.int .u8 42), .lit (.int .u8 50), .lit (.int .u8 38), .lit (.int .u8 29), .lit (.int .u8 17), .lit (.int .u8 4), .lit (.int .u8 62), .lit (.int .u8 47), .lit (.int .u8 59), .lit (.int .u8 36), .lit (.int .u8 45), .lit (.int .u8 43), .lit (.int .u8 51), .lit (.int .u8 22), .lit (.int .u8 53), .lit (.int .u8 39), .lit (.int .u8 33), .lit (.int .u8 30), .lit (.int .u8 24), .lit (.int .u8 18), .lit (.int .u8 12), .lit (.int .u8 5), .lit (.int .u8 63), .lit (.int .u8 55), .lit (.int .u8 48), .lit (.int .u8 27), .lit (.int .u8 60), .lit (.int .u8 41), .lit (.int .u8 37), .lit (.int .u8 16), .lit (.int .u8 46), .lit (.int .u8 35), .lit (.int .u8 44), .lit (.int .u8 21), .lit (.int .u8 52), .lit (.int .u8 32), .lit (.int .u8 23), .lit (.int .u8 11), .lit (.int .u8 54), .lit (.int .u8 26), .lit (.int .u8 40), .lit (.int .u8 15), .lit (.int .u8 34), .lit (.int .u8 20), .lit (.int .u8 31), .lit (.int .u8 10), .lit (.int .u8 25), .lit (.int .u8 14), .lit (.int .u8 19), .lit (.int .u8 9), .lit (.int .u8 13), .lit (.int .u8 8), .lit (.int .u8 7), .lit (.int .u8 6)]

/-- 'laws.FnExactIsPattern': WHATEVER THE INPUT: true; the input reads as it did. -/
def fnExactIsPatternSpec : ChangeSpec := { name := "fnExactIsPattern", vars := ["loop.example/g03010/impl.suitSigns", "loop.example/g03010/impl.rankSigns", "loop.example/g03010/impl.fromSigns", "loop.example/g03010/impl.redSign", "loop.example/g03010/impl.notSign", "loop.example/g03010/impl.andSign", "loop.example/g03010/impl.orSign"], fn := fun _ => fun
  | [d, g1, g2, g3, g4, g5, g6, g7] => { results := [.lit (.bool true)], args := [d], vars := [g1, g2, g3, g4, g5, g6, g7] }
  | _ => none }
def fnExactIsPatternRow : OpenClaim := { program := "ytgpkgebnbdddnaadoor", sum := "82251faafe964eb84161e36b063dac1a2a3db7414c364efc6d79d851d75c17bb", func := "loop.example/g03010/laws.FnExactIsPattern", spec := "fnExactIsPattern", unfollowed := true, recurses := true, named := ["loop.example/g03010/impl.suitSigns", "loop.example/g03010/impl.rankSigns", "loop.example/g03010/impl.fromSigns", "loop.example/g03010/impl.redSign", "loop.example/g03010/impl.notSign", "loop.example/g03010/impl.andSign", "loop.example/g03010/impl.orSign"], apart := false, laid := [("loop.example/g03010/impl.suitSigns", laid_loop_example_g03010_impl_suitSigns), ("loop.example/g03010/impl.rankSigns", laid_loop_example_g03010_impl_rankSigns), ("loop.example/g03010/impl.fromSigns", laid_loop_example_g03010_impl_fromSigns), ("loop.example/g03010/impl.redSign", laid_loop_example_g03010_impl_redSign), ("loop.example/g03010/impl.notSign", laid_loop_example_g03010_impl_notSign), ("loop.example/g03010/impl.andSign", laid_loop_example_g03010_impl_andSign), ("loop.example/g03010/impl.orSign", laid_loop_example_g03010_impl_orSign)] }
def FnExactIsPatternSaid : Prop := fnExactIsPatternRow.holds Tryd.pinned (OpenSpec.ofChange fnExactIsPatternSpec)

/-- ITS FALSE NEIGHBOUR: 'it returns false'. Refute it at one input. -/
def fnExactIsPatternWrong : ChangeSpec := { name := "fnExactIsPattern", vars := ["loop.example/g03010/impl.suitSigns", "loop.example/g03010/impl.rankSigns", "loop.example/g03010/impl.fromSigns", "loop.example/g03010/impl.redSign", "loop.example/g03010/impl.notSign", "loop.example/g03010/impl.andSign", "loop.example/g03010/impl.orSign"], fn := fun _ => fun
  | [d, g1, g2, g3, g4, g5, g6, g7] => { results := [.lit (.bool false)], args := [d], vars := [g1, g2, g3, g4, g5, g6, g7] }
  | _ => none }
def FnExactIsPatternWrongFalsely : Prop := fnExactIsPatternRow.holds Tryd.pinned (OpenSpec.ofChange fnExactIsPatternWrong)

/-- 'laws.FnExactMatches': WHATEVER THE INPUT: true; the input reads as it did. -/
def fnExactMatchesSpec : ChangeSpec := { name := "fnExactMatches", vars := ["loop.example/g03010/impl.suitSigns", "loop.example/g03010/impl.rankSigns", "loop.example/g03010/impl.fromSigns", "loop.example/g03010/impl.redSign", "loop.example/g03010/impl.notSign", "loop.example/g03010/impl.andSign", "loop.example/g03010/impl.orSign"], fn := fun _ => fun
  | [d1, d2, g1, g2, g3, g4, g5, g6, g7] => { results := [.lit (.bool true)], args := [d1, d2], vars := [g1, g2, g3, g4, g5, g6, g7] }
  | _ => none }
def fnExactMatchesRow : OpenClaim := { program := "ytgpkgebnbdddnaadoor", sum := "82251faafe964eb84161e36b063dac1a2a3db7414c364efc6d79d851d75c17bb", func := "loop.example/g03010/laws.FnExactMatches", spec := "fnExactMatches", unfollowed := true, recurses := true, named := ["loop.example/g03010/impl.suitSigns", "loop.example/g03010/impl.rankSigns", "loop.example/g03010/impl.fromSigns", "loop.example/g03010/impl.redSign", "loop.example/g03010/impl.notSign", "loop.example/g03010/impl.andSign", "loop.example/g03010/impl.orSign"], apart := false, laid := [("loop.example/g03010/impl.suitSigns", laid_loop_example_g03010_impl_suitSigns), ("loop.example/g03010/impl.rankSigns", laid_loop_example_g03010_impl_rankSigns), ("loop.example/g03010/impl.fromSigns", laid_loop_example_g03010_impl_fromSigns), ("loop.example/g03010/impl.redSign", laid_loop_example_g03010_impl_redSign), ("loop.example/g03010/impl.notSign", laid_loop_example_g03010_impl_notSign), ("loop.example/g03010/impl.andSign", laid_loop_example_g03010_impl_andSign), ("loop.example/g03010/impl.orSign", laid_loop_example_g03010_impl_orSign)] }
def FnExactMatchesSaid : Prop := fnExactMatchesRow.holds Tryd.pinned (OpenSpec.ofChange fnExactMatchesSpec)

/-- ITS FALSE NEIGHBOUR: 'it returns false'. Refute it at one input. -/
def fnExactMatchesWrong : ChangeSpec := { name := "fnExactMatches", vars := ["loop.example/g03010/impl.suitSigns", "loop.example/g03010/impl.rankSigns", "loop.example/g03010/impl.fromSigns", "loop.example/g03010/impl.redSign", "loop.example/g03010/impl.notSign", "loop.example/g03010/impl.andSign", "loop.example/g03010/impl.orSign"], fn := fun _ => fun
  | [d1, d2, g1, g2, g3, g4, g5, g6, g7] => { results := [.lit (.bool false)], args := [d1, d2], vars := [g1, g2, g3, g4, g5, g6, g7] }
  | _ => none }
def FnExactMatchesWrongFalsely : Prop := fnExactMatchesRow.holds Tryd.pinned (OpenSpec.ofChange fnExactMatchesWrong)

/-- 'laws.FnExactCountMatches': WHATEVER THE INPUT: true; the input reads as it did. -/
def fnExactCountMatchesSpec : ChangeSpec := { name := "fnExactCountMatches", vars := ["loop.example/g03010/impl.suitSigns", "loop.example/g03010/impl.rankSigns", "loop.example/g03010/impl.fromSigns", "loop.example/g03010/impl.redSign", "loop.example/g03010/impl.notSign", "loop.example/g03010/impl.andSign", "loop.example/g03010/impl.orSign"], fn := fun _ => fun
  | [d1, d2, g1, g2, g3, g4, g5, g6, g7] => { results := [.lit (.bool true)], args := [d1, d2], vars := [g1, g2, g3, g4, g5, g6, g7] }
  | _ => none }
def fnExactCountMatchesRow : OpenClaim := { program := "ytgpkgebnbdddnaadoor", sum := "82251faafe964eb84161e36b063dac1a2a3db7414c364efc6d79d851d75c17bb", func := "loop.example/g03010/laws.FnExactCountMatches", spec := "fnExactCountMatches", unfollowed := true, recurses := true, named := ["loop.example/g03010/impl.suitSigns", "loop.example/g03010/impl.rankSigns", "loop.example/g03010/impl.fromSigns", "loop.example/g03010/impl.redSign", "loop.example/g03010/impl.notSign", "loop.example/g03010/impl.andSign", "loop.example/g03010/impl.orSign"], apart := false, laid := [("loop.example/g03010/impl.suitSigns", laid_loop_example_g03010_impl_suitSigns), ("loop.example/g03010/impl.rankSigns", laid_loop_example_g03010_impl_rankSigns), ("loop.example/g03010/impl.fromSigns", laid_loop_example_g03010_impl_fromSigns), ("loop.example/g03010/impl.redSign", laid_loop_example_g03010_impl_redSign), ("loop.example/g03010/impl.notSign", laid_loop_example_g03010_impl_notSign), ("loop.example/g03010/impl.andSign", laid_loop_example_g03010_impl_andSign), ("loop.example/g03010/impl.orSign", laid_loop_example_g03010_impl_orSign)] }
def FnExactCountMatchesSaid : Prop := fnExactCountMatchesRow.holds Tryd.pinned (OpenSpec.ofChange fnExactCountMatchesSpec)

/-- ITS FALSE NEIGHBOUR: 'it returns false'. Refute it at one input. -/
def fnExactCountMatchesWrong : ChangeSpec := { name := "fnExactCountMatches", vars := ["loop.example/g03010/impl.suitSigns", "loop.example/g03010/impl.rankSigns", "loop.example/g03010/impl.fromSigns", "loop.example/g03010/impl.redSign", "loop.example/g03010/impl.notSign", "loop.example/g03010/impl.andSign", "loop.example/g03010/impl.orSign"], fn := fun _ => fun
  | [d1, d2, g1, g2, g3, g4, g5, g6, g7] => { results := [.lit (.bool false)], args := [d1, d2], vars := [g1, g2, g3, g4, g5, g6, g7] }
  | _ => none }
def FnExactCountMatchesWrongFalsely : Prop := fnExactCountMatchesRow.holds Tryd.pinned (OpenSpec.ofChange fnExactCountMatchesWrong)

/-- 'laws.FnExactMatchSet': WHATEVER THE INPUT: true; the input reads as it did. -/
def fnExactMatchSetSpec : ChangeSpec := { name := "fnExactMatchSet", vars := ["loop.example/g03010/impl.suitSigns", "loop.example/g03010/impl.rankSigns", "loop.example/g03010/impl.fromSigns", "loop.example/g03010/impl.redSign", "loop.example/g03010/impl.notSign", "loop.example/g03010/impl.andSign", "loop.example/g03010/impl.orSign"], fn := fun _ => fun
  | [d, g1, g2, g3, g4, g5, g6, g7] => { results := [.lit (.bool true)], args := [d], vars := [g1, g2, g3, g4, g5, g6, g7] }
  | _ => none }
def fnExactMatchSetRow : OpenClaim := { program := "ytgpkgebnbdddnaadoor", sum := "82251faafe964eb84161e36b063dac1a2a3db7414c364efc6d79d851d75c17bb", func := "loop.example/g03010/laws.FnExactMatchSet", spec := "fnExactMatchSet", unfollowed := true, recurses := true, named := ["loop.example/g03010/impl.suitSigns", "loop.example/g03010/impl.rankSigns", "loop.example/g03010/impl.fromSigns", "loop.example/g03010/impl.redSign", "loop.example/g03010/impl.notSign", "loop.example/g03010/impl.andSign", "loop.example/g03010/impl.orSign"], apart := false, laid := [("loop.example/g03010/impl.suitSigns", laid_loop_example_g03010_impl_suitSigns), ("loop.example/g03010/impl.rankSigns", laid_loop_example_g03010_impl_rankSigns), ("loop.example/g03010/impl.fromSigns", laid_loop_example_g03010_impl_fromSigns), ("loop.example/g03010/impl.redSign", laid_loop_example_g03010_impl_redSign), ("loop.example/g03010/impl.notSign", laid_loop_example_g03010_impl_notSign), ("loop.example/g03010/impl.andSign", laid_loop_example_g03010_impl_andSign), ("loop.example/g03010/impl.orSign", laid_loop_example_g03010_impl_orSign)] }
def FnExactMatchSetSaid : Prop := fnExactMatchSetRow.holds Tryd.pinned (OpenSpec.ofChange fnExactMatchSetSpec)

/-- ITS FALSE NEIGHBOUR: 'it returns false'. Refute it at one input. -/
def fnExactMatchSetWrong : ChangeSpec := { name := "fnExactMatchSet", vars := ["loop.example/g03010/impl.suitSigns", "loop.example/g03010/impl.rankSigns", "loop.example/g03010/impl.fromSigns", "loop.example/g03010/impl.redSign", "loop.example/g03010/impl.notSign", "loop.example/g03010/impl.andSign", "loop.example/g03010/impl.orSign"], fn := fun _ => fun
  | [d, g1, g2, g3, g4, g5, g6, g7] => { results := [.lit (.bool false)], args := [d], vars := [g1, g2, g3, g4, g5, g6, g7] }
  | _ => none }
def FnExactMatchSetWrongFalsely : Prop := fnExactMatchSetRow.holds Tryd.pinned (OpenSpec.ofChange fnExactMatchSetWrong)

/-- 'laws.FnExactNotPattern': WHATEVER THE INPUT: true; the input reads as it did. -/
def fnExactNotPatternSpec : ChangeSpec := { name := "fnExactNotPattern", vars := ["loop.example/g03010/impl.suitSigns", "loop.example/g03010/impl.rankSigns", "loop.example/g03010/impl.fromSigns", "loop.example/g03010/impl.redSign", "loop.example/g03010/impl.notSign", "loop.example/g03010/impl.andSign", "loop.example/g03010/impl.orSign"], fn := fun _ => fun
  | [d, g1, g2, g3, g4, g5, g6, g7] => { results := [.lit (.bool true)], args := [d], vars := [g1, g2, g3, g4, g5, g6, g7] }
  | _ => none }
def fnExactNotPatternRow : OpenClaim := { program := "ytgpkgebnbdddnaadoor", sum := "82251faafe964eb84161e36b063dac1a2a3db7414c364efc6d79d851d75c17bb", func := "loop.example/g03010/laws.FnExactNotPattern", spec := "fnExactNotPattern", unfollowed := true, recurses := true, named := ["loop.example/g03010/impl.suitSigns", "loop.example/g03010/impl.rankSigns", "loop.example/g03010/impl.fromSigns", "loop.example/g03010/impl.redSign", "loop.example/g03010/impl.notSign", "loop.example/g03010/impl.andSign", "loop.example/g03010/impl.orSign"], apart := false, laid := [("loop.example/g03010/impl.suitSigns", laid_loop_example_g03010_impl_suitSigns), ("loop.example/g03010/impl.rankSigns", laid_loop_example_g03010_impl_rankSigns), ("loop.example/g03010/impl.fromSigns", laid_loop_example_g03010_impl_fromSigns), ("loop.example/g03010/impl.redSign", laid_loop_example_g03010_impl_redSign), ("loop.example/g03010/impl.notSign", laid_loop_example_g03010_impl_notSign), ("loop.example/g03010/impl.andSign", laid_loop_example_g03010_impl_andSign), ("loop.example/g03010/impl.orSign", laid_loop_example_g03010_impl_orSign)] }
def FnExactNotPatternSaid : Prop := fnExactNotPatternRow.holds Tryd.pinned (OpenSpec.ofChange fnExactNotPatternSpec)

/-- ITS FALSE NEIGHBOUR: 'it returns false'. Refute it at one input. -/
def fnExactNotPatternWrong : ChangeSpec := { name := "fnExactNotPattern", vars := ["loop.example/g03010/impl.suitSigns", "loop.example/g03010/impl.rankSigns", "loop.example/g03010/impl.fromSigns", "loop.example/g03010/impl.redSign", "loop.example/g03010/impl.notSign", "loop.example/g03010/impl.andSign", "loop.example/g03010/impl.orSign"], fn := fun _ => fun
  | [d, g1, g2, g3, g4, g5, g6, g7] => { results := [.lit (.bool false)], args := [d], vars := [g1, g2, g3, g4, g5, g6, g7] }
  | _ => none }
def FnExactNotPatternWrongFalsely : Prop := fnExactNotPatternRow.holds Tryd.pinned (OpenSpec.ofChange fnExactNotPatternWrong)

/-- 'laws.FnExactAlikePatterns': WHATEVER THE INPUT: true; the input reads as it did. -/
def fnExactAlikePatternsSpec : ChangeSpec := { name := "fnExactAlikePatterns", vars := ["loop.example/g03010/impl.suitSigns", "loop.example/g03010/impl.rankSigns", "loop.example/g03010/impl.fromSigns", "loop.example/g03010/impl.redSign", "loop.example/g03010/impl.notSign", "loop.example/g03010/impl.andSign", "loop.example/g03010/impl.orSign"], fn := fun _ => fun
  | [d1, d2, g1, g2, g3, g4, g5, g6, g7] => { results := [.lit (.bool true)], args := [d1, d2], vars := [g1, g2, g3, g4, g5, g6, g7] }
  | _ => none }
def fnExactAlikePatternsRow : OpenClaim := { program := "ytgpkgebnbdddnaadoor", sum := "82251faafe964eb84161e36b063dac1a2a3db7414c364efc6d79d851d75c17bb", func := "loop.example/g03010/laws.FnExactAlikePatterns", spec := "fnExactAlikePatterns", unfollowed := true, recurses := true, named := ["loop.example/g03010/impl.suitSigns", "loop.example/g03010/impl.rankSigns", "loop.example/g03010/impl.fromSigns", "loop.example/g03010/impl.redSign", "loop.example/g03010/impl.notSign", "loop.example/g03010/impl.andSign", "loop.example/g03010/impl.orSign"], apart := false, laid := [("loop.example/g03010/impl.suitSigns", laid_loop_example_g03010_impl_suitSigns), ("loop.example/g03010/impl.rankSigns", laid_loop_example_g03010_impl_rankSigns), ("loop.example/g03010/impl.fromSigns", laid_loop_example_g03010_impl_fromSigns), ("loop.example/g03010/impl.redSign", laid_loop_example_g03010_impl_redSign), ("loop.example/g03010/impl.notSign", laid_loop_example_g03010_impl_notSign), ("loop.example/g03010/impl.andSign", laid_loop_example_g03010_impl_andSign), ("loop.example/g03010/impl.orSign", laid_loop_example_g03010_impl_orSign)] }
def FnExactAlikePatternsSaid : Prop := fnExactAlikePatternsRow.holds Tryd.pinned (OpenSpec.ofChange fnExactAlikePatternsSpec)

/-- ITS FALSE NEIGHBOUR: 'it returns false'. Refute it at one input. -/
def fnExactAlikePatternsWrong : ChangeSpec := { name := "fnExactAlikePatterns", vars := ["loop.example/g03010/impl.suitSigns", "loop.example/g03010/impl.rankSigns", "loop.example/g03010/impl.fromSigns", "loop.example/g03010/impl.redSign", "loop.example/g03010/impl.notSign", "loop.example/g03010/impl.andSign", "loop.example/g03010/impl.orSign"], fn := fun _ => fun
  | [d1, d2, g1, g2, g3, g4, g5, g6, g7] => { results := [.lit (.bool false)], args := [d1, d2], vars := [g1, g2, g3, g4, g5, g6, g7] }
  | _ => none }
def FnExactAlikePatternsWrongFalsely : Prop := fnExactAlikePatternsRow.holds Tryd.pinned (OpenSpec.ofChange fnExactAlikePatternsWrong)

/-- 'laws.FnExactIsRules': WHATEVER THE INPUT: true; the input reads as it did. -/
def fnExactIsRulesSpec : ChangeSpec := { name := "fnExactIsRules", vars := ["loop.example/g03010/impl.suitSigns", "loop.example/g03010/impl.rankSigns", "loop.example/g03010/impl.fromSigns", "loop.example/g03010/impl.redSign", "loop.example/g03010/impl.notSign", "loop.example/g03010/impl.andSign", "loop.example/g03010/impl.orSign"], fn := fun _ => fun
  | [d, g1, g2, g3, g4, g5, g6, g7] => { results := [.lit (.bool true)], args := [d], vars := [g1, g2, g3, g4, g5, g6, g7] }
  | _ => none }
def fnExactIsRulesRow : OpenClaim := { program := "ytgpkgebnbdddnaadoor", sum := "82251faafe964eb84161e36b063dac1a2a3db7414c364efc6d79d851d75c17bb", func := "loop.example/g03010/laws.FnExactIsRules", spec := "fnExactIsRules", unfollowed := true, recurses := true, named := ["loop.example/g03010/impl.suitSigns", "loop.example/g03010/impl.rankSigns", "loop.example/g03010/impl.fromSigns", "loop.example/g03010/impl.redSign", "loop.example/g03010/impl.notSign", "loop.example/g03010/impl.andSign", "loop.example/g03010/impl.orSign"], apart := false, laid := [("loop.example/g03010/impl.suitSigns", laid_loop_example_g03010_impl_suitSigns), ("loop.example/g03010/impl.rankSigns", laid_loop_example_g03010_impl_rankSigns), ("loop.example/g03010/impl.fromSigns", laid_loop_example_g03010_impl_fromSigns), ("loop.example/g03010/impl.redSign", laid_loop_example_g03010_impl_redSign), ("loop.example/g03010/impl.notSign", laid_loop_example_g03010_impl_notSign), ("loop.example/g03010/impl.andSign", laid_loop_example_g03010_impl_andSign), ("loop.example/g03010/impl.orSign", laid_loop_example_g03010_impl_orSign)] }
def FnExactIsRulesSaid : Prop := fnExactIsRulesRow.holds Tryd.pinned (OpenSpec.ofChange fnExactIsRulesSpec)

/-- ITS FALSE NEIGHBOUR: 'it returns false'. Refute it at one input. -/
def fnExactIsRulesWrong : ChangeSpec := { name := "fnExactIsRules", vars := ["loop.example/g03010/impl.suitSigns", "loop.example/g03010/impl.rankSigns", "loop.example/g03010/impl.fromSigns", "loop.example/g03010/impl.redSign", "loop.example/g03010/impl.notSign", "loop.example/g03010/impl.andSign", "loop.example/g03010/impl.orSign"], fn := fun _ => fun
  | [d, g1, g2, g3, g4, g5, g6, g7] => { results := [.lit (.bool false)], args := [d], vars := [g1, g2, g3, g4, g5, g6, g7] }
  | _ => none }
def FnExactIsRulesWrongFalsely : Prop := fnExactIsRulesRow.holds Tryd.pinned (OpenSpec.ofChange fnExactIsRulesWrong)

/-- 'laws.FnExactDoesSkip': WHATEVER THE INPUT: true; the input reads as it did. -/
def fnExactDoesSkipSpec : ChangeSpec := { name := "fnExactDoesSkip", vars := ["loop.example/g03010/impl.suitSigns", "loop.example/g03010/impl.rankSigns", "loop.example/g03010/impl.fromSigns", "loop.example/g03010/impl.redSign", "loop.example/g03010/impl.notSign", "loop.example/g03010/impl.andSign", "loop.example/g03010/impl.orSign"], fn := fun _ => fun
  | [d1, d2, g1, g2, g3, g4, g5, g6, g7] => { results := [.lit (.bool true)], args := [d1, d2], vars := [g1, g2, g3, g4, g5, g6, g7] }
  | _ => none }
def fnExactDoesSkipRow : OpenClaim := { program := "ytgpkgebnbdddnaadoor", sum := "82251faafe964eb84161e36b063dac1a2a3db7414c364efc6d79d851d75c17bb", func := "loop.example/g03010/laws.FnExactDoesSkip", spec := "fnExactDoesSkip", unfollowed := true, recurses := true, named := ["loop.example/g03010/impl.suitSigns", "loop.example/g03010/impl.rankSigns", "loop.example/g03010/impl.fromSigns", "loop.example/g03010/impl.redSign", "loop.example/g03010/impl.notSign", "loop.example/g03010/impl.andSign", "loop.example/g03010/impl.orSign"], apart := false, laid := [("loop.example/g03010/impl.suitSigns", laid_loop_example_g03010_impl_suitSigns), ("loop.example/g03010/impl.rankSigns", laid_loop_example_g03010_impl_rankSigns), ("loop.example/g03010/impl.fromSigns", laid_loop_example_g03010_impl_fromSigns), ("loop.example/g03010/impl.redSign", laid_loop_example_g03010_impl_redSign), ("loop.example/g03010/impl.notSign", laid_loop_example_g03010_impl_notSign), ("loop.example/g03010/impl.andSign", laid_loop_example_g03010_impl_andSign), ("loop.example/g03010/impl.orSign", laid_loop_example_g03010_impl_orSign)] }
def FnExactDoesSkipSaid : Prop := fnExactDoesSkipRow.holds Tryd.pinned (OpenSpec.ofChange fnExactDoesSkipSpec)

/-- ITS FALSE NEIGHBOUR: 'it returns false'. Refute it at one input. -/
def fnExactDoesSkipWrong : ChangeSpec := { name := "fnExactDoesSkip", vars := ["loop.example/g03010/impl.suitSigns", "loop.example/g03010/impl.rankSigns", "loop.example/g03010/impl.fromSigns", "loop.example/g03010/impl.redSign", "loop.example/g03010/impl.notSign", "loop.example/g03010/impl.andSign", "loop.example/g03010/impl.orSign"], fn := fun _ => fun
  | [d1, d2, g1, g2, g3, g4, g5, g6, g7] => { results := [.lit (.bool false)], args := [d1, d2], vars := [g1, g2, g3, g4, g5, g6, g7] }
  | _ => none }
def FnExactDoesSkipWrongFalsely : Prop := fnExactDoesSkipRow.holds Tryd.pinned (OpenSpec.ofChange fnExactDoesSkipWrong)

/-- 'laws.FnExactFitsOn': WHATEVER THE INPUT: true; the input reads as it did. -/
def fnExactFitsOnSpec : ChangeSpec := { name := "fnExactFitsOn", vars := ["loop.example/g03010/impl.suitSigns", "loop.example/g03010/impl.rankSigns", "loop.example/g03010/impl.fromSigns", "loop.example/g03010/impl.redSign", "loop.example/g03010/impl.notSign", "loop.example/g03010/impl.andSign", "loop.example/g03010/impl.orSign"], fn := fun _ => fun
  | [d1, d2, d3, g1, g2, g3, g4, g5, g6, g7] => { results := [.lit (.bool true)], args := [d1, d2, d3], vars := [g1, g2, g3, g4, g5, g6, g7] }
  | _ => none }
def fnExactFitsOnRow : OpenClaim := { program := "ytgpkgebnbdddnaadoor", sum := "82251faafe964eb84161e36b063dac1a2a3db7414c364efc6d79d851d75c17bb", func := "loop.example/g03010/laws.FnExactFitsOn", spec := "fnExactFitsOn", unfollowed := true, recurses := true, named := ["loop.example/g03010/impl.suitSigns", "loop.example/g03010/impl.rankSigns", "loop.example/g03010/impl.fromSigns", "loop.example/g03010/impl.redSign", "loop.example/g03010/impl.notSign", "loop.example/g03010/impl.andSign", "loop.example/g03010/impl.orSign"], apart := false, laid := [("loop.example/g03010/impl.suitSigns", laid_loop_example_g03010_impl_suitSigns), ("loop.example/g03010/impl.rankSigns", laid_loop_example_g03010_impl_rankSigns), ("loop.example/g03010/impl.fromSigns", laid_loop_example_g03010_impl_fromSigns), ("loop.example/g03010/impl.redSign", laid_loop_example_g03010_impl_redSign), ("loop.example/g03010/impl.notSign", laid_loop_example_g03010_impl_notSign), ("loop.example/g03010/impl.andSign", laid_loop_example_g03010_impl_andSign), ("loop.example/g03010/impl.orSign", laid_loop_example_g03010_impl_orSign)] }
def FnExactFitsOnSaid : Prop := fnExactFitsOnRow.holds Tryd.pinned (OpenSpec.ofChange fnExactFitsOnSpec)

/-- ITS FALSE NEIGHBOUR: 'it returns false'. Refute it at one input. -/
def fnExactFitsOnWrong : ChangeSpec := { name := "fnExactFitsOn", vars := ["loop.example/g03010/impl.suitSigns", "loop.example/g03010/impl.rankSigns", "loop.example/g03010/impl.fromSigns", "loop.example/g03010/impl.redSign", "loop.example/g03010/impl.notSign", "loop.example/g03010/impl.andSign", "loop.example/g03010/impl.orSign"], fn := fun _ => fun
  | [d1, d2, d3, g1, g2, g3, g4, g5, g6, g7] => { results := [.lit (.bool false)], args := [d1, d2, d3], vars := [g1, g2, g3, g4, g5, g6, g7] }
  | _ => none }
def FnExactFitsOnWrongFalsely : Prop := fnExactFitsOnRow.holds Tryd.pinned (OpenSpec.ofChange fnExactFitsOnWrong)

/-- 'laws.FnExactFitCount': WHATEVER THE INPUT: true; the input reads as it did. -/
def fnExactFitCountSpec : ChangeSpec := { name := "fnExactFitCount", vars := ["loop.example/g03010/impl.suitSigns", "loop.example/g03010/impl.rankSigns", "loop.example/g03010/impl.fromSigns", "loop.example/g03010/impl.redSign", "loop.example/g03010/impl.notSign", "loop.example/g03010/impl.andSign", "loop.example/g03010/impl.orSign"], fn := fun _ => fun
  | [d1, d2, g1, g2, g3, g4, g5, g6, g7] => { results := [.lit (.bool true)], args := [d1, d2], vars := [g1, g2, g3, g4, g5, g6, g7] }
  | _ => none }
def fnExactFitCountRow : OpenClaim := { program := "ytgpkgebnbdddnaadoor", sum := "82251faafe964eb84161e36b063dac1a2a3db7414c364efc6d79d851d75c17bb", func := "loop.example/g03010/laws.FnExactFitCount", spec := "fnExactFitCount", unfollowed := true, recurses := true, named := ["loop.example/g03010/impl.suitSigns", "loop.example/g03010/impl.rankSigns", "loop.example/g03010/impl.fromSigns", "loop.example/g03010/impl.redSign", "loop.example/g03010/impl.notSign", "loop.example/g03010/impl.andSign", "loop.example/g03010/impl.orSign"], apart := false, laid := [("loop.example/g03010/impl.suitSigns", laid_loop_example_g03010_impl_suitSigns), ("loop.example/g03010/impl.rankSigns", laid_loop_example_g03010_impl_rankSigns), ("loop.example/g03010/impl.fromSigns", laid_loop_example_g03010_impl_fromSigns), ("loop.example/g03010/impl.redSign", laid_loop_example_g03010_impl_redSign), ("loop.example/g03010/impl.notSign", laid_loop_example_g03010_impl_notSign), ("loop.example/g03010/impl.andSign", laid_loop_example_g03010_impl_andSign), ("loop.example/g03010/impl.orSign", laid_loop_example_g03010_impl_orSign)] }
def FnExactFitCountSaid : Prop := fnExactFitCountRow.holds Tryd.pinned (OpenSpec.ofChange fnExactFitCountSpec)

/-- ITS FALSE NEIGHBOUR: 'it returns false'. Refute it at one input. -/
def fnExactFitCountWrong : ChangeSpec := { name := "fnExactFitCount", vars := ["loop.example/g03010/impl.suitSigns", "loop.example/g03010/impl.rankSigns", "loop.example/g03010/impl.fromSigns", "loop.example/g03010/impl.redSign", "loop.example/g03010/impl.notSign", "loop.example/g03010/impl.andSign", "loop.example/g03010/impl.orSign"], fn := fun _ => fun
  | [d1, d2, g1, g2, g3, g4, g5, g6, g7] => { results := [.lit (.bool false)], args := [d1, d2], vars := [g1, g2, g3, g4, g5, g6, g7] }
  | _ => none }
def FnExactFitCountWrongFalsely : Prop := fnExactFitCountRow.holds Tryd.pinned (OpenSpec.ofChange fnExactFitCountWrong)

/-- 'laws.FnExactSkipsIn': WHATEVER THE INPUT: true; the input reads as it did. -/
def fnExactSkipsInSpec : ChangeSpec := { name := "fnExactSkipsIn", vars := ["loop.example/g03010/impl.suitSigns", "loop.example/g03010/impl.rankSigns", "loop.example/g03010/impl.fromSigns", "loop.example/g03010/impl.redSign", "loop.example/g03010/impl.notSign", "loop.example/g03010/impl.andSign", "loop.example/g03010/impl.orSign"], fn := fun _ => fun
  | [d1, d2, g1, g2, g3, g4, g5, g6, g7] => { results := [.lit (.bool true)], args := [d1, d2], vars := [g1, g2, g3, g4, g5, g6, g7] }
  | _ => none }
def fnExactSkipsInRow : OpenClaim := { program := "ytgpkgebnbdddnaadoor", sum := "82251faafe964eb84161e36b063dac1a2a3db7414c364efc6d79d851d75c17bb", func := "loop.example/g03010/laws.FnExactSkipsIn", spec := "fnExactSkipsIn", unfollowed := true, recurses := true, named := ["loop.example/g03010/impl.suitSigns", "loop.example/g03010/impl.rankSigns", "loop.example/g03010/impl.fromSigns", "loop.example/g03010/impl.redSign", "loop.example/g03010/impl.notSign", "loop.example/g03010/impl.andSign", "loop.example/g03010/impl.orSign"], apart := false, laid := [("loop.example/g03010/impl.suitSigns", laid_loop_example_g03010_impl_suitSigns), ("loop.example/g03010/impl.rankSigns", laid_loop_example_g03010_impl_rankSigns), ("loop.example/g03010/impl.fromSigns", laid_loop_example_g03010_impl_fromSigns), ("loop.example/g03010/impl.redSign", laid_loop_example_g03010_impl_redSign), ("loop.example/g03010/impl.notSign", laid_loop_example_g03010_impl_notSign), ("loop.example/g03010/impl.andSign", laid_loop_example_g03010_impl_andSign), ("loop.example/g03010/impl.orSign", laid_loop_example_g03010_impl_orSign)] }
def FnExactSkipsInSaid : Prop := fnExactSkipsInRow.holds Tryd.pinned (OpenSpec.ofChange fnExactSkipsInSpec)

/-- ITS FALSE NEIGHBOUR: 'it returns false'. Refute it at one input. -/
def fnExactSkipsInWrong : ChangeSpec := { name := "fnExactSkipsIn", vars := ["loop.example/g03010/impl.suitSigns", "loop.example/g03010/impl.rankSigns", "loop.example/g03010/impl.fromSigns", "loop.example/g03010/impl.redSign", "loop.example/g03010/impl.notSign", "loop.example/g03010/impl.andSign", "loop.example/g03010/impl.orSign"], fn := fun _ => fun
  | [d1, d2, g1, g2, g3, g4, g5, g6, g7] => { results := [.lit (.bool false)], args := [d1, d2], vars := [g1, g2, g3, g4, g5, g6, g7] }
  | _ => none }
def FnExactSkipsInWrongFalsely : Prop := fnExactSkipsInRow.holds Tryd.pinned (OpenSpec.ofChange fnExactSkipsInWrong)

/-- 'laws.FnExactWildShare': WHATEVER THE INPUT: true; the input reads as it did. -/
def fnExactWildShareSpec : ChangeSpec := { name := "fnExactWildShare", vars := ["loop.example/g03010/impl.suitSigns", "loop.example/g03010/impl.rankSigns", "loop.example/g03010/impl.fromSigns", "loop.example/g03010/impl.redSign", "loop.example/g03010/impl.notSign", "loop.example/g03010/impl.andSign", "loop.example/g03010/impl.orSign"], fn := fun _ => fun
  | [d, g1, g2, g3, g4, g5, g6, g7] => { results := [.lit (.bool true)], args := [d], vars := [g1, g2, g3, g4, g5, g6, g7] }
  | _ => none }
def fnExactWildShareRow : OpenClaim := { program := "ytgpkgebnbdddnaadoor", sum := "82251faafe964eb84161e36b063dac1a2a3db7414c364efc6d79d851d75c17bb", func := "loop.example/g03010/laws.FnExactWildShare", spec := "fnExactWildShare", unfollowed := true, recurses := true, named := ["loop.example/g03010/impl.suitSigns", "loop.example/g03010/impl.rankSigns", "loop.example/g03010/impl.fromSigns", "loop.example/g03010/impl.redSign", "loop.example/g03010/impl.notSign", "loop.example/g03010/impl.andSign", "loop.example/g03010/impl.orSign"], apart := false, laid := [("loop.example/g03010/impl.suitSigns", laid_loop_example_g03010_impl_suitSigns), ("loop.example/g03010/impl.rankSigns", laid_loop_example_g03010_impl_rankSigns), ("loop.example/g03010/impl.fromSigns", laid_loop_example_g03010_impl_fromSigns), ("loop.example/g03010/impl.redSign", laid_loop_example_g03010_impl_redSign), ("loop.example/g03010/impl.notSign", laid_loop_example_g03010_impl_notSign), ("loop.example/g03010/impl.andSign", laid_loop_example_g03010_impl_andSign), ("loop.example/g03010/impl.orSign", laid_loop_example_g03010_impl_orSign)] }
def FnExactWildShareSaid : Prop := fnExactWildShareRow.holds Tryd.pinned (OpenSpec.ofChange fnExactWildShareSpec)

/-- ITS FALSE NEIGHBOUR: 'it returns false'. Refute it at one input. -/
def fnExactWildShareWrong : ChangeSpec := { name := "fnExactWildShare", vars := ["loop.example/g03010/impl.suitSigns", "loop.example/g03010/impl.rankSigns", "loop.example/g03010/impl.fromSigns", "loop.example/g03010/impl.redSign", "loop.example/g03010/impl.notSign", "loop.example/g03010/impl.andSign", "loop.example/g03010/impl.orSign"], fn := fun _ => fun
  | [d, g1, g2, g3, g4, g5, g6, g7] => { results := [.lit (.bool false)], args := [d], vars := [g1, g2, g3, g4, g5, g6, g7] }
  | _ => none }
def FnExactWildShareWrongFalsely : Prop := fnExactWildShareRow.holds Tryd.pinned (OpenSpec.ofChange fnExactWildShareWrong)

/-- 'laws.FnExactIsOver': WHATEVER THE INPUT: true; the input reads as it did. -/
def fnExactIsOverSpec : ChangeSpec := { name := "fnExactIsOver", vars := ["loop.example/g03010/impl.errOutOfRange", "loop.example/g03010/impl.errNotDecimal"], fn := fun _ => fun
  | [d, g1, g2] => { results := [.lit (.bool true)], args := [d], vars := [g1, g2] }
  | _ => none }
def fnExactIsOverRow : OpenClaim := { program := "ytgpkgebnbdddnaadoor", sum := "82251faafe964eb84161e36b063dac1a2a3db7414c364efc6d79d851d75c17bb", func := "loop.example/g03010/laws.FnExactIsOver", spec := "fnExactIsOver", inPlace := ["internal/reflectlite.TypeOf"], unfollowed := true, recurses := true, named := ["loop.example/g03010/impl.errOutOfRange", "loop.example/g03010/impl.errNotDecimal"], ifaces := true, apart := false, laid := [("loop.example/g03010/impl.errNotDecimal", laid_loop_example_g03010_impl_errNotDecimal), ("loop.example/g03010/impl.errOutOfRange", laid_loop_example_g03010_impl_errOutOfRange)] }
def FnExactIsOverSaid : Prop := fnExactIsOverRow.holds Tryd.pinned (OpenSpec.ofChange fnExactIsOverSpec)

/-- ITS FALSE NEIGHBOUR: 'it returns false'. Refute it at one input. -/
def fnExactIsOverWrong : ChangeSpec := { name := "fnExactIsOver", vars := ["loop.example/g03010/impl.errOutOfRange", "loop.example/g03010/impl.errNotDecimal"], fn := fun _ => fun
  | [d, g1, g2] => { results := [.lit (.bool false)], args := [d], vars := [g1, g2] }
  | _ => none }
def FnExactIsOverWrongFalsely : Prop := fnExactIsOverRow.holds Tryd.pinned (OpenSpec.ofChange fnExactIsOverWrong)

/-- 'laws.FnExactMissing': WHATEVER THE INPUT: true; the input reads as it did. -/
def fnExactMissingSpec : ChangeSpec := { name := "fnExactMissing", fn := fun _ => fun
  | [d] => { results := [.lit (.bool true)], args := [d] }
  | _ => none }
def fnExactMissingRow : OpenClaim := { program := "ytgpkgebnbdddnaadoor", sum := "82251faafe964eb84161e36b063dac1a2a3db7414c364efc6d79d851d75c17bb", func := "loop.example/g03010/laws.FnExactMissing", spec := "fnExactMissing", named := ["math/bits.deBruijn64tab"], apart := false, laid := [("math/bits.deBruijn64tab", laid_math_bits_deBruijn64tab)] }
def FnExactMissingSaid : Prop := fnExactMissingRow.holds Tryd.pinned (OpenSpec.ofChange fnExactMissingSpec)

/-- ITS FALSE NEIGHBOUR: 'it returns false'. Refute it at one input. -/
def fnExactMissingWrong : ChangeSpec := { name := "fnExactMissing", fn := fun _ => fun
  | [d] => { results := [.lit (.bool false)], args := [d] }
  | _ => none }
def FnExactMissingWrongFalsely : Prop := fnExactMissingRow.holds Tryd.pinned (OpenSpec.ofChange fnExactMissingWrong)

/- THE SECOND FORM. 'bulk': how many values and letters a reading holds, each counted each time it is reached (what is shared counts as often as it is met; a slice's spare places count too). A statement '..UptoSaid' is the law's where the arguments, and the package variables that the reading takes, are together of bulk at most 1048576: NARROWER than '..Said'. Prove '..Said' where nothing that the law and all that it calls make is longer than what came in: it says more and counts as full. Else prove '..UptoSaid'. A law counts once. -/
mutual
def uptoBulk {H : Type} : DataW H → Nat
  | .lit (.string bytes) => bytes.length + 1
  | .lit _ => 1
  | .nil => 1
  | .ptr d => uptoBulk d + 1
  | .slice elems spare => uptoBulkAll elems + uptoBulkAll spare + 1
  | .agg parts => uptoBulkAll parts + 1
  | .iface _ d => uptoBulk d + 1
  | .map entries => uptoBulkEntries entries + 1
  | .held _ => 1
def uptoBulkAll {H : Type} : List (DataW H) → Nat
  | [] => 0
  | d :: r => uptoBulk d + uptoBulkAll r
def uptoBulkEntries {H : Type} : List (Lit × DataW H) → Nat
  | [] => 0
  | x :: r => uptoBulkEntry x + uptoBulkEntries r
def uptoBulkEntry {H : Type} : Lit × DataW H → Nat
  | (.string bytes, d) => bytes.length + uptoBulk d + 1
  | (_, d) => uptoBulk d + 1
 end
def uptoSmall : (H : Type) → List (DataW H) → Bool := fun _ ds => decide (uptoBulkAll ds ≤ 1048576)
def OpenSpec.upto (s : _root_.Go.ChangeSpec) : _root_.Go.OpenSpec := { _root_.Go.OpenSpec.ofChange s with cond := some uptoSmall }

/-- 'laws.FnExactIsPattern', WHERE WHAT IT READS IS OF BULK AT MOST 1048576: true; the input reads as it did. -/
def fnExactIsPatternUptoRow : OpenClaim := { program := "ytgpkgebnbdddnaadoor", sum := "82251faafe964eb84161e36b063dac1a2a3db7414c364efc6d79d851d75c17bb", func := "loop.example/g03010/laws.FnExactIsPattern", spec := "fnExactIsPattern", unfollowed := true, recurses := true, named := ["loop.example/g03010/impl.suitSigns", "loop.example/g03010/impl.rankSigns", "loop.example/g03010/impl.fromSigns", "loop.example/g03010/impl.redSign", "loop.example/g03010/impl.notSign", "loop.example/g03010/impl.andSign", "loop.example/g03010/impl.orSign"], apart := false, laid := [("loop.example/g03010/impl.suitSigns", laid_loop_example_g03010_impl_suitSigns), ("loop.example/g03010/impl.rankSigns", laid_loop_example_g03010_impl_rankSigns), ("loop.example/g03010/impl.fromSigns", laid_loop_example_g03010_impl_fromSigns), ("loop.example/g03010/impl.redSign", laid_loop_example_g03010_impl_redSign), ("loop.example/g03010/impl.notSign", laid_loop_example_g03010_impl_notSign), ("loop.example/g03010/impl.andSign", laid_loop_example_g03010_impl_andSign), ("loop.example/g03010/impl.orSign", laid_loop_example_g03010_impl_orSign)], narrowed := true }
def FnExactIsPatternUptoSaid : Prop := fnExactIsPatternUptoRow.holds Tryd.pinned (OpenSpec.upto fnExactIsPatternSpec)

/-- 'laws.FnExactMatches', WHERE WHAT IT READS IS OF BULK AT MOST 1048576: true; the input reads as it did. -/
def fnExactMatchesUptoRow : OpenClaim := { program := "ytgpkgebnbdddnaadoor", sum := "82251faafe964eb84161e36b063dac1a2a3db7414c364efc6d79d851d75c17bb", func := "loop.example/g03010/laws.FnExactMatches", spec := "fnExactMatches", unfollowed := true, recurses := true, named := ["loop.example/g03010/impl.suitSigns", "loop.example/g03010/impl.rankSigns", "loop.example/g03010/impl.fromSigns", "loop.example/g03010/impl.redSign", "loop.example/g03010/impl.notSign", "loop.example/g03010/impl.andSign", "loop.example/g03010/impl.orSign"], apart := false, laid := [("loop.example/g03010/impl.suitSigns", laid_loop_example_g03010_impl_suitSigns), ("loop.example/g03010/impl.rankSigns", laid_loop_example_g03010_impl_rankSigns), ("loop.example/g03010/impl.fromSigns", laid_loop_example_g03010_impl_fromSigns), ("loop.example/g03010/impl.redSign", laid_loop_example_g03010_impl_redSign), ("loop.example/g03010/impl.notSign", laid_loop_example_g03010_impl_notSign), ("loop.example/g03010/impl.andSign", laid_loop_example_g03010_impl_andSign), ("loop.example/g03010/impl.orSign", laid_loop_example_g03010_impl_orSign)], narrowed := true }
def FnExactMatchesUptoSaid : Prop := fnExactMatchesUptoRow.holds Tryd.pinned (OpenSpec.upto fnExactMatchesSpec)

/-- 'laws.FnExactCountMatches', WHERE WHAT IT READS IS OF BULK AT MOST 1048576: true; the input reads as it did. -/
def fnExactCountMatchesUptoRow : OpenClaim := { program := "ytgpkgebnbdddnaadoor", sum := "82251faafe964eb84161e36b063dac1a2a3db7414c364efc6d79d851d75c17bb", func := "loop.example/g03010/laws.FnExactCountMatches", spec := "fnExactCountMatches", unfollowed := true, recurses := true, named := ["loop.example/g03010/impl.suitSigns", "loop.example/g03010/impl.rankSigns", "loop.example/g03010/impl.fromSigns", "loop.example/g03010/impl.redSign", "loop.example/g03010/impl.notSign", "loop.example/g03010/impl.andSign", "loop.example/g03010/impl.orSign"], apart := false, laid := [("loop.example/g03010/impl.suitSigns", laid_loop_example_g03010_impl_suitSigns), ("loop.example/g03010/impl.rankSigns", laid_loop_example_g03010_impl_rankSigns), ("loop.example/g03010/impl.fromSigns", laid_loop_example_g03010_impl_fromSigns), ("loop.example/g03010/impl.redSign", laid_loop_example_g03010_impl_redSign), ("loop.example/g03010/impl.notSign", laid_loop_example_g03010_impl_notSign), ("loop.example/g03010/impl.andSign", laid_loop_example_g03010_impl_andSign), ("loop.example/g03010/impl.orSign", laid_loop_example_g03010_impl_orSign)], narrowed := true }
def FnExactCountMatchesUptoSaid : Prop := fnExactCountMatchesUptoRow.holds Tryd.pinned (OpenSpec.upto fnExactCountMatchesSpec)

/-- 'laws.FnExactMatchSet', WHERE WHAT IT READS IS OF BULK AT MOST 1048576: true; the input reads as it did. -/
def fnExactMatchSetUptoRow : OpenClaim := { program := "ytgpkgebnbdddnaadoor", sum := "82251faafe964eb84161e36b063dac1a2a3db7414c364efc6d79d851d75c17bb", func := "loop.example/g03010/laws.FnExactMatchSet", spec := "fnExactMatchSet", unfollowed := true, recurses := true, named := ["loop.example/g03010/impl.suitSigns", "loop.example/g03010/impl.rankSigns", "loop.example/g03010/impl.fromSigns", "loop.example/g03010/impl.redSign", "loop.example/g03010/impl.notSign", "loop.example/g03010/impl.andSign", "loop.example/g03010/impl.orSign"], apart := false, laid := [("loop.example/g03010/impl.suitSigns", laid_loop_example_g03010_impl_suitSigns), ("loop.example/g03010/impl.rankSigns", laid_loop_example_g03010_impl_rankSigns), ("loop.example/g03010/impl.fromSigns", laid_loop_example_g03010_impl_fromSigns), ("loop.example/g03010/impl.redSign", laid_loop_example_g03010_impl_redSign), ("loop.example/g03010/impl.notSign", laid_loop_example_g03010_impl_notSign), ("loop.example/g03010/impl.andSign", laid_loop_example_g03010_impl_andSign), ("loop.example/g03010/impl.orSign", laid_loop_example_g03010_impl_orSign)], narrowed := true }
def FnExactMatchSetUptoSaid : Prop := fnExactMatchSetUptoRow.holds Tryd.pinned (OpenSpec.upto fnExactMatchSetSpec)

/-- 'laws.FnExactNotPattern', WHERE WHAT IT READS IS OF BULK AT MOST 1048576: true; the input reads as it did. -/
def fnExactNotPatternUptoRow : OpenClaim := { program := "ytgpkgebnbdddnaadoor", sum := "82251faafe964eb84161e36b063dac1a2a3db7414c364efc6d79d851d75c17bb", func := "loop.example/g03010/laws.FnExactNotPattern", spec := "fnExactNotPattern", unfollowed := true, recurses := true, named := ["loop.example/g03010/impl.suitSigns", "loop.example/g03010/impl.rankSigns", "loop.example/g03010/impl.fromSigns", "loop.example/g03010/impl.redSign", "loop.example/g03010/impl.notSign", "loop.example/g03010/impl.andSign", "loop.example/g03010/impl.orSign"], apart := false, laid := [("loop.example/g03010/impl.suitSigns", laid_loop_example_g03010_impl_suitSigns), ("loop.example/g03010/impl.rankSigns", laid_loop_example_g03010_impl_rankSigns), ("loop.example/g03010/impl.fromSigns", laid_loop_example_g03010_impl_fromSigns), ("loop.example/g03010/impl.redSign", laid_loop_example_g03010_impl_redSign), ("loop.example/g03010/impl.notSign", laid_loop_example_g03010_impl_notSign), ("loop.example/g03010/impl.andSign", laid_loop_example_g03010_impl_andSign), ("loop.example/g03010/impl.orSign", laid_loop_example_g03010_impl_orSign)], narrowed := true }
def FnExactNotPatternUptoSaid : Prop := fnExactNotPatternUptoRow.holds Tryd.pinned (OpenSpec.upto fnExactNotPatternSpec)

/-- 'laws.FnExactAlikePatterns', WHERE WHAT IT READS IS OF BULK AT MOST 1048576: true; the input reads as it did. -/
def fnExactAlikePatternsUptoRow : OpenClaim := { program := "ytgpkgebnbdddnaadoor", sum := "82251faafe964eb84161e36b063dac1a2a3db7414c364efc6d79d851d75c17bb", func := "loop.example/g03010/laws.FnExactAlikePatterns", spec := "fnExactAlikePatterns", unfollowed := true, recurses := true, named := ["loop.example/g03010/impl.suitSigns", "loop.example/g03010/impl.rankSigns", "loop.example/g03010/impl.fromSigns", "loop.example/g03010/impl.redSign", "loop.example/g03010/impl.notSign", "loop.example/g03010/impl.andSign", "loop.example/g03010/impl.orSign"], apart := false, laid := [("loop.example/g03010/impl.suitSigns", laid_loop_example_g03010_impl_suitSigns), ("loop.example/g03010/impl.rankSigns", laid_loop_example_g03010_impl_rankSigns), ("loop.example/g03010/impl.fromSigns", laid_loop_example_g03010_impl_fromSigns), ("loop.example/g03010/impl.redSign", laid_loop_example_g03010_impl_redSign), ("loop.example/g03010/impl.notSign", laid_loop_example_g03010_impl_notSign), ("loop.example/g03010/impl.andSign", laid_loop_example_g03010_impl_andSign), ("loop.example/g03010/impl.orSign", laid_loop_example_g03010_impl_orSign)], narrowed := true }
def FnExactAlikePatternsUptoSaid : Prop := fnExactAlikePatternsUptoRow.holds Tryd.pinned (OpenSpec.upto fnExactAlikePatternsSpec)

/-- 'laws.FnExactIsRules', WHERE WHAT IT READS IS OF BULK AT MOST 1048576: true; the input reads as it did. -/
def fnExactIsRulesUptoRow : OpenClaim := { program := "ytgpkgebnbdddnaadoor", sum := "82251faafe964eb84161e36b063dac1a2a3db7414c364efc6d79d851d75c17bb", func := "loop.example/g03010/laws.FnExactIsRules", spec := "fnExactIsRules", unfollowed := true, recurses := true, named := ["loop.example/g03010/impl.suitSigns", "loop.example/g03010/impl.rankSigns", "loop.example/g03010/impl.fromSigns", "loop.example/g03010/impl.redSign", "loop.example/g03010/impl.notSign", "loop.example/g03010/impl.andSign", "loop.example/g03010/impl.orSign"], apart := false, laid := [("loop.example/g03010/impl.suitSigns", laid_loop_example_g03010_impl_suitSigns), ("loop.example/g03010/impl.rankSigns", laid_loop_example_g03010_impl_rankSigns), ("loop.example/g03010/impl.fromSigns", laid_loop_example_g03010_impl_fromSigns), ("loop.example/g03010/impl.redSign", laid_loop_example_g03010_impl_redSign), ("loop.example/g03010/impl.notSign", laid_loop_example_g03010_impl_notSign), ("loop.example/g03010/impl.andSign", laid_loop_example_g03010_impl_andSign), ("loop.example/g03010/impl.orSign", laid_loop_example_g03010_impl_orSign)], narrowed := true }
def FnExactIsRulesUptoSaid : Prop := fnExactIsRulesUptoRow.holds Tryd.pinned (OpenSpec.upto fnExactIsRulesSpec)

/-- 'laws.FnExactDoesSkip', WHERE WHAT IT READS IS OF BULK AT MOST 1048576: true; the input reads as it did. -/
def fnExactDoesSkipUptoRow : OpenClaim := { program := "ytgpkgebnbdddnaadoor", sum := "82251faafe964eb84161e36b063dac1a2a3db7414c364efc6d79d851d75c17bb", func := "loop.example/g03010/laws.FnExactDoesSkip", spec := "fnExactDoesSkip", unfollowed := true, recurses := true, named := ["loop.example/g03010/impl.suitSigns", "loop.example/g03010/impl.rankSigns", "loop.example/g03010/impl.fromSigns", "loop.example/g03010/impl.redSign", "loop.example/g03010/impl.notSign", "loop.example/g03010/impl.andSign", "loop.example/g03010/impl.orSign"], apart := false, laid := [("loop.example/g03010/impl.suitSigns", laid_loop_example_g03010_impl_suitSigns), ("loop.example/g03010/impl.rankSigns", laid_loop_example_g03010_impl_rankSigns), ("loop.example/g03010/impl.fromSigns", laid_loop_example_g03010_impl_fromSigns), ("loop.example/g03010/impl.redSign", laid_loop_example_g03010_impl_redSign), ("loop.example/g03010/impl.notSign", laid_loop_example_g03010_impl_notSign), ("loop.example/g03010/impl.andSign", laid_loop_example_g03010_impl_andSign), ("loop.example/g03010/impl.orSign", laid_loop_example_g03010_impl_orSign)], narrowed := true }
def FnExactDoesSkipUptoSaid : Prop := fnExactDoesSkipUptoRow.holds Tryd.pinned (OpenSpec.upto fnExactDoesSkipSpec)

/-- 'laws.FnExactFitsOn', WHERE WHAT IT READS IS OF BULK AT MOST 1048576: true; the input reads as it did. -/
def fnExactFitsOnUptoRow : OpenClaim := { program := "ytgpkgebnbdddnaadoor", sum := "82251faafe964eb84161e36b063dac1a2a3db7414c364efc6d79d851d75c17bb", func := "loop.example/g03010/laws.FnExactFitsOn", spec := "fnExactFitsOn", unfollowed := true, recurses := true, named := ["loop.example/g03010/impl.suitSigns", "loop.example/g03010/impl.rankSigns", "loop.example/g03010/impl.fromSigns", "loop.example/g03010/impl.redSign", "loop.example/g03010/impl.notSign", "loop.example/g03010/impl.andSign", "loop.example/g03010/impl.orSign"], apart := false, laid := [("loop.example/g03010/impl.suitSigns", laid_loop_example_g03010_impl_suitSigns), ("loop.example/g03010/impl.rankSigns", laid_loop_example_g03010_impl_rankSigns), ("loop.example/g03010/impl.fromSigns", laid_loop_example_g03010_impl_fromSigns), ("loop.example/g03010/impl.redSign", laid_loop_example_g03010_impl_redSign), ("loop.example/g03010/impl.notSign", laid_loop_example_g03010_impl_notSign), ("loop.example/g03010/impl.andSign", laid_loop_example_g03010_impl_andSign), ("loop.example/g03010/impl.orSign", laid_loop_example_g03010_impl_orSign)], narrowed := true }
def FnExactFitsOnUptoSaid : Prop := fnExactFitsOnUptoRow.holds Tryd.pinned (OpenSpec.upto fnExactFitsOnSpec)

/-- 'laws.FnExactFitCount', WHERE WHAT IT READS IS OF BULK AT MOST 1048576: true; the input reads as it did. -/
def fnExactFitCountUptoRow : OpenClaim := { program := "ytgpkgebnbdddnaadoor", sum := "82251faafe964eb84161e36b063dac1a2a3db7414c364efc6d79d851d75c17bb", func := "loop.example/g03010/laws.FnExactFitCount", spec := "fnExactFitCount", unfollowed := true, recurses := true, named := ["loop.example/g03010/impl.suitSigns", "loop.example/g03010/impl.rankSigns", "loop.example/g03010/impl.fromSigns", "loop.example/g03010/impl.redSign", "loop.example/g03010/impl.notSign", "loop.example/g03010/impl.andSign", "loop.example/g03010/impl.orSign"], apart := false, laid := [("loop.example/g03010/impl.suitSigns", laid_loop_example_g03010_impl_suitSigns), ("loop.example/g03010/impl.rankSigns", laid_loop_example_g03010_impl_rankSigns), ("loop.example/g03010/impl.fromSigns", laid_loop_example_g03010_impl_fromSigns), ("loop.example/g03010/impl.redSign", laid_loop_example_g03010_impl_redSign), ("loop.example/g03010/impl.notSign", laid_loop_example_g03010_impl_notSign), ("loop.example/g03010/impl.andSign", laid_loop_example_g03010_impl_andSign), ("loop.example/g03010/impl.orSign", laid_loop_example_g03010_impl_orSign)], narrowed := true }
def FnExactFitCountUptoSaid : Prop := fnExactFitCountUptoRow.holds Tryd.pinned (OpenSpec.upto fnExactFitCountSpec)

/-- 'laws.FnExactSkipsIn', WHERE WHAT IT READS IS OF BULK AT MOST 1048576: true; the input reads as it did. -/
def fnExactSkipsInUptoRow : OpenClaim := { program := "ytgpkgebnbdddnaadoor", sum := "82251faafe964eb84161e36b063dac1a2a3db7414c364efc6d79d851d75c17bb", func := "loop.example/g03010/laws.FnExactSkipsIn", spec := "fnExactSkipsIn", unfollowed := true, recurses := true, named := ["loop.example/g03010/impl.suitSigns", "loop.example/g03010/impl.rankSigns", "loop.example/g03010/impl.fromSigns", "loop.example/g03010/impl.redSign", "loop.example/g03010/impl.notSign", "loop.example/g03010/impl.andSign", "loop.example/g03010/impl.orSign"], apart := false, laid := [("loop.example/g03010/impl.suitSigns", laid_loop_example_g03010_impl_suitSigns), ("loop.example/g03010/impl.rankSigns", laid_loop_example_g03010_impl_rankSigns), ("loop.example/g03010/impl.fromSigns", laid_loop_example_g03010_impl_fromSigns), ("loop.example/g03010/impl.redSign", laid_loop_example_g03010_impl_redSign), ("loop.example/g03010/impl.notSign", laid_loop_example_g03010_impl_notSign), ("loop.example/g03010/impl.andSign", laid_loop_example_g03010_impl_andSign), ("loop.example/g03010/impl.orSign", laid_loop_example_g03010_impl_orSign)], narrowed := true }
def FnExactSkipsInUptoSaid : Prop := fnExactSkipsInUptoRow.holds Tryd.pinned (OpenSpec.upto fnExactSkipsInSpec)

/-- 'laws.FnExactWildShare', WHERE WHAT IT READS IS OF BULK AT MOST 1048576: true; the input reads as it did. -/
def fnExactWildShareUptoRow : OpenClaim := { program := "ytgpkgebnbdddnaadoor", sum := "82251faafe964eb84161e36b063dac1a2a3db7414c364efc6d79d851d75c17bb", func := "loop.example/g03010/laws.FnExactWildShare", spec := "fnExactWildShare", unfollowed := true, recurses := true, named := ["loop.example/g03010/impl.suitSigns", "loop.example/g03010/impl.rankSigns", "loop.example/g03010/impl.fromSigns", "loop.example/g03010/impl.redSign", "loop.example/g03010/impl.notSign", "loop.example/g03010/impl.andSign", "loop.example/g03010/impl.orSign"], apart := false, laid := [("loop.example/g03010/impl.suitSigns", laid_loop_example_g03010_impl_suitSigns), ("loop.example/g03010/impl.rankSigns", laid_loop_example_g03010_impl_rankSigns), ("loop.example/g03010/impl.fromSigns", laid_loop_example_g03010_impl_fromSigns), ("loop.example/g03010/impl.redSign", laid_loop_example_g03010_impl_redSign), ("loop.example/g03010/impl.notSign", laid_loop_example_g03010_impl_notSign), ("loop.example/g03010/impl.andSign", laid_loop_example_g03010_impl_andSign), ("loop.example/g03010/impl.orSign", laid_loop_example_g03010_impl_orSign)], narrowed := true }
def FnExactWildShareUptoSaid : Prop := fnExactWildShareUptoRow.holds Tryd.pinned (OpenSpec.upto fnExactWildShareSpec)

/-- 'laws.FnExactIsOver', WHERE WHAT IT READS IS OF BULK AT MOST 1048576: true; the input reads as it did. -/
def fnExactIsOverUptoRow : OpenClaim := { program := "ytgpkgebnbdddnaadoor", sum := "82251faafe964eb84161e36b063dac1a2a3db7414c364efc6d79d851d75c17bb", func := "loop.example/g03010/laws.FnExactIsOver", spec := "fnExactIsOver", inPlace := ["internal/reflectlite.TypeOf"], unfollowed := true, recurses := true, named := ["loop.example/g03010/impl.errOutOfRange", "loop.example/g03010/impl.errNotDecimal"], ifaces := true, apart := false, laid := [("loop.example/g03010/impl.errNotDecimal", laid_loop_example_g03010_impl_errNotDecimal), ("loop.example/g03010/impl.errOutOfRange", laid_loop_example_g03010_impl_errOutOfRange)], narrowed := true }
def FnExactIsOverUptoSaid : Prop := fnExactIsOverUptoRow.holds Tryd.pinned (OpenSpec.upto fnExactIsOverSpec)

/-- 'laws.FnExactMissing', WHERE WHAT IT READS IS OF BULK AT MOST 1048576: true; the input reads as it did. -/
def fnExactMissingUptoRow : OpenClaim := { program := "ytgpkgebnbdddnaadoor", sum := "82251faafe964eb84161e36b063dac1a2a3db7414c364efc6d79d851d75c17bb", func := "loop.example/g03010/laws.FnExactMissing", spec := "fnExactMissing", named := ["math/bits.deBruijn64tab"], apart := false, laid := [("math/bits.deBruijn64tab", laid_math_bits_deBruijn64tab)], narrowed := true }
def FnExactMissingUptoSaid : Prop := fnExactMissingUptoRow.holds Tryd.pinned (OpenSpec.upto fnExactMissingSpec)

end Rows
end Go.Proofs.YtgpkgebnbdddnaaDoor
