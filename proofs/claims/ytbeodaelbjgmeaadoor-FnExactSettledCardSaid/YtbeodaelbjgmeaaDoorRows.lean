/-
  NARROWER THAN 'FOR EVERY INPUT', by the rows' own cells (each row's printed sentence says how): FnExactIsGame: laid · FnExactWinner: laid · FnExactIsEnded: laid · FnExactMovesLeft: laid · FnExactIsDrawn: laid · FnExactLoser: laid · FnExactSettled: laid.
  DERIVED. THE GIVEN ROWS OF THIS SEAT. 7 by the template 'for every input the law returns true; each argument reads behind the call as it read before'; 0 by the template 'total and deterministic' (their statements: YtbeodaelbjgmeaaDoorTotals.lean).
  GIVEN WITH THE SEED: the statements are not yours to turn. If you find one false, say at which input.
  Laid BY PROGRAM, IN A SANDBOX (cutbox-rows.mjs): the forced cells as the released guide's own fill.sh prints them over the translation 57b950eb2c43fcd6… (all of the seat's roots in one cut). By AI agents, Wed Nov 11 2026. No macro, syntax, notation, axiom, sorry.
-/
import Derived.Test.YtbeodaelbjgmeaaDoorChecked
import GoSem.Claim
import GoSem.ClaimJoined
import GoSem.ClaimMapViews
import Derived.JoinedTies
import Derived.KernelRfl
namespace Go.Proofs.YtbeodaelbjgmeaaDoor
/- THE CELL 'sum', in the pinned program and in every row, IS THE sha256 OF THE DUMP (.gsa) THAT YtbeodaelbjgmeaaDoorProg.lean LOADS. Nothing in Lean hashes anything: it is a label: what it is worth is what the hold of that sum in a sandbox is worth. -/
noncomputable def Tryd.pinned : Pinned := { name := "ytbeodaelbjgmeaadoor", sum := "57b950eb2c43fcd65100da8283cade267df2fc626c022a7790610c8844bd2efd", checked := Tryd.checked }
namespace Rows
def none {H : Type} : Left H := { results := [], args := [] }

/- WHAT THE LISTED PACKAGE-LEVEL VARIABLES READ AS WHEN THE CALL BEGINS. Each datum BY PROGRAM (the guide's laid-datum.mjs) off the statement by which the dump's own 'gosem.cut.vars' lays the variable. In a bare row this is a premise. The card (YtbeodaelbjgmeaaDoorCards.lean) ties it to the program's text. -/
def laid_loop_example_g03010_impl_suitSigns {H : Type} : DataW H := .agg [.lit (.int .i64 100), .lit (.int .i64 4), .lit (.int .i64 0)]
def laid_loop_example_g03010_impl_rankSigns {H : Type} : DataW H := .agg [.lit (.int .i64 200), .lit (.int .i64 13), .lit (.int .i64 0)]
def laid_loop_example_g03010_impl_fromSigns {H : Type} : DataW H := .agg [.lit (.int .i64 300), .lit (.int .i64 13), .lit (.int .i64 0)]
def laid_loop_example_g03010_impl_redSign {H : Type} : DataW H := .agg [.lit (.int .i64 400), .lit (.int .i64 1), .lit (.int .i64 0)]
def laid_loop_example_g03010_impl_notSign {H : Type} : DataW H := .agg [.lit (.int .i64 (-1)), .lit (.int .i64 1), .lit (.int .i64 1)]
def laid_loop_example_g03010_impl_andSign {H : Type} : DataW H := .agg [.lit (.int .i64 (-2)), .lit (.int .i64 1), .lit (.int .i64 2)]
def laid_loop_example_g03010_impl_orSign {H : Type} : DataW H := .agg [.lit (.int .i64 (-3)), .lit (.int .i64 1), .lit (.int .i64 2)]

/-- 'laws.FnExactIsGame': WHATEVER THE INPUT: true; the input reads as it did. -/
def fnExactIsGameSpec : ChangeSpec := { name := "fnExactIsGame", vars := ["loop.example/g03010/impl.suitSigns", "loop.example/g03010/impl.rankSigns", "loop.example/g03010/impl.fromSigns", "loop.example/g03010/impl.redSign", "loop.example/g03010/impl.notSign", "loop.example/g03010/impl.andSign", "loop.example/g03010/impl.orSign"], fn := fun _ => fun
  | [d, g1, g2, g3, g4, g5, g6, g7] => { results := [.lit (.bool true)], args := [d], vars := [g1, g2, g3, g4, g5, g6, g7] }
  | _ => none }
def fnExactIsGameRow : OpenClaim := { program := "ytbeodaelbjgmeaadoor", sum := "57b950eb2c43fcd65100da8283cade267df2fc626c022a7790610c8844bd2efd", func := "loop.example/g03010/laws.FnExactIsGame", spec := "fnExactIsGame", unfollowed := true, recurses := true, named := ["loop.example/g03010/impl.suitSigns", "loop.example/g03010/impl.rankSigns", "loop.example/g03010/impl.fromSigns", "loop.example/g03010/impl.redSign", "loop.example/g03010/impl.notSign", "loop.example/g03010/impl.andSign", "loop.example/g03010/impl.orSign"], apart := false, laid := [("loop.example/g03010/impl.suitSigns", laid_loop_example_g03010_impl_suitSigns), ("loop.example/g03010/impl.rankSigns", laid_loop_example_g03010_impl_rankSigns), ("loop.example/g03010/impl.fromSigns", laid_loop_example_g03010_impl_fromSigns), ("loop.example/g03010/impl.redSign", laid_loop_example_g03010_impl_redSign), ("loop.example/g03010/impl.notSign", laid_loop_example_g03010_impl_notSign), ("loop.example/g03010/impl.andSign", laid_loop_example_g03010_impl_andSign), ("loop.example/g03010/impl.orSign", laid_loop_example_g03010_impl_orSign)] }
def FnExactIsGameSaid : Prop := fnExactIsGameRow.holds Tryd.pinned (OpenSpec.ofChange fnExactIsGameSpec)

/-- ITS FALSE NEIGHBOUR: 'it returns false'. Refute it at one input. -/
def fnExactIsGameWrong : ChangeSpec := { name := "fnExactIsGame", vars := ["loop.example/g03010/impl.suitSigns", "loop.example/g03010/impl.rankSigns", "loop.example/g03010/impl.fromSigns", "loop.example/g03010/impl.redSign", "loop.example/g03010/impl.notSign", "loop.example/g03010/impl.andSign", "loop.example/g03010/impl.orSign"], fn := fun _ => fun
  | [d, g1, g2, g3, g4, g5, g6, g7] => { results := [.lit (.bool false)], args := [d], vars := [g1, g2, g3, g4, g5, g6, g7] }
  | _ => none }
def FnExactIsGameWrongFalsely : Prop := fnExactIsGameRow.holds Tryd.pinned (OpenSpec.ofChange fnExactIsGameWrong)

/-- 'laws.FnExactWinner': WHATEVER THE INPUT: true; the input reads as it did. -/
def fnExactWinnerSpec : ChangeSpec := { name := "fnExactWinner", vars := ["loop.example/g03010/impl.suitSigns", "loop.example/g03010/impl.rankSigns", "loop.example/g03010/impl.fromSigns", "loop.example/g03010/impl.redSign", "loop.example/g03010/impl.notSign", "loop.example/g03010/impl.andSign", "loop.example/g03010/impl.orSign"], fn := fun _ => fun
  | [d, g1, g2, g3, g4, g5, g6, g7] => { results := [.lit (.bool true)], args := [d], vars := [g1, g2, g3, g4, g5, g6, g7] }
  | _ => none }
def fnExactWinnerRow : OpenClaim := { program := "ytbeodaelbjgmeaadoor", sum := "57b950eb2c43fcd65100da8283cade267df2fc626c022a7790610c8844bd2efd", func := "loop.example/g03010/laws.FnExactWinner", spec := "fnExactWinner", unfollowed := true, recurses := true, named := ["loop.example/g03010/impl.suitSigns", "loop.example/g03010/impl.rankSigns", "loop.example/g03010/impl.fromSigns", "loop.example/g03010/impl.redSign", "loop.example/g03010/impl.notSign", "loop.example/g03010/impl.andSign", "loop.example/g03010/impl.orSign"], apart := false, laid := [("loop.example/g03010/impl.suitSigns", laid_loop_example_g03010_impl_suitSigns), ("loop.example/g03010/impl.rankSigns", laid_loop_example_g03010_impl_rankSigns), ("loop.example/g03010/impl.fromSigns", laid_loop_example_g03010_impl_fromSigns), ("loop.example/g03010/impl.redSign", laid_loop_example_g03010_impl_redSign), ("loop.example/g03010/impl.notSign", laid_loop_example_g03010_impl_notSign), ("loop.example/g03010/impl.andSign", laid_loop_example_g03010_impl_andSign), ("loop.example/g03010/impl.orSign", laid_loop_example_g03010_impl_orSign)] }
def FnExactWinnerSaid : Prop := fnExactWinnerRow.holds Tryd.pinned (OpenSpec.ofChange fnExactWinnerSpec)

/-- ITS FALSE NEIGHBOUR: 'it returns false'. Refute it at one input. -/
def fnExactWinnerWrong : ChangeSpec := { name := "fnExactWinner", vars := ["loop.example/g03010/impl.suitSigns", "loop.example/g03010/impl.rankSigns", "loop.example/g03010/impl.fromSigns", "loop.example/g03010/impl.redSign", "loop.example/g03010/impl.notSign", "loop.example/g03010/impl.andSign", "loop.example/g03010/impl.orSign"], fn := fun _ => fun
  | [d, g1, g2, g3, g4, g5, g6, g7] => { results := [.lit (.bool false)], args := [d], vars := [g1, g2, g3, g4, g5, g6, g7] }
  | _ => none }
def FnExactWinnerWrongFalsely : Prop := fnExactWinnerRow.holds Tryd.pinned (OpenSpec.ofChange fnExactWinnerWrong)

/-- 'laws.FnExactIsEnded': WHATEVER THE INPUT: true; the input reads as it did. -/
def fnExactIsEndedSpec : ChangeSpec := { name := "fnExactIsEnded", vars := ["loop.example/g03010/impl.suitSigns", "loop.example/g03010/impl.rankSigns", "loop.example/g03010/impl.fromSigns", "loop.example/g03010/impl.redSign", "loop.example/g03010/impl.notSign", "loop.example/g03010/impl.andSign", "loop.example/g03010/impl.orSign"], fn := fun _ => fun
  | [d, g1, g2, g3, g4, g5, g6, g7] => { results := [.lit (.bool true)], args := [d], vars := [g1, g2, g3, g4, g5, g6, g7] }
  | _ => none }
def fnExactIsEndedRow : OpenClaim := { program := "ytbeodaelbjgmeaadoor", sum := "57b950eb2c43fcd65100da8283cade267df2fc626c022a7790610c8844bd2efd", func := "loop.example/g03010/laws.FnExactIsEnded", spec := "fnExactIsEnded", unfollowed := true, recurses := true, named := ["loop.example/g03010/impl.suitSigns", "loop.example/g03010/impl.rankSigns", "loop.example/g03010/impl.fromSigns", "loop.example/g03010/impl.redSign", "loop.example/g03010/impl.notSign", "loop.example/g03010/impl.andSign", "loop.example/g03010/impl.orSign"], apart := false, laid := [("loop.example/g03010/impl.suitSigns", laid_loop_example_g03010_impl_suitSigns), ("loop.example/g03010/impl.rankSigns", laid_loop_example_g03010_impl_rankSigns), ("loop.example/g03010/impl.fromSigns", laid_loop_example_g03010_impl_fromSigns), ("loop.example/g03010/impl.redSign", laid_loop_example_g03010_impl_redSign), ("loop.example/g03010/impl.notSign", laid_loop_example_g03010_impl_notSign), ("loop.example/g03010/impl.andSign", laid_loop_example_g03010_impl_andSign), ("loop.example/g03010/impl.orSign", laid_loop_example_g03010_impl_orSign)] }
def FnExactIsEndedSaid : Prop := fnExactIsEndedRow.holds Tryd.pinned (OpenSpec.ofChange fnExactIsEndedSpec)

/-- ITS FALSE NEIGHBOUR: 'it returns false'. Refute it at one input. -/
def fnExactIsEndedWrong : ChangeSpec := { name := "fnExactIsEnded", vars := ["loop.example/g03010/impl.suitSigns", "loop.example/g03010/impl.rankSigns", "loop.example/g03010/impl.fromSigns", "loop.example/g03010/impl.redSign", "loop.example/g03010/impl.notSign", "loop.example/g03010/impl.andSign", "loop.example/g03010/impl.orSign"], fn := fun _ => fun
  | [d, g1, g2, g3, g4, g5, g6, g7] => { results := [.lit (.bool false)], args := [d], vars := [g1, g2, g3, g4, g5, g6, g7] }
  | _ => none }
def FnExactIsEndedWrongFalsely : Prop := fnExactIsEndedRow.holds Tryd.pinned (OpenSpec.ofChange fnExactIsEndedWrong)

/-- 'laws.FnExactMovesLeft': WHATEVER THE INPUT: true; the input reads as it did. -/
def fnExactMovesLeftSpec : ChangeSpec := { name := "fnExactMovesLeft", vars := ["loop.example/g03010/impl.suitSigns", "loop.example/g03010/impl.rankSigns", "loop.example/g03010/impl.fromSigns", "loop.example/g03010/impl.redSign", "loop.example/g03010/impl.notSign", "loop.example/g03010/impl.andSign", "loop.example/g03010/impl.orSign"], fn := fun _ => fun
  | [d, g1, g2, g3, g4, g5, g6, g7] => { results := [.lit (.bool true)], args := [d], vars := [g1, g2, g3, g4, g5, g6, g7] }
  | _ => none }
def fnExactMovesLeftRow : OpenClaim := { program := "ytbeodaelbjgmeaadoor", sum := "57b950eb2c43fcd65100da8283cade267df2fc626c022a7790610c8844bd2efd", func := "loop.example/g03010/laws.FnExactMovesLeft", spec := "fnExactMovesLeft", unfollowed := true, recurses := true, named := ["loop.example/g03010/impl.suitSigns", "loop.example/g03010/impl.rankSigns", "loop.example/g03010/impl.fromSigns", "loop.example/g03010/impl.redSign", "loop.example/g03010/impl.notSign", "loop.example/g03010/impl.andSign", "loop.example/g03010/impl.orSign"], apart := false, laid := [("loop.example/g03010/impl.suitSigns", laid_loop_example_g03010_impl_suitSigns), ("loop.example/g03010/impl.rankSigns", laid_loop_example_g03010_impl_rankSigns), ("loop.example/g03010/impl.fromSigns", laid_loop_example_g03010_impl_fromSigns), ("loop.example/g03010/impl.redSign", laid_loop_example_g03010_impl_redSign), ("loop.example/g03010/impl.notSign", laid_loop_example_g03010_impl_notSign), ("loop.example/g03010/impl.andSign", laid_loop_example_g03010_impl_andSign), ("loop.example/g03010/impl.orSign", laid_loop_example_g03010_impl_orSign)] }
def FnExactMovesLeftSaid : Prop := fnExactMovesLeftRow.holds Tryd.pinned (OpenSpec.ofChange fnExactMovesLeftSpec)

/-- ITS FALSE NEIGHBOUR: 'it returns false'. Refute it at one input. -/
def fnExactMovesLeftWrong : ChangeSpec := { name := "fnExactMovesLeft", vars := ["loop.example/g03010/impl.suitSigns", "loop.example/g03010/impl.rankSigns", "loop.example/g03010/impl.fromSigns", "loop.example/g03010/impl.redSign", "loop.example/g03010/impl.notSign", "loop.example/g03010/impl.andSign", "loop.example/g03010/impl.orSign"], fn := fun _ => fun
  | [d, g1, g2, g3, g4, g5, g6, g7] => { results := [.lit (.bool false)], args := [d], vars := [g1, g2, g3, g4, g5, g6, g7] }
  | _ => none }
def FnExactMovesLeftWrongFalsely : Prop := fnExactMovesLeftRow.holds Tryd.pinned (OpenSpec.ofChange fnExactMovesLeftWrong)

/-- 'laws.FnExactIsDrawn': WHATEVER THE INPUT: true; the input reads as it did. -/
def fnExactIsDrawnSpec : ChangeSpec := { name := "fnExactIsDrawn", vars := ["loop.example/g03010/impl.suitSigns", "loop.example/g03010/impl.rankSigns", "loop.example/g03010/impl.fromSigns", "loop.example/g03010/impl.redSign", "loop.example/g03010/impl.notSign", "loop.example/g03010/impl.andSign", "loop.example/g03010/impl.orSign"], fn := fun _ => fun
  | [d, g1, g2, g3, g4, g5, g6, g7] => { results := [.lit (.bool true)], args := [d], vars := [g1, g2, g3, g4, g5, g6, g7] }
  | _ => none }
def fnExactIsDrawnRow : OpenClaim := { program := "ytbeodaelbjgmeaadoor", sum := "57b950eb2c43fcd65100da8283cade267df2fc626c022a7790610c8844bd2efd", func := "loop.example/g03010/laws.FnExactIsDrawn", spec := "fnExactIsDrawn", unfollowed := true, recurses := true, named := ["loop.example/g03010/impl.suitSigns", "loop.example/g03010/impl.rankSigns", "loop.example/g03010/impl.fromSigns", "loop.example/g03010/impl.redSign", "loop.example/g03010/impl.notSign", "loop.example/g03010/impl.andSign", "loop.example/g03010/impl.orSign"], apart := false, laid := [("loop.example/g03010/impl.suitSigns", laid_loop_example_g03010_impl_suitSigns), ("loop.example/g03010/impl.rankSigns", laid_loop_example_g03010_impl_rankSigns), ("loop.example/g03010/impl.fromSigns", laid_loop_example_g03010_impl_fromSigns), ("loop.example/g03010/impl.redSign", laid_loop_example_g03010_impl_redSign), ("loop.example/g03010/impl.notSign", laid_loop_example_g03010_impl_notSign), ("loop.example/g03010/impl.andSign", laid_loop_example_g03010_impl_andSign), ("loop.example/g03010/impl.orSign", laid_loop_example_g03010_impl_orSign)] }
def FnExactIsDrawnSaid : Prop := fnExactIsDrawnRow.holds Tryd.pinned (OpenSpec.ofChange fnExactIsDrawnSpec)

/-- ITS FALSE NEIGHBOUR: 'it returns false'. Refute it at one input. -/
def fnExactIsDrawnWrong : ChangeSpec := { name := "fnExactIsDrawn", vars := ["loop.example/g03010/impl.suitSigns", "loop.example/g03010/impl.rankSigns", "loop.example/g03010/impl.fromSigns", "loop.example/g03010/impl.redSign", "loop.example/g03010/impl.notSign", "loop.example/g03010/impl.andSign", "loop.example/g03010/impl.orSign"], fn := fun _ => fun
  | [d, g1, g2, g3, g4, g5, g6, g7] => { results := [.lit (.bool false)], args := [d], vars := [g1, g2, g3, g4, g5, g6, g7] }
  | _ => none }
def FnExactIsDrawnWrongFalsely : Prop := fnExactIsDrawnRow.holds Tryd.pinned (OpenSpec.ofChange fnExactIsDrawnWrong)

/-- 'laws.FnExactLoser': WHATEVER THE INPUT: true; the input reads as it did. -/
def fnExactLoserSpec : ChangeSpec := { name := "fnExactLoser", vars := ["loop.example/g03010/impl.suitSigns", "loop.example/g03010/impl.rankSigns", "loop.example/g03010/impl.fromSigns", "loop.example/g03010/impl.redSign", "loop.example/g03010/impl.notSign", "loop.example/g03010/impl.andSign", "loop.example/g03010/impl.orSign"], fn := fun _ => fun
  | [d, g1, g2, g3, g4, g5, g6, g7] => { results := [.lit (.bool true)], args := [d], vars := [g1, g2, g3, g4, g5, g6, g7] }
  | _ => none }
def fnExactLoserRow : OpenClaim := { program := "ytbeodaelbjgmeaadoor", sum := "57b950eb2c43fcd65100da8283cade267df2fc626c022a7790610c8844bd2efd", func := "loop.example/g03010/laws.FnExactLoser", spec := "fnExactLoser", unfollowed := true, recurses := true, named := ["loop.example/g03010/impl.suitSigns", "loop.example/g03010/impl.rankSigns", "loop.example/g03010/impl.fromSigns", "loop.example/g03010/impl.redSign", "loop.example/g03010/impl.notSign", "loop.example/g03010/impl.andSign", "loop.example/g03010/impl.orSign"], apart := false, laid := [("loop.example/g03010/impl.suitSigns", laid_loop_example_g03010_impl_suitSigns), ("loop.example/g03010/impl.rankSigns", laid_loop_example_g03010_impl_rankSigns), ("loop.example/g03010/impl.fromSigns", laid_loop_example_g03010_impl_fromSigns), ("loop.example/g03010/impl.redSign", laid_loop_example_g03010_impl_redSign), ("loop.example/g03010/impl.notSign", laid_loop_example_g03010_impl_notSign), ("loop.example/g03010/impl.andSign", laid_loop_example_g03010_impl_andSign), ("loop.example/g03010/impl.orSign", laid_loop_example_g03010_impl_orSign)] }
def FnExactLoserSaid : Prop := fnExactLoserRow.holds Tryd.pinned (OpenSpec.ofChange fnExactLoserSpec)

/-- ITS FALSE NEIGHBOUR: 'it returns false'. Refute it at one input. -/
def fnExactLoserWrong : ChangeSpec := { name := "fnExactLoser", vars := ["loop.example/g03010/impl.suitSigns", "loop.example/g03010/impl.rankSigns", "loop.example/g03010/impl.fromSigns", "loop.example/g03010/impl.redSign", "loop.example/g03010/impl.notSign", "loop.example/g03010/impl.andSign", "loop.example/g03010/impl.orSign"], fn := fun _ => fun
  | [d, g1, g2, g3, g4, g5, g6, g7] => { results := [.lit (.bool false)], args := [d], vars := [g1, g2, g3, g4, g5, g6, g7] }
  | _ => none }
def FnExactLoserWrongFalsely : Prop := fnExactLoserRow.holds Tryd.pinned (OpenSpec.ofChange fnExactLoserWrong)

/-- 'laws.FnExactSettled': WHATEVER THE INPUT: true; the input reads as it did. -/
def fnExactSettledSpec : ChangeSpec := { name := "fnExactSettled", vars := ["loop.example/g03010/impl.suitSigns", "loop.example/g03010/impl.rankSigns", "loop.example/g03010/impl.fromSigns", "loop.example/g03010/impl.redSign", "loop.example/g03010/impl.notSign", "loop.example/g03010/impl.andSign", "loop.example/g03010/impl.orSign"], fn := fun _ => fun
  | [d, g1, g2, g3, g4, g5, g6, g7] => { results := [.lit (.bool true)], args := [d], vars := [g1, g2, g3, g4, g5, g6, g7] }
  | _ => none }
def fnExactSettledRow : OpenClaim := { program := "ytbeodaelbjgmeaadoor", sum := "57b950eb2c43fcd65100da8283cade267df2fc626c022a7790610c8844bd2efd", func := "loop.example/g03010/laws.FnExactSettled", spec := "fnExactSettled", unfollowed := true, recurses := true, named := ["loop.example/g03010/impl.suitSigns", "loop.example/g03010/impl.rankSigns", "loop.example/g03010/impl.fromSigns", "loop.example/g03010/impl.redSign", "loop.example/g03010/impl.notSign", "loop.example/g03010/impl.andSign", "loop.example/g03010/impl.orSign"], apart := false, laid := [("loop.example/g03010/impl.suitSigns", laid_loop_example_g03010_impl_suitSigns), ("loop.example/g03010/impl.rankSigns", laid_loop_example_g03010_impl_rankSigns), ("loop.example/g03010/impl.fromSigns", laid_loop_example_g03010_impl_fromSigns), ("loop.example/g03010/impl.redSign", laid_loop_example_g03010_impl_redSign), ("loop.example/g03010/impl.notSign", laid_loop_example_g03010_impl_notSign), ("loop.example/g03010/impl.andSign", laid_loop_example_g03010_impl_andSign), ("loop.example/g03010/impl.orSign", laid_loop_example_g03010_impl_orSign)] }
def FnExactSettledSaid : Prop := fnExactSettledRow.holds Tryd.pinned (OpenSpec.ofChange fnExactSettledSpec)

/-- ITS FALSE NEIGHBOUR: 'it returns false'. Refute it at one input. -/
def fnExactSettledWrong : ChangeSpec := { name := "fnExactSettled", vars := ["loop.example/g03010/impl.suitSigns", "loop.example/g03010/impl.rankSigns", "loop.example/g03010/impl.fromSigns", "loop.example/g03010/impl.redSign", "loop.example/g03010/impl.notSign", "loop.example/g03010/impl.andSign", "loop.example/g03010/impl.orSign"], fn := fun _ => fun
  | [d, g1, g2, g3, g4, g5, g6, g7] => { results := [.lit (.bool false)], args := [d], vars := [g1, g2, g3, g4, g5, g6, g7] }
  | _ => none }
def FnExactSettledWrongFalsely : Prop := fnExactSettledRow.holds Tryd.pinned (OpenSpec.ofChange fnExactSettledWrong)

/- THE SECOND FORM. 'bulk': how many values and letters a reading holds, each counted each time it is reached (what is shared counts as often as it is met; a slice's spare places count too). A statement '..UptoSaid' is the law's where the arguments, and the package variables that the reading takes, are together of bulk at most 1048576: NARROWER than '..Said'. Prove '..Said' where nothing that the law and all that it calls make is longer than what came in: it says more and counts as full. Else prove '..UptoSaid'. A law counts once. -/
mutual
def uptoBulk {H : Type} : DataW H → Nat
  | .lit (.string bytes) => bytes.length + 1
  | .lit _ => 1
  | .nil => 1
  | .ptr d => uptoBulk d + 1
  | .slice elems spare => uptoBulkAll elems + uptoBulkAll spare + 1
  | .agg parts => uptoBulkAll parts + 1
  | .iface _ d => uptoBulk d + 1
  | .map entries => uptoBulkEntries entries + 1
  | .held _ => 1
def uptoBulkAll {H : Type} : List (DataW H) → Nat
  | [] => 0
  | d :: r => uptoBulk d + uptoBulkAll r
def uptoBulkEntries {H : Type} : List (Lit × DataW H) → Nat
  | [] => 0
  | x :: r => uptoBulkEntry x + uptoBulkEntries r
def uptoBulkEntry {H : Type} : Lit × DataW H → Nat
  | (.string bytes, d) => bytes.length + uptoBulk d + 1
  | (_, d) => uptoBulk d + 1
 end
def uptoSmall : (H : Type) → List (DataW H) → Bool := fun _ ds => decide (uptoBulkAll ds ≤ 1048576)
def OpenSpec.upto (s : _root_.Go.ChangeSpec) : _root_.Go.OpenSpec := { _root_.Go.OpenSpec.ofChange s with cond := some uptoSmall }

/-- 'laws.FnExactIsGame', WHERE WHAT IT READS IS OF BULK AT MOST 1048576: true; the input reads as it did. -/
def fnExactIsGameUptoRow : OpenClaim := { program := "ytbeodaelbjgmeaadoor", sum := "57b950eb2c43fcd65100da8283cade267df2fc626c022a7790610c8844bd2efd", func := "loop.example/g03010/laws.FnExactIsGame", spec := "fnExactIsGame", unfollowed := true, recurses := true, named := ["loop.example/g03010/impl.suitSigns", "loop.example/g03010/impl.rankSigns", "loop.example/g03010/impl.fromSigns", "loop.example/g03010/impl.redSign", "loop.example/g03010/impl.notSign", "loop.example/g03010/impl.andSign", "loop.example/g03010/impl.orSign"], apart := false, laid := [("loop.example/g03010/impl.suitSigns", laid_loop_example_g03010_impl_suitSigns), ("loop.example/g03010/impl.rankSigns", laid_loop_example_g03010_impl_rankSigns), ("loop.example/g03010/impl.fromSigns", laid_loop_example_g03010_impl_fromSigns), ("loop.example/g03010/impl.redSign", laid_loop_example_g03010_impl_redSign), ("loop.example/g03010/impl.notSign", laid_loop_example_g03010_impl_notSign), ("loop.example/g03010/impl.andSign", laid_loop_example_g03010_impl_andSign), ("loop.example/g03010/impl.orSign", laid_loop_example_g03010_impl_orSign)], narrowed := true }
def FnExactIsGameUptoSaid : Prop := fnExactIsGameUptoRow.holds Tryd.pinned (OpenSpec.upto fnExactIsGameSpec)

/-- 'laws.FnExactWinner', WHERE WHAT IT READS IS OF BULK AT MOST 1048576: true; the input reads as it did. -/
def fnExactWinnerUptoRow : OpenClaim := { program := "ytbeodaelbjgmeaadoor", sum := "57b950eb2c43fcd65100da8283cade267df2fc626c022a7790610c8844bd2efd", func := "loop.example/g03010/laws.FnExactWinner", spec := "fnExactWinner", unfollowed := true, recurses := true, named := ["loop.example/g03010/impl.suitSigns", "loop.example/g03010/impl.rankSigns", "loop.example/g03010/impl.fromSigns", "loop.example/g03010/impl.redSign", "loop.example/g03010/impl.notSign", "loop.example/g03010/impl.andSign", "loop.example/g03010/impl.orSign"], apart := false, laid := [("loop.example/g03010/impl.suitSigns", laid_loop_example_g03010_impl_suitSigns), ("loop.example/g03010/impl.rankSigns", laid_loop_example_g03010_impl_rankSigns), ("loop.example/g03010/impl.fromSigns", laid_loop_example_g03010_impl_fromSigns), ("loop.example/g03010/impl.redSign", laid_loop_example_g03010_impl_redSign), ("loop.example/g03010/impl.notSign", laid_loop_example_g03010_impl_notSign), ("loop.example/g03010/impl.andSign", laid_loop_example_g03010_impl_andSign), ("loop.example/g03010/impl.orSign", laid_loop_example_g03010_impl_orSign)], narrowed := true }
def FnExactWinnerUptoSaid : Prop := fnExactWinnerUptoRow.holds Tryd.pinned (OpenSpec.upto fnExactWinnerSpec)

/-- 'laws.FnExactIsEnded', WHERE WHAT IT READS IS OF BULK AT MOST 1048576: true; the input reads as it did. -/
def fnExactIsEndedUptoRow : OpenClaim := { program := "ytbeodaelbjgmeaadoor", sum := "57b950eb2c43fcd65100da8283cade267df2fc626c022a7790610c8844bd2efd", func := "loop.example/g03010/laws.FnExactIsEnded", spec := "fnExactIsEnded", unfollowed := true, recurses := true, named := ["loop.example/g03010/impl.suitSigns", "loop.example/g03010/impl.rankSigns", "loop.example/g03010/impl.fromSigns", "loop.example/g03010/impl.redSign", "loop.example/g03010/impl.notSign", "loop.example/g03010/impl.andSign", "loop.example/g03010/impl.orSign"], apart := false, laid := [("loop.example/g03010/impl.suitSigns", laid_loop_example_g03010_impl_suitSigns), ("loop.example/g03010/impl.rankSigns", laid_loop_example_g03010_impl_rankSigns), ("loop.example/g03010/impl.fromSigns", laid_loop_example_g03010_impl_fromSigns), ("loop.example/g03010/impl.redSign", laid_loop_example_g03010_impl_redSign), ("loop.example/g03010/impl.notSign", laid_loop_example_g03010_impl_notSign), ("loop.example/g03010/impl.andSign", laid_loop_example_g03010_impl_andSign), ("loop.example/g03010/impl.orSign", laid_loop_example_g03010_impl_orSign)], narrowed := true }
def FnExactIsEndedUptoSaid : Prop := fnExactIsEndedUptoRow.holds Tryd.pinned (OpenSpec.upto fnExactIsEndedSpec)

/-- 'laws.FnExactMovesLeft', WHERE WHAT IT READS IS OF BULK AT MOST 1048576: true; the input reads as it did. -/
def fnExactMovesLeftUptoRow : OpenClaim := { program := "ytbeodaelbjgmeaadoor", sum := "57b950eb2c43fcd65100da8283cade267df2fc626c022a7790610c8844bd2efd", func := "loop.example/g03010/laws.FnExactMovesLeft", spec := "fnExactMovesLeft", unfollowed := true, recurses := true, named := ["loop.example/g03010/impl.suitSigns", "loop.example/g03010/impl.rankSigns", "loop.example/g03010/impl.fromSigns", "loop.example/g03010/impl.redSign", "loop.example/g03010/impl.notSign", "loop.example/g03010/impl.andSign", "loop.example/g03010/impl.orSign"], apart := false, laid := [("loop.example/g03010/impl.suitSigns", laid_loop_example_g03010_impl_suitSigns), ("loop.example/g03010/impl.rankSigns", laid_loop_example_g03010_impl_rankSigns), ("loop.example/g03010/impl.fromSigns", laid_loop_example_g03010_impl_fromSigns), ("loop.example/g03010/impl.redSign", laid_loop_example_g03010_impl_redSign), ("loop.example/g03010/impl.notSign", laid_loop_example_g03010_impl_notSign), ("loop.example/g03010/impl.andSign", laid_loop_example_g03010_impl_andSign), ("loop.example/g03010/impl.orSign", laid_loop_example_g03010_impl_orSign)], narrowed := true }
def FnExactMovesLeftUptoSaid : Prop := fnExactMovesLeftUptoRow.holds Tryd.pinned (OpenSpec.upto fnExactMovesLeftSpec)

/-- 'laws.FnExactIsDrawn', WHERE WHAT IT READS IS OF BULK AT MOST 1048576: true; the input reads as it did. -/
def fnExactIsDrawnUptoRow : OpenClaim := { program := "ytbeodaelbjgmeaadoor", sum := "57b950eb2c43fcd65100da8283cade267df2fc626c022a7790610c8844bd2efd", func := "loop.example/g03010/laws.FnExactIsDrawn", spec := "fnExactIsDrawn", unfollowed := true, recurses := true, named := ["loop.example/g03010/impl.suitSigns", "loop.example/g03010/impl.rankSigns", "loop.example/g03010/impl.fromSigns", "loop.example/g03010/impl.redSign", "loop.example/g03010/impl.notSign", "loop.example/g03010/impl.andSign", "loop.example/g03010/impl.orSign"], apart := false, laid := [("loop.example/g03010/impl.suitSigns", laid_loop_example_g03010_impl_suitSigns), ("loop.example/g03010/impl.rankSigns", laid_loop_example_g03010_impl_rankSigns), ("loop.example/g03010/impl.fromSigns", laid_loop_example_g03010_impl_fromSigns), ("loop.example/g03010/impl.redSign", laid_loop_example_g03010_impl_redSign), ("loop.example/g03010/impl.notSign", laid_loop_example_g03010_impl_notSign), ("loop.example/g03010/impl.andSign", laid_loop_example_g03010_impl_andSign), ("loop.example/g03010/impl.orSign", laid_loop_example_g03010_impl_orSign)], narrowed := true }
def FnExactIsDrawnUptoSaid : Prop := fnExactIsDrawnUptoRow.holds Tryd.pinned (OpenSpec.upto fnExactIsDrawnSpec)

/-- 'laws.FnExactLoser', WHERE WHAT IT READS IS OF BULK AT MOST 1048576: true; the input reads as it did. -/
def fnExactLoserUptoRow : OpenClaim := { program := "ytbeodaelbjgmeaadoor", sum := "57b950eb2c43fcd65100da8283cade267df2fc626c022a7790610c8844bd2efd", func := "loop.example/g03010/laws.FnExactLoser", spec := "fnExactLoser", unfollowed := true, recurses := true, named := ["loop.example/g03010/impl.suitSigns", "loop.example/g03010/impl.rankSigns", "loop.example/g03010/impl.fromSigns", "loop.example/g03010/impl.redSign", "loop.example/g03010/impl.notSign", "loop.example/g03010/impl.andSign", "loop.example/g03010/impl.orSign"], apart := false, laid := [("loop.example/g03010/impl.suitSigns", laid_loop_example_g03010_impl_suitSigns), ("loop.example/g03010/impl.rankSigns", laid_loop_example_g03010_impl_rankSigns), ("loop.example/g03010/impl.fromSigns", laid_loop_example_g03010_impl_fromSigns), ("loop.example/g03010/impl.redSign", laid_loop_example_g03010_impl_redSign), ("loop.example/g03010/impl.notSign", laid_loop_example_g03010_impl_notSign), ("loop.example/g03010/impl.andSign", laid_loop_example_g03010_impl_andSign), ("loop.example/g03010/impl.orSign", laid_loop_example_g03010_impl_orSign)], narrowed := true }
def FnExactLoserUptoSaid : Prop := fnExactLoserUptoRow.holds Tryd.pinned (OpenSpec.upto fnExactLoserSpec)

/-- 'laws.FnExactSettled', WHERE WHAT IT READS IS OF BULK AT MOST 1048576: true; the input reads as it did. -/
def fnExactSettledUptoRow : OpenClaim := { program := "ytbeodaelbjgmeaadoor", sum := "57b950eb2c43fcd65100da8283cade267df2fc626c022a7790610c8844bd2efd", func := "loop.example/g03010/laws.FnExactSettled", spec := "fnExactSettled", unfollowed := true, recurses := true, named := ["loop.example/g03010/impl.suitSigns", "loop.example/g03010/impl.rankSigns", "loop.example/g03010/impl.fromSigns", "loop.example/g03010/impl.redSign", "loop.example/g03010/impl.notSign", "loop.example/g03010/impl.andSign", "loop.example/g03010/impl.orSign"], apart := false, laid := [("loop.example/g03010/impl.suitSigns", laid_loop_example_g03010_impl_suitSigns), ("loop.example/g03010/impl.rankSigns", laid_loop_example_g03010_impl_rankSigns), ("loop.example/g03010/impl.fromSigns", laid_loop_example_g03010_impl_fromSigns), ("loop.example/g03010/impl.redSign", laid_loop_example_g03010_impl_redSign), ("loop.example/g03010/impl.notSign", laid_loop_example_g03010_impl_notSign), ("loop.example/g03010/impl.andSign", laid_loop_example_g03010_impl_andSign), ("loop.example/g03010/impl.orSign", laid_loop_example_g03010_impl_orSign)], narrowed := true }
def FnExactSettledUptoSaid : Prop := fnExactSettledUptoRow.holds Tryd.pinned (OpenSpec.upto fnExactSettledSpec)

end Rows
end Go.Proofs.YtbeodaelbjgmeaaDoor
