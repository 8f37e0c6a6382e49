/-
  NARROWER THAN 'FOR EVERY INPUT', by the rows' own cells (each row's printed sentence says how): FnExactPeekOf: laid · FnExactStirHidden: ifaces, laid.
  DERIVED. THE GIVEN ROWS OF THIS SEAT. 2 by the template 'for every input the law returns true; each argument reads behind the call as it read before'; 0 by the template 'total and deterministic' (their statements: YtoeobpdgfhgpiaaGreatDoorTotals.lean).
  GIVEN WITH THE SEED: the statements are not yours to turn. If you find one false, say at which input.
  Laid BY PROGRAM, IN A SANDBOX (cutbox-rows.mjs): the forced cells as the released guide's own fill.sh prints them over the translation 2d6e2e8956b6ee0e… (all of the seat's roots in one cut). By AI agents, Wed Nov 11 2026. No macro, syntax, notation, axiom, sorry.
-/
import Derived.Test.YtoeobpdgfhgpiaaGreatDoorChecked
import GoSem.Claim
import GoSem.ClaimJoined
import GoSem.ClaimMapViews
import Derived.JoinedTies
import Derived.KernelRfl
namespace Go.Proofs.YtoeobpdgfhgpiaaGreatDoor
/- THE CELL 'sum', in the pinned program and in every row, IS THE sha256 OF THE DUMP (.gsa) THAT YtoeobpdgfhgpiaaGreatDoorProg.lean LOADS. Nothing in Lean hashes anything: it is a label: what it is worth is what the hold of that sum in a sandbox is worth. -/
noncomputable def Tryz.pinned : Pinned := { name := "ytoeobpdgfhgpiaagreatdoor", sum := "2d6e2e8956b6ee0ef1d1c2d9cdc56faeef6f969295b30e317adff5ef20090145", checked := Tryz.checked }
namespace Rows
def none {H : Type} : Left H := { results := [], args := [] }

/- WHAT THE LISTED PACKAGE-LEVEL VARIABLES READ AS WHEN THE CALL BEGINS. Each datum BY PROGRAM (the guide's laid-datum.mjs) off the statement by which the dump's own 'gosem.cut.vars' lays the variable. In a bare row this is a premise. The card (YtoeobpdgfhgpiaaGreatDoorCards.lean) ties it to the program's text. -/
def laid_loop_example_g03010_impl_suitSigns {H : Type} : DataW H := .agg [.lit (.int .i64 100), .lit (.int .i64 4), .lit (.int .i64 0)]
def laid_loop_example_g03010_impl_rankSigns {H : Type} : DataW H := .agg [.lit (.int .i64 200), .lit (.int .i64 13), .lit (.int .i64 0)]
def laid_loop_example_g03010_impl_fromSigns {H : Type} : DataW H := .agg [.lit (.int .i64 300), .lit (.int .i64 13), .lit (.int .i64 0)]
def laid_loop_example_g03010_impl_redSign {H : Type} : DataW H := .agg [.lit (.int .i64 400), .lit (.int .i64 1), .lit (.int .i64 0)]
def laid_loop_example_g03010_impl_notSign {H : Type} : DataW H := .agg [.lit (.int .i64 (-1)), .lit (.int .i64 1), .lit (.int .i64 1)]
def laid_loop_example_g03010_impl_andSign {H : Type} : DataW H := .agg [.lit (.int .i64 (-2)), .lit (.int .i64 1), .lit (.int .i64 2)]
def laid_loop_example_g03010_impl_orSign {H : Type} : DataW H := .agg [.lit (.int .i64 (-3)), .lit (.int .i64 1), .lit (.int .i64 2)]
def laid_loop_example_g03010_impl_errNotDecimal {H : Type} : DataW H := .iface "*errors.errorString" (.ptr (.agg [.lit (.string [110, 111, 116, 32, 116, 104, 101, 32, 100, 101, 99, 105, 109, 97, 108, 32, 102, 111, 114, 109, 32, 111, 102, 32, 97, 110, 32, 105, 110, 116, 101, 103, 101, 114])]))
def laid_loop_example_g03010_impl_errOutOfRange {H : Type} : DataW H := .iface "*errors.errorString" (.ptr (.agg [.lit (.string [105, 110, 116, 101, 103, 101, 114, 32, 111, 117, 116, 32, 111, 102, 32, 114, 97, 110, 103, 101])]))

/-- 'laws.FnExactPeekOf': WHATEVER THE INPUT: true; the input reads as it did. -/
def fnExactPeekOfSpec : ChangeSpec := { name := "fnExactPeekOf", vars := ["loop.example/g03010/impl.suitSigns", "loop.example/g03010/impl.rankSigns", "loop.example/g03010/impl.fromSigns", "loop.example/g03010/impl.redSign", "loop.example/g03010/impl.notSign", "loop.example/g03010/impl.andSign", "loop.example/g03010/impl.orSign"], fn := fun _ => fun
  | [d1, d2, g1, g2, g3, g4, g5, g6, g7] => { results := [.lit (.bool true)], args := [d1, d2], vars := [g1, g2, g3, g4, g5, g6, g7] }
  | _ => none }
def fnExactPeekOfRow : OpenClaim := { program := "ytoeobpdgfhgpiaagreatdoor", sum := "2d6e2e8956b6ee0ef1d1c2d9cdc56faeef6f969295b30e317adff5ef20090145", func := "loop.example/g03010/laws.FnExactPeekOf", spec := "fnExactPeekOf", unfollowed := true, recurses := true, named := ["loop.example/g03010/impl.suitSigns", "loop.example/g03010/impl.rankSigns", "loop.example/g03010/impl.fromSigns", "loop.example/g03010/impl.redSign", "loop.example/g03010/impl.notSign", "loop.example/g03010/impl.andSign", "loop.example/g03010/impl.orSign"], apart := false, laid := [("loop.example/g03010/impl.suitSigns", laid_loop_example_g03010_impl_suitSigns), ("loop.example/g03010/impl.rankSigns", laid_loop_example_g03010_impl_rankSigns), ("loop.example/g03010/impl.fromSigns", laid_loop_example_g03010_impl_fromSigns), ("loop.example/g03010/impl.redSign", laid_loop_example_g03010_impl_redSign), ("loop.example/g03010/impl.notSign", laid_loop_example_g03010_impl_notSign), ("loop.example/g03010/impl.andSign", laid_loop_example_g03010_impl_andSign), ("loop.example/g03010/impl.orSign", laid_loop_example_g03010_impl_orSign)] }
def FnExactPeekOfSaid : Prop := fnExactPeekOfRow.holds Tryz.pinned (OpenSpec.ofChange fnExactPeekOfSpec)

/-- ITS FALSE NEIGHBOUR: 'it returns false'. Refute it at one input. -/
def fnExactPeekOfWrong : ChangeSpec := { name := "fnExactPeekOf", vars := ["loop.example/g03010/impl.suitSigns", "loop.example/g03010/impl.rankSigns", "loop.example/g03010/impl.fromSigns", "loop.example/g03010/impl.redSign", "loop.example/g03010/impl.notSign", "loop.example/g03010/impl.andSign", "loop.example/g03010/impl.orSign"], fn := fun _ => fun
  | [d1, d2, g1, g2, g3, g4, g5, g6, g7] => { results := [.lit (.bool false)], args := [d1, d2], vars := [g1, g2, g3, g4, g5, g6, g7] }
  | _ => none }
def FnExactPeekOfWrongFalsely : Prop := fnExactPeekOfRow.holds Tryz.pinned (OpenSpec.ofChange fnExactPeekOfWrong)

/-- 'laws.FnExactStirHidden': WHATEVER THE INPUT: true; the input reads as it did. -/
def fnExactStirHiddenSpec : ChangeSpec := { name := "fnExactStirHidden", vars := ["loop.example/g03010/impl.suitSigns", "loop.example/g03010/impl.rankSigns", "loop.example/g03010/impl.fromSigns", "loop.example/g03010/impl.redSign", "loop.example/g03010/impl.notSign", "loop.example/g03010/impl.andSign", "loop.example/g03010/impl.orSign", "loop.example/g03010/impl.errOutOfRange", "loop.example/g03010/impl.errNotDecimal"], fn := fun _ => fun
  | [d1, d2, d3, g1, g2, g3, g4, g5, g6, g7, g8, g9] => { results := [.lit (.bool true)], args := [d1, d2, d3], vars := [g1, g2, g3, g4, g5, g6, g7, g8, g9] }
  | _ => none }
def fnExactStirHiddenRow : OpenClaim := { program := "ytoeobpdgfhgpiaagreatdoor", sum := "2d6e2e8956b6ee0ef1d1c2d9cdc56faeef6f969295b30e317adff5ef20090145", func := "loop.example/g03010/laws.FnExactStirHidden", spec := "fnExactStirHidden", inPlace := ["internal/reflectlite.TypeOf"], unfollowed := true, recurses := true, named := ["loop.example/g03010/impl.suitSigns", "loop.example/g03010/impl.rankSigns", "loop.example/g03010/impl.fromSigns", "loop.example/g03010/impl.redSign", "loop.example/g03010/impl.notSign", "loop.example/g03010/impl.andSign", "loop.example/g03010/impl.orSign", "loop.example/g03010/impl.errOutOfRange", "loop.example/g03010/impl.errNotDecimal"], ifaces := true, apart := false, laid := [("loop.example/g03010/impl.errNotDecimal", laid_loop_example_g03010_impl_errNotDecimal), ("loop.example/g03010/impl.errOutOfRange", laid_loop_example_g03010_impl_errOutOfRange), ("loop.example/g03010/impl.suitSigns", laid_loop_example_g03010_impl_suitSigns), ("loop.example/g03010/impl.rankSigns", laid_loop_example_g03010_impl_rankSigns), ("loop.example/g03010/impl.fromSigns", laid_loop_example_g03010_impl_fromSigns), ("loop.example/g03010/impl.redSign", laid_loop_example_g03010_impl_redSign), ("loop.example/g03010/impl.notSign", laid_loop_example_g03010_impl_notSign), ("loop.example/g03010/impl.andSign", laid_loop_example_g03010_impl_andSign), ("loop.example/g03010/impl.orSign", laid_loop_example_g03010_impl_orSign)] }
def FnExactStirHiddenSaid : Prop := fnExactStirHiddenRow.holds Tryz.pinned (OpenSpec.ofChange fnExactStirHiddenSpec)

/-- ITS FALSE NEIGHBOUR: 'it returns false'. Refute it at one input. -/
def fnExactStirHiddenWrong : ChangeSpec := { name := "fnExactStirHidden", vars := ["loop.example/g03010/impl.suitSigns", "loop.example/g03010/impl.rankSigns", "loop.example/g03010/impl.fromSigns", "loop.example/g03010/impl.redSign", "loop.example/g03010/impl.notSign", "loop.example/g03010/impl.andSign", "loop.example/g03010/impl.orSign", "loop.example/g03010/impl.errOutOfRange", "loop.example/g03010/impl.errNotDecimal"], fn := fun _ => fun
  | [d1, d2, d3, g1, g2, g3, g4, g5, g6, g7, g8, g9] => { results := [.lit (.bool false)], args := [d1, d2, d3], vars := [g1, g2, g3, g4, g5, g6, g7, g8, g9] }
  | _ => none }
def FnExactStirHiddenWrongFalsely : Prop := fnExactStirHiddenRow.holds Tryz.pinned (OpenSpec.ofChange fnExactStirHiddenWrong)

/- THE SECOND FORM. 'bulk': how many values and letters a reading holds, each counted each time it is reached (what is shared counts as often as it is met; a slice's spare places count too). A statement '..UptoSaid' is the law's where the arguments, and the package variables that the reading takes, are together of bulk at most 1048576: NARROWER than '..Said'. Prove '..Said' where nothing that the law and all that it calls make is longer than what came in: it says more and counts as full. Else prove '..UptoSaid'. A law counts once. -/
mutual
def uptoBulk {H : Type} : DataW H → Nat
  | .lit (.string bytes) => bytes.length + 1
  | .lit _ => 1
  | .nil => 1
  | .ptr d => uptoBulk d + 1
  | .slice elems spare => uptoBulkAll elems + uptoBulkAll spare + 1
  | .agg parts => uptoBulkAll parts + 1
  | .iface _ d => uptoBulk d + 1
  | .map entries => uptoBulkEntries entries + 1
  | .held _ => 1
def uptoBulkAll {H : Type} : List (DataW H) → Nat
  | [] => 0
  | d :: r => uptoBulk d + uptoBulkAll r
def uptoBulkEntries {H : Type} : List (Lit × DataW H) → Nat
  | [] => 0
  | x :: r => uptoBulkEntry x + uptoBulkEntries r
def uptoBulkEntry {H : Type} : Lit × DataW H → Nat
  | (.string bytes, d) => bytes.length + uptoBulk d + 1
  | (_, d) => uptoBulk d + 1
 end
def uptoSmall : (H : Type) → List (DataW H) → Bool := fun _ ds => decide (uptoBulkAll ds ≤ 1048576)
def OpenSpec.upto (s : _root_.Go.ChangeSpec) : _root_.Go.OpenSpec := { _root_.Go.OpenSpec.ofChange s with cond := some uptoSmall }

/-- 'laws.FnExactPeekOf', WHERE WHAT IT READS IS OF BULK AT MOST 1048576: true; the input reads as it did. -/
def fnExactPeekOfUptoRow : OpenClaim := { program := "ytoeobpdgfhgpiaagreatdoor", sum := "2d6e2e8956b6ee0ef1d1c2d9cdc56faeef6f969295b30e317adff5ef20090145", func := "loop.example/g03010/laws.FnExactPeekOf", spec := "fnExactPeekOf", unfollowed := true, recurses := true, named := ["loop.example/g03010/impl.suitSigns", "loop.example/g03010/impl.rankSigns", "loop.example/g03010/impl.fromSigns", "loop.example/g03010/impl.redSign", "loop.example/g03010/impl.notSign", "loop.example/g03010/impl.andSign", "loop.example/g03010/impl.orSign"], apart := false, laid := [("loop.example/g03010/impl.suitSigns", laid_loop_example_g03010_impl_suitSigns), ("loop.example/g03010/impl.rankSigns", laid_loop_example_g03010_impl_rankSigns), ("loop.example/g03010/impl.fromSigns", laid_loop_example_g03010_impl_fromSigns), ("loop.example/g03010/impl.redSign", laid_loop_example_g03010_impl_redSign), ("loop.example/g03010/impl.notSign", laid_loop_example_g03010_impl_notSign), ("loop.example/g03010/impl.andSign", laid_loop_example_g03010_impl_andSign), ("loop.example/g03010/impl.orSign", laid_loop_example_g03010_impl_orSign)], narrowed := true }
def FnExactPeekOfUptoSaid : Prop := fnExactPeekOfUptoRow.holds Tryz.pinned (OpenSpec.upto fnExactPeekOfSpec)

/-- 'laws.FnExactStirHidden', WHERE WHAT IT READS IS OF BULK AT MOST 1048576: true; the input reads as it did. -/
def fnExactStirHiddenUptoRow : OpenClaim := { program := "ytoeobpdgfhgpiaagreatdoor", sum := "2d6e2e8956b6ee0ef1d1c2d9cdc56faeef6f969295b30e317adff5ef20090145", func := "loop.example/g03010/laws.FnExactStirHidden", spec := "fnExactStirHidden", inPlace := ["internal/reflectlite.TypeOf"], unfollowed := true, recurses := true, named := ["loop.example/g03010/impl.suitSigns", "loop.example/g03010/impl.rankSigns", "loop.example/g03010/impl.fromSigns", "loop.example/g03010/impl.redSign", "loop.example/g03010/impl.notSign", "loop.example/g03010/impl.andSign", "loop.example/g03010/impl.orSign", "loop.example/g03010/impl.errOutOfRange", "loop.example/g03010/impl.errNotDecimal"], ifaces := true, apart := false, laid := [("loop.example/g03010/impl.errNotDecimal", laid_loop_example_g03010_impl_errNotDecimal), ("loop.example/g03010/impl.errOutOfRange", laid_loop_example_g03010_impl_errOutOfRange), ("loop.example/g03010/impl.suitSigns", laid_loop_example_g03010_impl_suitSigns), ("loop.example/g03010/impl.rankSigns", laid_loop_example_g03010_impl_rankSigns), ("loop.example/g03010/impl.fromSigns", laid_loop_example_g03010_impl_fromSigns), ("loop.example/g03010/impl.redSign", laid_loop_example_g03010_impl_redSign), ("loop.example/g03010/impl.notSign", laid_loop_example_g03010_impl_notSign), ("loop.example/g03010/impl.andSign", laid_loop_example_g03010_impl_andSign), ("loop.example/g03010/impl.orSign", laid_loop_example_g03010_impl_orSign)], narrowed := true }
def FnExactStirHiddenUptoSaid : Prop := fnExactStirHiddenUptoRow.holds Tryz.pinned (OpenSpec.upto fnExactStirHiddenSpec)

end Rows
end Go.Proofs.YtoeobpdgfhgpiaaGreatDoor
