/-
  NARROWER THAN 'FOR EVERY INPUT', by the rows' own cells (each row's printed sentence says how): FnExactMissing: laid · FnExactUnseen: laid · FnExactOutsFor: laid.
  DERIVED. THE GIVEN ROWS OF THIS SEAT. 3 by the template 'for every input the law returns true; each argument reads behind the call as it read before'; 0 by the template 'total and deterministic' (their statements: YtepjijmgfdgfhaaDoorTotals.lean).
  GIVEN WITH THE SEED: the statements are not yours to turn. If you find one false, say at which input.
  Laid BY PROGRAM, IN A SANDBOX (cutbox-rows.mjs): the forced cells as the released guide's own fill.sh prints them over the translation a2124f086ff7efe6… (all of the seat's roots in one cut). By AI agents, Wed Nov 11 2026. No macro, syntax, notation, axiom, sorry.
-/
import Derived.Test.YtepjijmgfdgfhaaDoorChecked
import GoSem.Claim
import GoSem.ClaimJoined
import GoSem.ClaimMapViews
import Derived.JoinedTies
import Derived.KernelRfl
namespace Go.Proofs.YtepjijmgfdgfhaaDoor
/- THE CELL 'sum', in the pinned program and in every row, IS THE sha256 OF THE DUMP (.gsa) THAT YtepjijmgfdgfhaaDoorProg.lean LOADS. Nothing in Lean hashes anything: it is a label: what it is worth is what the hold of that sum in a sandbox is worth. -/
noncomputable def Tryd.pinned : Pinned := { name := "ytepjijmgfdgfhaadoor", sum := "a2124f086ff7efe6569017700b7fa37a521ecce78f080e449c0d59e88345e5fa", checked := Tryd.checked }
namespace Rows
def none {H : Type} : Left H := { results := [], args := [] }

/- WHAT THE LISTED PACKAGE-LEVEL VARIABLES READ AS WHEN THE CALL BEGINS. Each datum BY PROGRAM (the guide's laid-datum.mjs) off the statement by which the dump's own 'gosem.cut.vars' lays the variable. In a bare row this is a premise. The card (YtepjijmgfdgfhaaDoorCards.lean) ties it to the program's text. -/
def laid_math_bits_deBruijn64tab {H : Type} : DataW H := .agg [.lit (.int .u8 0), .lit (.int .u8 1), .lit (.int .u8 56), .lit (.int .u8 2), .lit (.int .u8 57), .lit (.int .u8 49), .lit (.int .u8 28), .lit (.int .u8 3), .lit (.int .u8 61), .lit (.int .u8 58), .lit (.int .u8 42), .lit (.int .u8 50), .lit (.int .u8 38), .lit (.int .u8 29), .lit (.int .u8 17), .lit (.int .u8 4), .lit (.int .u8 62), .lit (.int .u8 47), .lit (.int .u8 59), .lit (.int .u8 36), .lit (.int .u8 45), .lit (.int .u8 43), .lit (.int .u8 51), .lit (.int .u8 22), .lit (.int .u8 53), .lit (.int .u8 39), .lit (.int .u8 33), .lit (.int .u8 30), .lit (.int .u8 24), .lit (.int .u8 18), .lit (.int .u8 12), .lit (.int .u8 5), .lit (.int .u8 63), .lit (.int .u8 55), .lit (.int .u8 48), .lit (.int .u8 27), .lit (.int .u8 60), .lit (.int .u8 41), .lit (.int .u8 37), .lit (.int .u8 16), .lit (.int .u8 46), .lit (.int .u8 35), .lit (.int .u8 44), .lit (.int .u8 21), .lit (.int .u8 52), .lit (.int .u8 32), .lit (.int .u8 23), .lit (.int .u8 11), .lit (.int .u8 54), .lit (.int .u8 26), .lit (.int .u8 40), .lit (.int .u8 15), .lit (.int .u8 34), .lit (.int .u8 20), .lit (.int .u8 31), .lit (.int .u8 10), .lit (.int .u8 25), .lit (.int .u8 14), .lit (.int .u8 19), .lit (.int .u8 9), .lit (.int .u8 13), .lit (.int .u8 8), .lit (.int .u8 7), .lit (.int .u8 6)]
def laid_loop_example_g03010_impl_suitSigns {H : Type} : DataW H := .agg [.lit (.int .i64 100), .lit (.int .i64 4), .lit (.int .i64 0)]
def laid_loop_example_g03010_impl_rankSigns {H : Type} : DataW H := .agg [.lit (.int .i64 200), .lit (.int .i64 13), .lit (.int .i64 0)]
def laid_loop_example_g03010_impl_fromSigns {H : Type} : DataW H := .agg [.lit (.int .i64 300), .lit (.int .i64 13), .lit (.int .i64 0)]
def laid_loop_example_g03010_impl_redSign {H : Type} : DataW H := .agg [.lit (.int .i64 400), .lit (.int .i64 1), .lit (.int .i64 0)]
def laid_loop_example_g03010_impl_notSign {H : Type} : DataW H := .agg [.lit (.int .i64 (-1)), .lit (.int .i64 1), .lit (.int .i64 1)]
def laid_loop_example_g03010_impl_andSign {H : Type} : DataW H := .agg [.lit (.int .i64 (-2)), .lit (.int .i64 1), .lit (.int .i64 2)]
def laid_loop_example_g03010_impl_orSign {H : Type} : DataW H := .agg [.lit (.int .i64 (-3)), .lit (.int .i64 1), .lit (.int .i64 2)]

/-- 'laws.FnExactMissing': WHATEVER THE INPUT: true; the input reads as it did. -/
def fnExactMissingSpec : ChangeSpec := { name := "fnExactMissing", fn := fun _ => fun
  | [d] => { results := [.lit (.bool true)], args := [d] }
  | _ => none }
def fnExactMissingRow : OpenClaim := { program := "ytepjijmgfdgfhaadoor", sum := "a2124f086ff7efe6569017700b7fa37a521ecce78f080e449c0d59e88345e5fa", func := "loop.example/g03010/laws.FnExactMissing", spec := "fnExactMissing", named := ["math/bits.deBruijn64tab"], apart := false, laid := [("math/bits.deBruijn64tab", laid_math_bits_deBruijn64tab)] }
def FnExactMissingSaid : Prop := fnExactMissingRow.holds Tryd.pinned (OpenSpec.ofChange fnExactMissingSpec)

/-- ITS FALSE NEIGHBOUR: 'it returns false'. Refute it at one input. -/
def fnExactMissingWrong : ChangeSpec := { name := "fnExactMissing", fn := fun _ => fun
  | [d] => { results := [.lit (.bool false)], args := [d] }
  | _ => none }
def FnExactMissingWrongFalsely : Prop := fnExactMissingRow.holds Tryd.pinned (OpenSpec.ofChange fnExactMissingWrong)

/-- 'laws.FnExactUnseen': WHATEVER THE INPUT: true; the input reads as it did. -/
def fnExactUnseenSpec : ChangeSpec := { name := "fnExactUnseen", fn := fun _ => fun
  | [d1, d2] => { results := [.lit (.bool true)], args := [d1, d2] }
  | _ => none }
def fnExactUnseenRow : OpenClaim := { program := "ytepjijmgfdgfhaadoor", sum := "a2124f086ff7efe6569017700b7fa37a521ecce78f080e449c0d59e88345e5fa", func := "loop.example/g03010/laws.FnExactUnseen", spec := "fnExactUnseen", named := ["math/bits.deBruijn64tab"], apart := false, laid := [("math/bits.deBruijn64tab", laid_math_bits_deBruijn64tab)] }
def FnExactUnseenSaid : Prop := fnExactUnseenRow.holds Tryd.pinned (OpenSpec.ofChange fnExactUnseenSpec)

/-- ITS FALSE NEIGHBOUR: 'it returns false'. Refute it at one input. -/
def fnExactUnseenWrong : ChangeSpec := { name := "fnExactUnseen", fn := fun _ => fun
  | [d1, d2] => { results := [.lit (.bool false)], args := [d1, d2] }
  | _ => none }
def FnExactUnseenWrongFalsely : Prop := fnExactUnseenRow.holds Tryd.pinned (OpenSpec.ofChange fnExactUnseenWrong)

/-- 'laws.FnExactOutsFor': WHATEVER THE INPUT: true; the input reads as it did. -/
def fnExactOutsForSpec : ChangeSpec := { name := "fnExactOutsFor", vars := ["loop.example/g03010/impl.suitSigns", "loop.example/g03010/impl.rankSigns", "loop.example/g03010/impl.fromSigns", "loop.example/g03010/impl.redSign", "loop.example/g03010/impl.notSign", "loop.example/g03010/impl.andSign", "loop.example/g03010/impl.orSign"], fn := fun _ => fun
  | [d1, d2, g1, g2, g3, g4, g5, g6, g7] => { results := [.lit (.bool true)], args := [d1, d2], vars := [g1, g2, g3, g4, g5, g6, g7] }
  | _ => none }
def fnExactOutsForRow : OpenClaim := { program := "ytepjijmgfdgfhaadoor", sum := "a2124f086ff7efe6569017700b7fa37a521ecce78f080e449c0d59e88345e5fa", func := "loop.example/g03010/laws.FnExactOutsFor", spec := "fnExactOutsFor", unfollowed := true, recurses := true, named := ["math/bits.deBruijn64tab", "loop.example/g03010/impl.suitSigns", "loop.example/g03010/impl.rankSigns", "loop.example/g03010/impl.fromSigns", "loop.example/g03010/impl.redSign", "loop.example/g03010/impl.notSign", "loop.example/g03010/impl.andSign", "loop.example/g03010/impl.orSign"], apart := false, laid := [("math/bits.deBruijn64tab", laid_math_bits_deBruijn64tab), ("loop.example/g03010/impl.suitSigns", laid_loop_example_g03010_impl_suitSigns), ("loop.example/g03010/impl.rankSigns", laid_loop_example_g03010_impl_rankSigns), ("loop.example/g03010/impl.fromSigns", laid_loop_example_g03010_impl_fromSigns), ("loop.example/g03010/impl.redSign", laid_loop_example_g03010_impl_redSign), ("loop.example/g03010/impl.notSign", laid_loop_example_g03010_impl_notSign), ("loop.example/g03010/impl.andSign", laid_loop_example_g03010_impl_andSign), ("loop.example/g03010/impl.orSign", laid_loop_example_g03010_impl_orSign)] }
def FnExactOutsForSaid : Prop := fnExactOutsForRow.holds Tryd.pinned (OpenSpec.ofChange fnExactOutsForSpec)

/-- ITS FALSE NEIGHBOUR: 'it returns false'. Refute it at one input. -/
def fnExactOutsForWrong : ChangeSpec := { name := "fnExactOutsFor", vars := ["loop.example/g03010/impl.suitSigns", "loop.example/g03010/impl.rankSigns", "loop.example/g03010/impl.fromSigns", "loop.example/g03010/impl.redSign", "loop.example/g03010/impl.notSign", "loop.example/g03010/impl.andSign", "loop.example/g03010/impl.orSign"], fn := fun _ => fun
  | [d1, d2, g1, g2, g3, g4, g5, g6, g7] => { results := [.lit (.bool false)], args := [d1, d2], vars := [g1, g2, g3, g4, g5, g6, g7] }
  | _ => none }
def FnExactOutsForWrongFalsely : Prop := fnExactOutsForRow.holds Tryd.pinned (OpenSpec.ofChange fnExactOutsForWrong)

/- THE SECOND FORM. 'bulk': how many values and letters a reading holds, each counted each time it is reached (what is shared counts as often as it is met; a slice's spare places count too). A statement '..UptoSaid' is the law's where the arguments, and the package variables that the reading takes, are together of bulk at most 1048576: NARROWER than '..Said'. Prove '..Said' where nothing that the law and all that it calls make is longer than what came in: it says more and counts as full. Else prove '..UptoSaid'. A law counts once. -/
mutual
def uptoBulk {H : Type} : DataW H → Nat
  | .lit (.string bytes) => bytes.length + 1
  | .lit _ => 1
  | .nil => 1
  | .ptr d => uptoBulk d + 1
  | .slice elems spare => uptoBulkAll elems + uptoBulkAll spare + 1
  | .agg parts => uptoBulkAll parts + 1
  | .iface _ d => uptoBulk d + 1
  | .map entries => uptoBulkEntries entries + 1
  | .held _ => 1
def uptoBulkAll {H : Type} : List (DataW H) → Nat
  | [] => 0
  | d :: r => uptoBulk d + uptoBulkAll r
def uptoBulkEntries {H : Type} : List (Lit × DataW H) → Nat
  | [] => 0
  | x :: r => uptoBulkEntry x + uptoBulkEntries r
def uptoBulkEntry {H : Type} : Lit × DataW H → Nat
  | (.string bytes, d) => bytes.length + uptoBulk d + 1
  | (_, d) => uptoBulk d + 1
 end
def uptoSmall : (H : Type) → List (DataW H) → Bool := fun _ ds => decide (uptoBulkAll ds ≤ 1048576)
def OpenSpec.upto (s : _root_.Go.ChangeSpec) : _root_.Go.OpenSpec := { _root_.Go.OpenSpec.ofChange s with cond := some uptoSmall }

/-- 'laws.FnExactMissing', WHERE WHAT IT READS IS OF BULK AT MOST 1048576: true; the input reads as it did. -/
def fnExactMissingUptoRow : OpenClaim := { program := "ytepjijmgfdgfhaadoor", sum := "a2124f086ff7efe6569017700b7fa37a521ecce78f080e449c0d59e88345e5fa", func := "loop.example/g03010/laws.FnExactMissing", spec := "fnExactMissing", named := ["math/bits.deBruijn64tab"], apart := false, laid := [("math/bits.deBruijn64tab", laid_math_bits_deBruijn64tab)], narrowed := true }
def FnExactMissingUptoSaid : Prop := fnExactMissingUptoRow.holds Tryd.pinned (OpenSpec.upto fnExactMissingSpec)

/-- 'laws.FnExactUnseen', WHERE WHAT IT READS IS OF BULK AT MOST 1048576: true; the input reads as it did. -/
def fnExactUnseenUptoRow : OpenClaim := { program := "ytepjijmgfdgfhaadoor", sum := "a2124f086ff7efe6569017700b7fa37a521ecce78f080e449c0d59e88345e5fa", func := "loop.example/g03010/laws.FnExactUnseen", spec := "fnExactUnseen", named := ["math/bits.deBruijn64tab"], apart := false, laid := [("math/bits.deBruijn64tab", laid_math_bits_deBruijn64tab)], narrowed := true }
def FnExactUnseenUptoSaid : Prop := fnExactUnseenUptoRow.holds Tryd.pinned (OpenSpec.upto fnExactUnseenSpec)

/-- 'laws.FnExactOutsFor', WHERE WHAT IT READS IS OF BULK AT MOST 1048576: true; the input reads as it did. -/
def fnExactOutsForUptoRow : OpenClaim := { program := "ytepjijmgfdgfhaadoor", sum := "a2124f086ff7efe6569017700b7fa37a521ecce78f080e449c0d59e88345e5fa", func := "loop.example/g03010/laws.FnExactOutsFor", spec := "fnExactOutsFor", unfollowed := true, recurses := true, named := ["math/bits.deBruijn64tab", "loop.example/g03010/impl.suitSigns", "loop.example/g03010/impl.rankSigns", "loop.example/g03010/impl.fromSigns", "loop.example/g03010/impl.redSign", "loop.example/g03010/impl.notSign", "loop.example/g03010/impl.andSign", "loop.example/g03010/impl.orSign"], apart := false, laid := [("math/bits.deBruijn64tab", laid_math_bits_deBruijn64tab), ("loop.example/g03010/impl.suitSigns", laid_loop_example_g03010_impl_suitSigns), ("loop.example/g03010/impl.rankSigns", laid_loop_example_g03010_impl_rankSigns), ("loop.example/g03010/impl.fromSigns", laid_loop_example_g03010_impl_fromSigns), ("loop.example/g03010/impl.redSign", laid_loop_example_g03010_impl_redSign), ("loop.example/g03010/impl.notSign", laid_loop_example_g03010_impl_notSign), ("loop.example/g03010/impl.andSign", laid_loop_example_g03010_impl_andSign), ("loop.example/g03010/impl.orSign", laid_loop_example_g03010_impl_orSign)], narrowed := true }
def FnExactOutsForUptoSaid : Prop := fnExactOutsForUptoRow.holds Tryd.pinned (OpenSpec.upto fnExactOutsForSpec)

end Rows
end Go.Proofs.YtepjijmgfdgfhaaDoor
