/-
  No cell of these rows narrows 'for every input' (looked for: loops, veiled, ifaces, maps, wideKeys, modest, calm, conditions, laid).
  DERIVED. THE GIVEN ROWS OF THIS SEAT. 3 by the template 'for every input the law returns true; each argument reads behind the call as it read before'; 0 by the template 'total and deterministic' (their statements: YtoeobpdgfhgpiaaTotals.lean).
  GIVEN WITH THE SEED: the statements are not yours to turn. If you find one false, say at which input.
  Laid BY PROGRAM, IN A SANDBOX (cutbox-rows.mjs): the forced cells as the released guide's own fill.sh prints them over the translation 4f35afa757ee3fc8… (all of the seat's roots in one cut). By AI agents, Wed Nov 11 2026. No macro, syntax, notation, axiom, sorry.
-/
import Derived.Test.YtoeobpdgfhgpiaaChecked
import GoSem.Claim
import GoSem.ClaimJoined
import GoSem.ClaimMapViews
import Derived.JoinedTies
import Derived.KernelRfl
namespace Go.Proofs.Ytoeobpdgfhgpiaa
/- THE CELL 'sum', in the pinned program and in every row, IS THE sha256 OF THE DUMP (.gsa) THAT YtoeobpdgfhgpiaaProg.lean LOADS. Nothing in Lean hashes anything: it is a label: what it is worth is what the hold of that sum in a sandbox is worth. -/
noncomputable def Try.pinned : Pinned := { name := "ytoeobpdgfhgpiaa", sum := "4f35afa757ee3fc8faa297d4ccdeb99e8248a07eabf62976798c5973ea2e7163", checked := Try.checked }
namespace Rows
def none {H : Type} : Left H := { results := [], args := [] }

/-- 'laws.FnExactEasyRules': WHATEVER THE INPUT: true; the input reads as it did. -/
def fnExactEasyRulesSpec : ChangeSpec := { name := "fnExactEasyRules", fn := fun _ => fun
  | [] => { results := [.lit (.bool true)], args := [] }
  | _ => none }
def fnExactEasyRulesRow : OpenClaim := { program := "ytoeobpdgfhgpiaa", sum := "4f35afa757ee3fc8faa297d4ccdeb99e8248a07eabf62976798c5973ea2e7163", func := "loop.example/g03010/laws.FnExactEasyRules", spec := "fnExactEasyRules", apart := false }
def FnExactEasyRulesSaid : Prop := fnExactEasyRulesRow.holds Try.pinned (OpenSpec.ofChange fnExactEasyRulesSpec)

/-- ITS FALSE NEIGHBOUR: 'it returns false'. Refute it at one input. -/
def fnExactEasyRulesWrong : ChangeSpec := { name := "fnExactEasyRules", fn := fun _ => fun
  | [] => { results := [.lit (.bool false)], args := [] }
  | _ => none }
def FnExactEasyRulesWrongFalsely : Prop := fnExactEasyRulesRow.holds Try.pinned (OpenSpec.ofChange fnExactEasyRulesWrong)

/-- 'laws.FnExactStacked': WHATEVER THE INPUT: true; the input reads as it did. -/
def fnExactStackedSpec : ChangeSpec := { name := "fnExactStacked", fn := fun _ => fun
  | [d1, d2] => { results := [.lit (.bool true)], args := [d1, d2] }
  | _ => none }
def fnExactStackedRow : OpenClaim := { program := "ytoeobpdgfhgpiaa", sum := "4f35afa757ee3fc8faa297d4ccdeb99e8248a07eabf62976798c5973ea2e7163", func := "loop.example/g03010/laws.FnExactStacked", spec := "fnExactStacked", unfollowed := true, recurses := true, apart := false }
def FnExactStackedSaid : Prop := fnExactStackedRow.holds Try.pinned (OpenSpec.ofChange fnExactStackedSpec)

/-- ITS FALSE NEIGHBOUR: 'it returns false'. Refute it at one input. -/
def fnExactStackedWrong : ChangeSpec := { name := "fnExactStacked", fn := fun _ => fun
  | [d1, d2] => { results := [.lit (.bool false)], args := [d1, d2] }
  | _ => none }
def FnExactStackedWrongFalsely : Prop := fnExactStackedRow.holds Try.pinned (OpenSpec.ofChange fnExactStackedWrong)

/-- 'laws.FnExactLifted': WHATEVER THE INPUT: true; the input reads as it did. -/
def fnExactLiftedSpec : ChangeSpec := { name := "fnExactLifted", fn := fun _ => fun
  | [d1, d2] => { results := [.lit (.bool true)], args := [d1, d2] }
  | _ => none }
def fnExactLiftedRow : OpenClaim := { program := "ytoeobpdgfhgpiaa", sum := "4f35afa757ee3fc8faa297d4ccdeb99e8248a07eabf62976798c5973ea2e7163", func := "loop.example/g03010/laws.FnExactLifted", spec := "fnExactLifted", unfollowed := true, recurses := true, apart := false }
def FnExactLiftedSaid : Prop := fnExactLiftedRow.holds Try.pinned (OpenSpec.ofChange fnExactLiftedSpec)

/-- ITS FALSE NEIGHBOUR: 'it returns false'. Refute it at one input. -/
def fnExactLiftedWrong : ChangeSpec := { name := "fnExactLifted", fn := fun _ => fun
  | [d1, d2] => { results := [.lit (.bool false)], args := [d1, d2] }
  | _ => none }
def FnExactLiftedWrongFalsely : Prop := fnExactLiftedRow.holds Try.pinned (OpenSpec.ofChange fnExactLiftedWrong)

/- THE SECOND FORM. 'bulk': how many values and letters a reading holds, each counted each time it is reached (what is shared counts as often as it is met; a slice's spare places count too). A statement '..UptoSaid' is the law's where the arguments, and the package variables that the reading takes, are together of bulk at most 1048576: NARROWER than '..Said'. Prove '..Said' where nothing that the law and all that it calls make is longer than what came in: it says more and counts as full. Else prove '..UptoSaid'. A law counts once. -/
mutual
def uptoBulk {H : Type} : DataW H → Nat
  | .lit (.string bytes) => bytes.length + 1
  | .lit _ => 1
  | .nil => 1
  | .ptr d => uptoBulk d + 1
  | .slice elems spare => uptoBulkAll elems + uptoBulkAll spare + 1
  | .agg parts => uptoBulkAll parts + 1
  | .iface _ d => uptoBulk d + 1
  | .map entries => uptoBulkEntries entries + 1
  | .held _ => 1
def uptoBulkAll {H : Type} : List (DataW H) → Nat
  | [] => 0
  | d :: r => uptoBulk d + uptoBulkAll r
def uptoBulkEntries {H : Type} : List (Lit × DataW H) → Nat
  | [] => 0
  | x :: r => uptoBulkEntry x + uptoBulkEntries r
def uptoBulkEntry {H : Type} : Lit × DataW H → Nat
  | (.string bytes, d) => bytes.length + uptoBulk d + 1
  | (_, d) => uptoBulk d + 1
 end
def uptoSmall : (H : Type) → List (DataW H) → Bool := fun _ ds => decide (uptoBulkAll ds ≤ 1048576)
def OpenSpec.upto (s : _root_.Go.ChangeSpec) : _root_.Go.OpenSpec := { _root_.Go.OpenSpec.ofChange s with cond := some uptoSmall }

/-- 'laws.FnExactEasyRules', WHERE WHAT IT READS IS OF BULK AT MOST 1048576: true; the input reads as it did. -/
def fnExactEasyRulesUptoRow : OpenClaim := { program := "ytoeobpdgfhgpiaa", sum := "4f35afa757ee3fc8faa297d4ccdeb99e8248a07eabf62976798c5973ea2e7163", func := "loop.example/g03010/laws.FnExactEasyRules", spec := "fnExactEasyRules", apart := false, narrowed := true }
def FnExactEasyRulesUptoSaid : Prop := fnExactEasyRulesUptoRow.holds Try.pinned (OpenSpec.upto fnExactEasyRulesSpec)

/-- 'laws.FnExactStacked', WHERE WHAT IT READS IS OF BULK AT MOST 1048576: true; the input reads as it did. -/
def fnExactStackedUptoRow : OpenClaim := { program := "ytoeobpdgfhgpiaa", sum := "4f35afa757ee3fc8faa297d4ccdeb99e8248a07eabf62976798c5973ea2e7163", func := "loop.example/g03010/laws.FnExactStacked", spec := "fnExactStacked", unfollowed := true, recurses := true, apart := false, narrowed := true }
def FnExactStackedUptoSaid : Prop := fnExactStackedUptoRow.holds Try.pinned (OpenSpec.upto fnExactStackedSpec)

/-- 'laws.FnExactLifted', WHERE WHAT IT READS IS OF BULK AT MOST 1048576: true; the input reads as it did. -/
def fnExactLiftedUptoRow : OpenClaim := { program := "ytoeobpdgfhgpiaa", sum := "4f35afa757ee3fc8faa297d4ccdeb99e8248a07eabf62976798c5973ea2e7163", func := "loop.example/g03010/laws.FnExactLifted", spec := "fnExactLifted", unfollowed := true, recurses := true, apart := false, narrowed := true }
def FnExactLiftedUptoSaid : Prop := fnExactLiftedUptoRow.holds Try.pinned (OpenSpec.upto fnExactLiftedSpec)

end Rows
end Go.Proofs.Ytoeobpdgfhgpiaa
