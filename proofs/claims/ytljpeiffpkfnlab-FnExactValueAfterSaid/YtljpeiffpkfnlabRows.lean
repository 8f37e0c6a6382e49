/-
  No cell of these rows narrows 'for every input' (looked for: loops, veiled, ifaces, maps, wideKeys, modest, calm, conditions, laid).
  DERIVED. THE GIVEN ROWS OF THIS SEAT. 4 by the template 'for every input the law returns true; each argument reads behind the call as it read before'; 0 by the template 'total and deterministic' (their statements: YtljpeiffpkfnlabTotals.lean).
  GIVEN WITH THE SEED: the statements are not yours to turn. If you find one false, say at which input.
  Laid BY PROGRAM, IN A SANDBOX (cutbox-rows.mjs): the forced cells as the released guide's own fill.sh prints them over the translation a5bd8d798a61aa36… (all of the seat's roots in one cut). By AI agents, Wed Nov 11 2026. No macro, syntax, notation, axiom, sorry.
-/
import Derived.Test.YtljpeiffpkfnlabChecked
import GoSem.Claim
import GoSem.ClaimJoined
import GoSem.ClaimMapViews
import Derived.JoinedTies
import Derived.KernelRfl
namespace Go.Proofs.Ytljpeiffpkfnlab
/- THE CELL 'sum', in the pinned program and in every row, IS THE sha256 OF THE DUMP (.gsa) THAT YtljpeiffpkfnlabProg.lean LOADS. Nothing in Lean hashes anything: it is a label: what it is worth is what the hold of that sum in a sandbox is worth. -/
noncomputable def Try.pinned : Pinned := { name := "ytljpeiffpkfnlab", sum := "a5bd8d798a61aa36e02b43aba3b72eff00f28cd687ee181f6ceb51927317c87d", checked := Try.checked }
namespace Rows
def none {H : Type} : Left H := { results := [], args := [] }

/-- 'laws.FnExactEqualRules': WHATEVER THE INPUT: true; the input reads as it did. -/
def fnExactEqualRulesSpec : ChangeSpec := { name := "fnExactEqualRules", fn := fun _ => fun
  | [d1, d2] => { results := [.lit (.bool true)], args := [d1, d2] }
  | _ => none }
def fnExactEqualRulesRow : OpenClaim := { program := "ytljpeiffpkfnlab", sum := "a5bd8d798a61aa36e02b43aba3b72eff00f28cd687ee181f6ceb51927317c87d", func := "loop.example/g03010/laws.FnExactEqualRules", spec := "fnExactEqualRules", apart := false }
def FnExactEqualRulesSaid : Prop := fnExactEqualRulesRow.holds Try.pinned (OpenSpec.ofChange fnExactEqualRulesSpec)

/-- ITS FALSE NEIGHBOUR: 'it returns false'. Refute it at one input. -/
def fnExactEqualRulesWrong : ChangeSpec := { name := "fnExactEqualRules", fn := fun _ => fun
  | [d1, d2] => { results := [.lit (.bool false)], args := [d1, d2] }
  | _ => none }
def FnExactEqualRulesWrongFalsely : Prop := fnExactEqualRulesRow.holds Try.pinned (OpenSpec.ofChange fnExactEqualRulesWrong)

/-- 'laws.FnExactValueAfter': WHATEVER THE INPUT: true; the input reads as it did. -/
def fnExactValueAfterSpec : ChangeSpec := { name := "fnExactValueAfter", fn := fun _ => fun
  | [d1, d2] => { results := [.lit (.bool true)], args := [d1, d2] }
  | _ => none }
def fnExactValueAfterRow : OpenClaim := { program := "ytljpeiffpkfnlab", sum := "a5bd8d798a61aa36e02b43aba3b72eff00f28cd687ee181f6ceb51927317c87d", func := "loop.example/g03010/laws.FnExactValueAfter", spec := "fnExactValueAfter", apart := false }
def FnExactValueAfterSaid : Prop := fnExactValueAfterRow.holds Try.pinned (OpenSpec.ofChange fnExactValueAfterSpec)

/-- ITS FALSE NEIGHBOUR: 'it returns false'. Refute it at one input. -/
def fnExactValueAfterWrong : ChangeSpec := { name := "fnExactValueAfter", fn := fun _ => fun
  | [d1, d2] => { results := [.lit (.bool false)], args := [d1, d2] }
  | _ => none }
def FnExactValueAfterWrongFalsely : Prop := fnExactValueAfterRow.holds Try.pinned (OpenSpec.ofChange fnExactValueAfterWrong)

/-- 'laws.FnExactRulesWord': WHATEVER THE INPUT: true; the input reads as it did. -/
def fnExactRulesWordSpec : ChangeSpec := { name := "fnExactRulesWord", fn := fun _ => fun
  | [d] => { results := [.lit (.bool true)], args := [d] }
  | _ => none }
def fnExactRulesWordRow : OpenClaim := { program := "ytljpeiffpkfnlab", sum := "a5bd8d798a61aa36e02b43aba3b72eff00f28cd687ee181f6ceb51927317c87d", func := "loop.example/g03010/laws.FnExactRulesWord", spec := "fnExactRulesWord", apart := false }
def FnExactRulesWordSaid : Prop := fnExactRulesWordRow.holds Try.pinned (OpenSpec.ofChange fnExactRulesWordSpec)

/-- ITS FALSE NEIGHBOUR: 'it returns false'. Refute it at one input. -/
def fnExactRulesWordWrong : ChangeSpec := { name := "fnExactRulesWord", fn := fun _ => fun
  | [d] => { results := [.lit (.bool false)], args := [d] }
  | _ => none }
def FnExactRulesWordWrongFalsely : Prop := fnExactRulesWordRow.holds Try.pinned (OpenSpec.ofChange fnExactRulesWordWrong)

/-- 'laws.FnExactMostOf': WHATEVER THE INPUT: true; the input reads as it did. -/
def fnExactMostOfSpec : ChangeSpec := { name := "fnExactMostOf", fn := fun _ => fun
  | [d] => { results := [.lit (.bool true)], args := [d] }
  | _ => none }
def fnExactMostOfRow : OpenClaim := { program := "ytljpeiffpkfnlab", sum := "a5bd8d798a61aa36e02b43aba3b72eff00f28cd687ee181f6ceb51927317c87d", func := "loop.example/g03010/laws.FnExactMostOf", spec := "fnExactMostOf", apart := false }
def FnExactMostOfSaid : Prop := fnExactMostOfRow.holds Try.pinned (OpenSpec.ofChange fnExactMostOfSpec)

/-- ITS FALSE NEIGHBOUR: 'it returns false'. Refute it at one input. -/
def fnExactMostOfWrong : ChangeSpec := { name := "fnExactMostOf", fn := fun _ => fun
  | [d] => { results := [.lit (.bool false)], args := [d] }
  | _ => none }
def FnExactMostOfWrongFalsely : Prop := fnExactMostOfRow.holds Try.pinned (OpenSpec.ofChange fnExactMostOfWrong)

/- THE SECOND FORM. 'bulk': how many values and letters a reading holds, each counted each time it is reached (what is shared counts as often as it is met; a slice's spare places count too). A statement '..UptoSaid' is the law's where the arguments, and the package variables that the reading takes, are together of bulk at most 1048576: NARROWER than '..Said'. Prove '..Said' where nothing that the law and all that it calls make is longer than what came in: it says more and counts as full. Else prove '..UptoSaid'. A law counts once. -/
mutual
def uptoBulk {H : Type} : DataW H → Nat
  | .lit (.string bytes) => bytes.length + 1
  | .lit _ => 1
  | .nil => 1
  | .ptr d => uptoBulk d + 1
  | .slice elems spare => uptoBulkAll elems + uptoBulkAll spare + 1
  | .agg parts => uptoBulkAll parts + 1
  | .iface _ d => uptoBulk d + 1
  | .map entries => uptoBulkEntries entries + 1
  | .held _ => 1
def uptoBulkAll {H : Type} : List (DataW H) → Nat
  | [] => 0
  | d :: r => uptoBulk d + uptoBulkAll r
def uptoBulkEntries {H : Type} : List (Lit × DataW H) → Nat
  | [] => 0
  | x :: r => uptoBulkEntry x + uptoBulkEntries r
def uptoBulkEntry {H : Type} : Lit × DataW H → Nat
  | (.string bytes, d) => bytes.length + uptoBulk d + 1
  | (_, d) => uptoBulk d + 1
 end
def uptoSmall : (H : Type) → List (DataW H) → Bool := fun _ ds => decide (uptoBulkAll ds ≤ 1048576)
def OpenSpec.upto (s : _root_.Go.ChangeSpec) : _root_.Go.OpenSpec := { _root_.Go.OpenSpec.ofChange s with cond := some uptoSmall }

/-- 'laws.FnExactEqualRules', WHERE WHAT IT READS IS OF BULK AT MOST 1048576: true; the input reads as it did. -/
def fnExactEqualRulesUptoRow : OpenClaim := { program := "ytljpeiffpkfnlab", sum := "a5bd8d798a61aa36e02b43aba3b72eff00f28cd687ee181f6ceb51927317c87d", func := "loop.example/g03010/laws.FnExactEqualRules", spec := "fnExactEqualRules", apart := false, narrowed := true }
def FnExactEqualRulesUptoSaid : Prop := fnExactEqualRulesUptoRow.holds Try.pinned (OpenSpec.upto fnExactEqualRulesSpec)

/-- 'laws.FnExactValueAfter', WHERE WHAT IT READS IS OF BULK AT MOST 1048576: true; the input reads as it did. -/
def fnExactValueAfterUptoRow : OpenClaim := { program := "ytljpeiffpkfnlab", sum := "a5bd8d798a61aa36e02b43aba3b72eff00f28cd687ee181f6ceb51927317c87d", func := "loop.example/g03010/laws.FnExactValueAfter", spec := "fnExactValueAfter", apart := false, narrowed := true }
def FnExactValueAfterUptoSaid : Prop := fnExactValueAfterUptoRow.holds Try.pinned (OpenSpec.upto fnExactValueAfterSpec)

/-- 'laws.FnExactRulesWord', WHERE WHAT IT READS IS OF BULK AT MOST 1048576: true; the input reads as it did. -/
def fnExactRulesWordUptoRow : OpenClaim := { program := "ytljpeiffpkfnlab", sum := "a5bd8d798a61aa36e02b43aba3b72eff00f28cd687ee181f6ceb51927317c87d", func := "loop.example/g03010/laws.FnExactRulesWord", spec := "fnExactRulesWord", apart := false, narrowed := true }
def FnExactRulesWordUptoSaid : Prop := fnExactRulesWordUptoRow.holds Try.pinned (OpenSpec.upto fnExactRulesWordSpec)

/-- 'laws.FnExactMostOf', WHERE WHAT IT READS IS OF BULK AT MOST 1048576: true; the input reads as it did. -/
def fnExactMostOfUptoRow : OpenClaim := { program := "ytljpeiffpkfnlab", sum := "a5bd8d798a61aa36e02b43aba3b72eff00f28cd687ee181f6ceb51927317c87d", func := "loop.example/g03010/laws.FnExactMostOf", spec := "fnExactMostOf", apart := false, narrowed := true }
def FnExactMostOfUptoSaid : Prop := fnExactMostOfUptoRow.holds Try.pinned (OpenSpec.upto fnExactMostOfSpec)

end Rows
end Go.Proofs.Ytljpeiffpkfnlab
