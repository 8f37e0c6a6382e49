/-
  No cell of these rows narrows 'for every input' (looked for: loops, veiled, ifaces, maps, wideKeys, modest, calm, conditions, laid).
  DERIVED. THE GIVEN ROWS OF THIS SEAT. 8 by the template 'for every input the law returns true; each argument reads behind the call as it read before'; 0 by the template 'total and deterministic' (their statements: YtbndjhdgoldnhaaTotals.lean).
  GIVEN WITH THE SEED: the statements are not yours to turn. If you find one false, say at which input.
  Laid BY PROGRAM, IN A SANDBOX (cutbox-rows.mjs): the forced cells as the released guide's own fill.sh prints them over the translation 4b2165daf4ea3849… (all of the seat's roots in one cut). By AI agents, Wed Nov 11 2026. No macro, syntax, notation, axiom, sorry.
-/
import Derived.Test.YtbndjhdgoldnhaaChecked
import GoSem.Claim
import GoSem.ClaimJoined
import GoSem.ClaimMapViews
import Derived.JoinedTies
import Derived.KernelRfl
namespace Go.Proofs.Ytbndjhdgoldnhaa
/- THE CELL 'sum', in the pinned program and in every row, IS THE sha256 OF THE DUMP (.gsa) THAT YtbndjhdgoldnhaaProg.lean LOADS. Nothing in Lean hashes anything: it is a label: what it is worth is what the hold of that sum in a sandbox is worth. -/
noncomputable def Try.pinned : Pinned := { name := "ytbndjhdgoldnhaa", sum := "4b2165daf4ea38499b5a98c9fbed7de8295248b028fbe39ec41327f9941f2116", checked := Try.checked }
namespace Rows
def none {H : Type} : Left H := { results := [], args := [] }

/-- 'laws.FnExactIsRound': WHATEVER THE INPUT: true; the input reads as it did. -/
def fnExactIsRoundSpec : ChangeSpec := { name := "fnExactIsRound", fn := fun _ => fun
  | [d1, d2] => { results := [.lit (.bool true)], args := [d1, d2] }
  | _ => none }
def fnExactIsRoundRow : OpenClaim := { program := "ytbndjhdgoldnhaa", sum := "4b2165daf4ea38499b5a98c9fbed7de8295248b028fbe39ec41327f9941f2116", func := "loop.example/g03010/laws.FnExactIsRound", spec := "fnExactIsRound", apart := false }
def FnExactIsRoundSaid : Prop := fnExactIsRoundRow.holds Try.pinned (OpenSpec.ofChange fnExactIsRoundSpec)

/-- ITS FALSE NEIGHBOUR: 'it returns false'. Refute it at one input. -/
def fnExactIsRoundWrong : ChangeSpec := { name := "fnExactIsRound", fn := fun _ => fun
  | [d1, d2] => { results := [.lit (.bool false)], args := [d1, d2] }
  | _ => none }
def FnExactIsRoundWrongFalsely : Prop := fnExactIsRoundRow.holds Try.pinned (OpenSpec.ofChange fnExactIsRoundWrong)

/-- 'laws.FnExactMostOf': WHATEVER THE INPUT: true; the input reads as it did. -/
def fnExactMostOfSpec : ChangeSpec := { name := "fnExactMostOf", fn := fun _ => fun
  | [d] => { results := [.lit (.bool true)], args := [d] }
  | _ => none }
def fnExactMostOfRow : OpenClaim := { program := "ytbndjhdgoldnhaa", sum := "4b2165daf4ea38499b5a98c9fbed7de8295248b028fbe39ec41327f9941f2116", func := "loop.example/g03010/laws.FnExactMostOf", spec := "fnExactMostOf", apart := false }
def FnExactMostOfSaid : Prop := fnExactMostOfRow.holds Try.pinned (OpenSpec.ofChange fnExactMostOfSpec)

/-- ITS FALSE NEIGHBOUR: 'it returns false'. Refute it at one input. -/
def fnExactMostOfWrong : ChangeSpec := { name := "fnExactMostOf", fn := fun _ => fun
  | [d] => { results := [.lit (.bool false)], args := [d] }
  | _ => none }
def FnExactMostOfWrongFalsely : Prop := fnExactMostOfRow.holds Try.pinned (OpenSpec.ofChange fnExactMostOfWrong)

/-- 'laws.FnExactSuitCounts': WHATEVER THE INPUT: true; the input reads as it did. -/
def fnExactSuitCountsSpec : ChangeSpec := { name := "fnExactSuitCounts", fn := fun _ => fun
  | [d] => { results := [.lit (.bool true)], args := [d] }
  | _ => none }
def fnExactSuitCountsRow : OpenClaim := { program := "ytbndjhdgoldnhaa", sum := "4b2165daf4ea38499b5a98c9fbed7de8295248b028fbe39ec41327f9941f2116", func := "loop.example/g03010/laws.FnExactSuitCounts", spec := "fnExactSuitCounts", apart := false }
def FnExactSuitCountsSaid : Prop := fnExactSuitCountsRow.holds Try.pinned (OpenSpec.ofChange fnExactSuitCountsSpec)

/-- ITS FALSE NEIGHBOUR: 'it returns false'. Refute it at one input. -/
def fnExactSuitCountsWrong : ChangeSpec := { name := "fnExactSuitCounts", fn := fun _ => fun
  | [d] => { results := [.lit (.bool false)], args := [d] }
  | _ => none }
def FnExactSuitCountsWrongFalsely : Prop := fnExactSuitCountsRow.holds Try.pinned (OpenSpec.ofChange fnExactSuitCountsWrong)

/-- 'laws.FnExactFromTricks': WHATEVER THE INPUT: true; the input reads as it did. -/
def fnExactFromTricksSpec : ChangeSpec := { name := "fnExactFromTricks", fn := fun _ => fun
  | [d] => { results := [.lit (.bool true)], args := [d] }
  | _ => none }
def fnExactFromTricksRow : OpenClaim := { program := "ytbndjhdgoldnhaa", sum := "4b2165daf4ea38499b5a98c9fbed7de8295248b028fbe39ec41327f9941f2116", func := "loop.example/g03010/laws.FnExactFromTricks", spec := "fnExactFromTricks", unfollowed := true, recurses := true, apart := false }
def FnExactFromTricksSaid : Prop := fnExactFromTricksRow.holds Try.pinned (OpenSpec.ofChange fnExactFromTricksSpec)

/-- ITS FALSE NEIGHBOUR: 'it returns false'. Refute it at one input. -/
def fnExactFromTricksWrong : ChangeSpec := { name := "fnExactFromTricks", fn := fun _ => fun
  | [d] => { results := [.lit (.bool false)], args := [d] }
  | _ => none }
def FnExactFromTricksWrongFalsely : Prop := fnExactFromTricksRow.holds Try.pinned (OpenSpec.ofChange fnExactFromTricksWrong)

/-- 'laws.FnExactIsBase': WHATEVER THE INPUT: true; the input reads as it did. -/
def fnExactIsBaseSpec : ChangeSpec := { name := "fnExactIsBase", fn := fun _ => fun
  | [d] => { results := [.lit (.bool true)], args := [d] }
  | _ => none }
def fnExactIsBaseRow : OpenClaim := { program := "ytbndjhdgoldnhaa", sum := "4b2165daf4ea38499b5a98c9fbed7de8295248b028fbe39ec41327f9941f2116", func := "loop.example/g03010/laws.FnExactIsBase", spec := "fnExactIsBase", apart := false }
def FnExactIsBaseSaid : Prop := fnExactIsBaseRow.holds Try.pinned (OpenSpec.ofChange fnExactIsBaseSpec)

/-- ITS FALSE NEIGHBOUR: 'it returns false'. Refute it at one input. -/
def fnExactIsBaseWrong : ChangeSpec := { name := "fnExactIsBase", fn := fun _ => fun
  | [d] => { results := [.lit (.bool false)], args := [d] }
  | _ => none }
def FnExactIsBaseWrongFalsely : Prop := fnExactIsBaseRow.holds Try.pinned (OpenSpec.ofChange fnExactIsBaseWrong)

/-- 'laws.FnExactChoose': WHATEVER THE INPUT: true; the input reads as it did. -/
def fnExactChooseSpec : ChangeSpec := { name := "fnExactChoose", fn := fun _ => fun
  | [d1, d2] => { results := [.lit (.bool true)], args := [d1, d2] }
  | _ => none }
def fnExactChooseRow : OpenClaim := { program := "ytbndjhdgoldnhaa", sum := "4b2165daf4ea38499b5a98c9fbed7de8295248b028fbe39ec41327f9941f2116", func := "loop.example/g03010/laws.FnExactChoose", spec := "fnExactChoose", apart := false }
def FnExactChooseSaid : Prop := fnExactChooseRow.holds Try.pinned (OpenSpec.ofChange fnExactChooseSpec)

/-- ITS FALSE NEIGHBOUR: 'it returns false'. Refute it at one input. -/
def fnExactChooseWrong : ChangeSpec := { name := "fnExactChoose", fn := fun _ => fun
  | [d1, d2] => { results := [.lit (.bool false)], args := [d1, d2] }
  | _ => none }
def FnExactChooseWrongFalsely : Prop := fnExactChooseRow.holds Try.pinned (OpenSpec.ofChange fnExactChooseWrong)

/-- 'laws.FnExactWaysWith': WHATEVER THE INPUT: true; the input reads as it did. -/
def fnExactWaysWithSpec : ChangeSpec := { name := "fnExactWaysWith", fn := fun _ => fun
  | [d1, d2, d3, d4] => { results := [.lit (.bool true)], args := [d1, d2, d3, d4] }
  | _ => none }
def fnExactWaysWithRow : OpenClaim := { program := "ytbndjhdgoldnhaa", sum := "4b2165daf4ea38499b5a98c9fbed7de8295248b028fbe39ec41327f9941f2116", func := "loop.example/g03010/laws.FnExactWaysWith", spec := "fnExactWaysWith", apart := false }
def FnExactWaysWithSaid : Prop := fnExactWaysWithRow.holds Try.pinned (OpenSpec.ofChange fnExactWaysWithSpec)

/-- ITS FALSE NEIGHBOUR: 'it returns false'. Refute it at one input. -/
def fnExactWaysWithWrong : ChangeSpec := { name := "fnExactWaysWith", fn := fun _ => fun
  | [d1, d2, d3, d4] => { results := [.lit (.bool false)], args := [d1, d2, d3, d4] }
  | _ => none }
def FnExactWaysWithWrongFalsely : Prop := fnExactWaysWithRow.holds Try.pinned (OpenSpec.ofChange fnExactWaysWithWrong)

/-- 'laws.FnExactWaysAtLeast': WHATEVER THE INPUT: true; the input reads as it did. -/
def fnExactWaysAtLeastSpec : ChangeSpec := { name := "fnExactWaysAtLeast", fn := fun _ => fun
  | [d1, d2, d3, d4] => { results := [.lit (.bool true)], args := [d1, d2, d3, d4] }
  | _ => none }
def fnExactWaysAtLeastRow : OpenClaim := { program := "ytbndjhdgoldnhaa", sum := "4b2165daf4ea38499b5a98c9fbed7de8295248b028fbe39ec41327f9941f2116", func := "loop.example/g03010/laws.FnExactWaysAtLeast", spec := "fnExactWaysAtLeast", apart := false }
def FnExactWaysAtLeastSaid : Prop := fnExactWaysAtLeastRow.holds Try.pinned (OpenSpec.ofChange fnExactWaysAtLeastSpec)

/-- ITS FALSE NEIGHBOUR: 'it returns false'. Refute it at one input. -/
def fnExactWaysAtLeastWrong : ChangeSpec := { name := "fnExactWaysAtLeast", fn := fun _ => fun
  | [d1, d2, d3, d4] => { results := [.lit (.bool false)], args := [d1, d2, d3, d4] }
  | _ => none }
def FnExactWaysAtLeastWrongFalsely : Prop := fnExactWaysAtLeastRow.holds Try.pinned (OpenSpec.ofChange fnExactWaysAtLeastWrong)

/- THE SECOND FORM. 'bulk': how many values and letters a reading holds, each counted each time it is reached (what is shared counts as often as it is met; a slice's spare places count too). A statement '..UptoSaid' is the law's where the arguments, and the package variables that the reading takes, are together of bulk at most 1048576: NARROWER than '..Said'. Prove '..Said' where nothing that the law and all that it calls make is longer than what came in: it says more and counts as full. Else prove '..UptoSaid'. A law counts once. -/
mutual
def uptoBulk {H : Type} : DataW H → Nat
  | .lit (.string bytes) => bytes.length + 1
  | .lit _ => 1
  | .nil => 1
  | .ptr d => uptoBulk d + 1
  | .slice elems spare => uptoBulkAll elems + uptoBulkAll spare + 1
  | .agg parts => uptoBulkAll parts + 1
  | .iface _ d => uptoBulk d + 1
  | .map entries => uptoBulkEntries entries + 1
  | .held _ => 1
def uptoBulkAll {H : Type} : List (DataW H) → Nat
  | [] => 0
  | d :: r => uptoBulk d + uptoBulkAll r
def uptoBulkEntries {H : Type} : List (Lit × DataW H) → Nat
  | [] => 0
  | x :: r => uptoBulkEntry x + uptoBulkEntries r
def uptoBulkEntry {H : Type} : Lit × DataW H → Nat
  | (.string bytes, d) => bytes.length + uptoBulk d + 1
  | (_, d) => uptoBulk d + 1
 end
def uptoSmall : (H : Type) → List (DataW H) → Bool := fun _ ds => decide (uptoBulkAll ds ≤ 1048576)
def OpenSpec.upto (s : _root_.Go.ChangeSpec) : _root_.Go.OpenSpec := { _root_.Go.OpenSpec.ofChange s with cond := some uptoSmall }

/-- 'laws.FnExactIsRound', WHERE WHAT IT READS IS OF BULK AT MOST 1048576: true; the input reads as it did. -/
def fnExactIsRoundUptoRow : OpenClaim := { program := "ytbndjhdgoldnhaa", sum := "4b2165daf4ea38499b5a98c9fbed7de8295248b028fbe39ec41327f9941f2116", func := "loop.example/g03010/laws.FnExactIsRound", spec := "fnExactIsRound", apart := false, narrowed := true }
def FnExactIsRoundUptoSaid : Prop := fnExactIsRoundUptoRow.holds Try.pinned (OpenSpec.upto fnExactIsRoundSpec)

/-- 'laws.FnExactMostOf', WHERE WHAT IT READS IS OF BULK AT MOST 1048576: true; the input reads as it did. -/
def fnExactMostOfUptoRow : OpenClaim := { program := "ytbndjhdgoldnhaa", sum := "4b2165daf4ea38499b5a98c9fbed7de8295248b028fbe39ec41327f9941f2116", func := "loop.example/g03010/laws.FnExactMostOf", spec := "fnExactMostOf", apart := false, narrowed := true }
def FnExactMostOfUptoSaid : Prop := fnExactMostOfUptoRow.holds Try.pinned (OpenSpec.upto fnExactMostOfSpec)

/-- 'laws.FnExactSuitCounts', WHERE WHAT IT READS IS OF BULK AT MOST 1048576: true; the input reads as it did. -/
def fnExactSuitCountsUptoRow : OpenClaim := { program := "ytbndjhdgoldnhaa", sum := "4b2165daf4ea38499b5a98c9fbed7de8295248b028fbe39ec41327f9941f2116", func := "loop.example/g03010/laws.FnExactSuitCounts", spec := "fnExactSuitCounts", apart := false, narrowed := true }
def FnExactSuitCountsUptoSaid : Prop := fnExactSuitCountsUptoRow.holds Try.pinned (OpenSpec.upto fnExactSuitCountsSpec)

/-- 'laws.FnExactFromTricks', WHERE WHAT IT READS IS OF BULK AT MOST 1048576: true; the input reads as it did. -/
def fnExactFromTricksUptoRow : OpenClaim := { program := "ytbndjhdgoldnhaa", sum := "4b2165daf4ea38499b5a98c9fbed7de8295248b028fbe39ec41327f9941f2116", func := "loop.example/g03010/laws.FnExactFromTricks", spec := "fnExactFromTricks", unfollowed := true, recurses := true, apart := false, narrowed := true }
def FnExactFromTricksUptoSaid : Prop := fnExactFromTricksUptoRow.holds Try.pinned (OpenSpec.upto fnExactFromTricksSpec)

/-- 'laws.FnExactIsBase', WHERE WHAT IT READS IS OF BULK AT MOST 1048576: true; the input reads as it did. -/
def fnExactIsBaseUptoRow : OpenClaim := { program := "ytbndjhdgoldnhaa", sum := "4b2165daf4ea38499b5a98c9fbed7de8295248b028fbe39ec41327f9941f2116", func := "loop.example/g03010/laws.FnExactIsBase", spec := "fnExactIsBase", apart := false, narrowed := true }
def FnExactIsBaseUptoSaid : Prop := fnExactIsBaseUptoRow.holds Try.pinned (OpenSpec.upto fnExactIsBaseSpec)

/-- 'laws.FnExactChoose', WHERE WHAT IT READS IS OF BULK AT MOST 1048576: true; the input reads as it did. -/
def fnExactChooseUptoRow : OpenClaim := { program := "ytbndjhdgoldnhaa", sum := "4b2165daf4ea38499b5a98c9fbed7de8295248b028fbe39ec41327f9941f2116", func := "loop.example/g03010/laws.FnExactChoose", spec := "fnExactChoose", apart := false, narrowed := true }
def FnExactChooseUptoSaid : Prop := fnExactChooseUptoRow.holds Try.pinned (OpenSpec.upto fnExactChooseSpec)

/-- 'laws.FnExactWaysWith', WHERE WHAT IT READS IS OF BULK AT MOST 1048576: true; the input reads as it did. -/
def fnExactWaysWithUptoRow : OpenClaim := { program := "ytbndjhdgoldnhaa", sum := "4b2165daf4ea38499b5a98c9fbed7de8295248b028fbe39ec41327f9941f2116", func := "loop.example/g03010/laws.FnExactWaysWith", spec := "fnExactWaysWith", apart := false, narrowed := true }
def FnExactWaysWithUptoSaid : Prop := fnExactWaysWithUptoRow.holds Try.pinned (OpenSpec.upto fnExactWaysWithSpec)

/-- 'laws.FnExactWaysAtLeast', WHERE WHAT IT READS IS OF BULK AT MOST 1048576: true; the input reads as it did. -/
def fnExactWaysAtLeastUptoRow : OpenClaim := { program := "ytbndjhdgoldnhaa", sum := "4b2165daf4ea38499b5a98c9fbed7de8295248b028fbe39ec41327f9941f2116", func := "loop.example/g03010/laws.FnExactWaysAtLeast", spec := "fnExactWaysAtLeast", apart := false, narrowed := true }
def FnExactWaysAtLeastUptoSaid : Prop := fnExactWaysAtLeastUptoRow.holds Try.pinned (OpenSpec.upto fnExactWaysAtLeastSpec)

end Rows
end Go.Proofs.Ytbndjhdgoldnhaa
