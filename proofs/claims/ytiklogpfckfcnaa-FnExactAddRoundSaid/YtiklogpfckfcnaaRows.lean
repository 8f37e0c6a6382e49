/-
  No cell of these rows narrows 'for every input' (looked for: loops, veiled, ifaces, maps, wideKeys, modest, calm, conditions, laid).
  DERIVED. THE GIVEN ROWS OF THIS SEAT. 6 by the template 'for every input the law returns true; each argument reads behind the call as it read before'; 0 by the template 'total and deterministic' (their statements: YtiklogpfckfcnaaTotals.lean).
  GIVEN WITH THE SEED: the statements are not yours to turn. If you find one false, say at which input.
  Laid BY PROGRAM, IN A SANDBOX (cutbox-rows.mjs): the forced cells as the released guide's own fill.sh prints them over the translation 3fd61b19a9411361… (all of the seat's roots in one cut). By AI agents, Wed Nov 11 2026. No macro, syntax, notation, axiom, sorry.
-/
import Derived.Test.YtiklogpfckfcnaaChecked
import GoSem.Claim
import GoSem.ClaimJoined
import GoSem.ClaimMapViews
import Derived.JoinedTies
import Derived.KernelRfl
namespace Go.Proofs.Ytiklogpfckfcnaa
/- THE CELL 'sum', in the pinned program and in every row, IS THE sha256 OF THE DUMP (.gsa) THAT YtiklogpfckfcnaaProg.lean LOADS. Nothing in Lean hashes anything: it is a label: what it is worth is what the hold of that sum in a sandbox is worth. -/
noncomputable def Try.pinned : Pinned := { name := "ytiklogpfckfcnaa", sum := "3fd61b19a94113613eb27fedfd08fe8fdc932dba1479124241b4dd51cfbbe23d", checked := Try.checked }
namespace Rows
def none {H : Type} : Left H := { results := [], args := [] }

/-- 'laws.FnExactIsSheet': WHATEVER THE INPUT: true; the input reads as it did. -/
def fnExactIsSheetSpec : ChangeSpec := { name := "fnExactIsSheet", fn := fun _ => fun
  | [d1, d2] => { results := [.lit (.bool true)], args := [d1, d2] }
  | _ => none }
def fnExactIsSheetRow : OpenClaim := { program := "ytiklogpfckfcnaa", sum := "3fd61b19a94113613eb27fedfd08fe8fdc932dba1479124241b4dd51cfbbe23d", func := "loop.example/g03010/laws.FnExactIsSheet", spec := "fnExactIsSheet", apart := false }
def FnExactIsSheetSaid : Prop := fnExactIsSheetRow.holds Try.pinned (OpenSpec.ofChange fnExactIsSheetSpec)

/-- ITS FALSE NEIGHBOUR: 'it returns false'. Refute it at one input. -/
def fnExactIsSheetWrong : ChangeSpec := { name := "fnExactIsSheet", fn := fun _ => fun
  | [d1, d2] => { results := [.lit (.bool false)], args := [d1, d2] }
  | _ => none }
def FnExactIsSheetWrongFalsely : Prop := fnExactIsSheetRow.holds Try.pinned (OpenSpec.ofChange fnExactIsSheetWrong)

/-- 'laws.FnExactTotalOf': WHATEVER THE INPUT: true; the input reads as it did. -/
def fnExactTotalOfSpec : ChangeSpec := { name := "fnExactTotalOf", fn := fun _ => fun
  | [d1, d2, d3] => { results := [.lit (.bool true)], args := [d1, d2, d3] }
  | _ => none }
def fnExactTotalOfRow : OpenClaim := { program := "ytiklogpfckfcnaa", sum := "3fd61b19a94113613eb27fedfd08fe8fdc932dba1479124241b4dd51cfbbe23d", func := "loop.example/g03010/laws.FnExactTotalOf", spec := "fnExactTotalOf", apart := false }
def FnExactTotalOfSaid : Prop := fnExactTotalOfRow.holds Try.pinned (OpenSpec.ofChange fnExactTotalOfSpec)

/-- ITS FALSE NEIGHBOUR: 'it returns false'. Refute it at one input. -/
def fnExactTotalOfWrong : ChangeSpec := { name := "fnExactTotalOf", fn := fun _ => fun
  | [d1, d2, d3] => { results := [.lit (.bool false)], args := [d1, d2, d3] }
  | _ => none }
def FnExactTotalOfWrongFalsely : Prop := fnExactTotalOfRow.holds Try.pinned (OpenSpec.ofChange fnExactTotalOfWrong)

/-- 'laws.FnExactAheadIn': WHATEVER THE INPUT: true; the input reads as it did. -/
def fnExactAheadInSpec : ChangeSpec := { name := "fnExactAheadIn", fn := fun _ => fun
  | [d1, d2] => { results := [.lit (.bool true)], args := [d1, d2] }
  | _ => none }
def fnExactAheadInRow : OpenClaim := { program := "ytiklogpfckfcnaa", sum := "3fd61b19a94113613eb27fedfd08fe8fdc932dba1479124241b4dd51cfbbe23d", func := "loop.example/g03010/laws.FnExactAheadIn", spec := "fnExactAheadIn", apart := false }
def FnExactAheadInSaid : Prop := fnExactAheadInRow.holds Try.pinned (OpenSpec.ofChange fnExactAheadInSpec)

/-- ITS FALSE NEIGHBOUR: 'it returns false'. Refute it at one input. -/
def fnExactAheadInWrong : ChangeSpec := { name := "fnExactAheadIn", fn := fun _ => fun
  | [d1, d2] => { results := [.lit (.bool false)], args := [d1, d2] }
  | _ => none }
def FnExactAheadInWrongFalsely : Prop := fnExactAheadInRow.holds Try.pinned (OpenSpec.ofChange fnExactAheadInWrong)

/-- 'laws.FnExactIsZeroSum': WHATEVER THE INPUT: true; the input reads as it did. -/
def fnExactIsZeroSumSpec : ChangeSpec := { name := "fnExactIsZeroSum", fn := fun _ => fun
  | [d] => { results := [.lit (.bool true)], args := [d] }
  | _ => none }
def fnExactIsZeroSumRow : OpenClaim := { program := "ytiklogpfckfcnaa", sum := "3fd61b19a94113613eb27fedfd08fe8fdc932dba1479124241b4dd51cfbbe23d", func := "loop.example/g03010/laws.FnExactIsZeroSum", spec := "fnExactIsZeroSum", apart := false }
def FnExactIsZeroSumSaid : Prop := fnExactIsZeroSumRow.holds Try.pinned (OpenSpec.ofChange fnExactIsZeroSumSpec)

/-- ITS FALSE NEIGHBOUR: 'it returns false'. Refute it at one input. -/
def fnExactIsZeroSumWrong : ChangeSpec := { name := "fnExactIsZeroSum", fn := fun _ => fun
  | [d] => { results := [.lit (.bool false)], args := [d] }
  | _ => none }
def FnExactIsZeroSumWrongFalsely : Prop := fnExactIsZeroSumRow.holds Try.pinned (OpenSpec.ofChange fnExactIsZeroSumWrong)

/-- 'laws.FnExactWinsOf': WHATEVER THE INPUT: true; the input reads as it did. -/
def fnExactWinsOfSpec : ChangeSpec := { name := "fnExactWinsOf", fn := fun _ => fun
  | [d1, d2, d3] => { results := [.lit (.bool true)], args := [d1, d2, d3] }
  | _ => none }
def fnExactWinsOfRow : OpenClaim := { program := "ytiklogpfckfcnaa", sum := "3fd61b19a94113613eb27fedfd08fe8fdc932dba1479124241b4dd51cfbbe23d", func := "loop.example/g03010/laws.FnExactWinsOf", spec := "fnExactWinsOf", unfollowed := true, recurses := true, apart := false }
def FnExactWinsOfSaid : Prop := fnExactWinsOfRow.holds Try.pinned (OpenSpec.ofChange fnExactWinsOfSpec)

/-- ITS FALSE NEIGHBOUR: 'it returns false'. Refute it at one input. -/
def fnExactWinsOfWrong : ChangeSpec := { name := "fnExactWinsOf", fn := fun _ => fun
  | [d1, d2, d3] => { results := [.lit (.bool false)], args := [d1, d2, d3] }
  | _ => none }
def FnExactWinsOfWrongFalsely : Prop := fnExactWinsOfRow.holds Try.pinned (OpenSpec.ofChange fnExactWinsOfWrong)

/-- 'laws.FnExactAddRound': WHATEVER THE INPUT: true; the input reads as it did. -/
def fnExactAddRoundSpec : ChangeSpec := { name := "fnExactAddRound", fn := fun _ => fun
  | [d1, d2, d3] => { results := [.lit (.bool true)], args := [d1, d2, d3] }
  | _ => none }
def fnExactAddRoundRow : OpenClaim := { program := "ytiklogpfckfcnaa", sum := "3fd61b19a94113613eb27fedfd08fe8fdc932dba1479124241b4dd51cfbbe23d", func := "loop.example/g03010/laws.FnExactAddRound", spec := "fnExactAddRound", apart := false }
def FnExactAddRoundSaid : Prop := fnExactAddRoundRow.holds Try.pinned (OpenSpec.ofChange fnExactAddRoundSpec)

/-- ITS FALSE NEIGHBOUR: 'it returns false'. Refute it at one input. -/
def fnExactAddRoundWrong : ChangeSpec := { name := "fnExactAddRound", fn := fun _ => fun
  | [d1, d2, d3] => { results := [.lit (.bool false)], args := [d1, d2, d3] }
  | _ => none }
def FnExactAddRoundWrongFalsely : Prop := fnExactAddRoundRow.holds Try.pinned (OpenSpec.ofChange fnExactAddRoundWrong)

/- THE SECOND FORM. 'bulk': how many values and letters a reading holds, each counted each time it is reached (what is shared counts as often as it is met; a slice's spare places count too). A statement '..UptoSaid' is the law's where the arguments, and the package variables that the reading takes, are together of bulk at most 1048576: NARROWER than '..Said'. Prove '..Said' where nothing that the law and all that it calls make is longer than what came in: it says more and counts as full. Else prove '..UptoSaid'. A law counts once. -/
mutual
def uptoBulk {H : Type} : DataW H → Nat
  | .lit (.string bytes) => bytes.length + 1
  | .lit _ => 1
  | .nil => 1
  | .ptr d => uptoBulk d + 1
  | .slice elems spare => uptoBulkAll elems + uptoBulkAll spare + 1
  | .agg parts => uptoBulkAll parts + 1
  | .iface _ d => uptoBulk d + 1
  | .map entries => uptoBulkEntries entries + 1
  | .held _ => 1
def uptoBulkAll {H : Type} : List (DataW H) → Nat
  | [] => 0
  | d :: r => uptoBulk d + uptoBulkAll r
def uptoBulkEntries {H : Type} : List (Lit × DataW H) → Nat
  | [] => 0
  | x :: r => uptoBulkEntry x + uptoBulkEntries r
def uptoBulkEntry {H : Type} : Lit × DataW H → Nat
  | (.string bytes, d) => bytes.length + uptoBulk d + 1
  | (_, d) => uptoBulk d + 1
 end
def uptoSmall : (H : Type) → List (DataW H) → Bool := fun _ ds => decide (uptoBulkAll ds ≤ 1048576)
def OpenSpec.upto (s : _root_.Go.ChangeSpec) : _root_.Go.OpenSpec := { _root_.Go.OpenSpec.ofChange s with cond := some uptoSmall }

/-- 'laws.FnExactIsSheet', WHERE WHAT IT READS IS OF BULK AT MOST 1048576: true; the input reads as it did. -/
def fnExactIsSheetUptoRow : OpenClaim := { program := "ytiklogpfckfcnaa", sum := "3fd61b19a94113613eb27fedfd08fe8fdc932dba1479124241b4dd51cfbbe23d", func := "loop.example/g03010/laws.FnExactIsSheet", spec := "fnExactIsSheet", apart := false, narrowed := true }
def FnExactIsSheetUptoSaid : Prop := fnExactIsSheetUptoRow.holds Try.pinned (OpenSpec.upto fnExactIsSheetSpec)

/-- 'laws.FnExactTotalOf', WHERE WHAT IT READS IS OF BULK AT MOST 1048576: true; the input reads as it did. -/
def fnExactTotalOfUptoRow : OpenClaim := { program := "ytiklogpfckfcnaa", sum := "3fd61b19a94113613eb27fedfd08fe8fdc932dba1479124241b4dd51cfbbe23d", func := "loop.example/g03010/laws.FnExactTotalOf", spec := "fnExactTotalOf", apart := false, narrowed := true }
def FnExactTotalOfUptoSaid : Prop := fnExactTotalOfUptoRow.holds Try.pinned (OpenSpec.upto fnExactTotalOfSpec)

/-- 'laws.FnExactAheadIn', WHERE WHAT IT READS IS OF BULK AT MOST 1048576: true; the input reads as it did. -/
def fnExactAheadInUptoRow : OpenClaim := { program := "ytiklogpfckfcnaa", sum := "3fd61b19a94113613eb27fedfd08fe8fdc932dba1479124241b4dd51cfbbe23d", func := "loop.example/g03010/laws.FnExactAheadIn", spec := "fnExactAheadIn", apart := false, narrowed := true }
def FnExactAheadInUptoSaid : Prop := fnExactAheadInUptoRow.holds Try.pinned (OpenSpec.upto fnExactAheadInSpec)

/-- 'laws.FnExactIsZeroSum', WHERE WHAT IT READS IS OF BULK AT MOST 1048576: true; the input reads as it did. -/
def fnExactIsZeroSumUptoRow : OpenClaim := { program := "ytiklogpfckfcnaa", sum := "3fd61b19a94113613eb27fedfd08fe8fdc932dba1479124241b4dd51cfbbe23d", func := "loop.example/g03010/laws.FnExactIsZeroSum", spec := "fnExactIsZeroSum", apart := false, narrowed := true }
def FnExactIsZeroSumUptoSaid : Prop := fnExactIsZeroSumUptoRow.holds Try.pinned (OpenSpec.upto fnExactIsZeroSumSpec)

/-- 'laws.FnExactWinsOf', WHERE WHAT IT READS IS OF BULK AT MOST 1048576: true; the input reads as it did. -/
def fnExactWinsOfUptoRow : OpenClaim := { program := "ytiklogpfckfcnaa", sum := "3fd61b19a94113613eb27fedfd08fe8fdc932dba1479124241b4dd51cfbbe23d", func := "loop.example/g03010/laws.FnExactWinsOf", spec := "fnExactWinsOf", unfollowed := true, recurses := true, apart := false, narrowed := true }
def FnExactWinsOfUptoSaid : Prop := fnExactWinsOfUptoRow.holds Try.pinned (OpenSpec.upto fnExactWinsOfSpec)

/-- 'laws.FnExactAddRound', WHERE WHAT IT READS IS OF BULK AT MOST 1048576: true; the input reads as it did. -/
def fnExactAddRoundUptoRow : OpenClaim := { program := "ytiklogpfckfcnaa", sum := "3fd61b19a94113613eb27fedfd08fe8fdc932dba1479124241b4dd51cfbbe23d", func := "loop.example/g03010/laws.FnExactAddRound", spec := "fnExactAddRound", apart := false, narrowed := true }
def FnExactAddRoundUptoSaid : Prop := fnExactAddRoundUptoRow.holds Try.pinned (OpenSpec.upto fnExactAddRoundSpec)

end Rows
end Go.Proofs.Ytiklogpfckfcnaa
