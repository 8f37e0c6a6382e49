/-
  No cell of these rows narrows 'for every input' (looked for: loops, veiled, ifaces, maps, wideKeys, modest, calm, conditions, laid).
  DERIVED. THE GIVEN ROWS OF THIS SEAT. 7 by the template 'for every input the law returns true; each argument reads behind the call as it read before'; 0 by the template 'total and deterministic' (their statements: YthmbfkgahkihfaaTotals.lean).
  GIVEN WITH THE SEED: the statements are not yours to turn. If you find one false, say at which input.
  Laid BY PROGRAM, IN A SANDBOX (cutbox-rows.mjs): the forced cells as the released guide's own fill.sh prints them over the translation 7d204c5023305eb4… (all of the seat's roots in one cut). By AI agents, Wed Nov 11 2026. No macro, syntax, notation, axiom, sorry.
-/
import Derived.Test.YthmbfkgahkihfaaChecked
import GoSem.Claim
import GoSem.ClaimJoined
import GoSem.ClaimMapViews
import Derived.JoinedTies
import Derived.KernelRfl
namespace Go.Proofs.Ythmbfkgahkihfaa
/- THE CELL 'sum', in the pinned program and in every row, IS THE sha256 OF THE DUMP (.gsa) THAT YthmbfkgahkihfaaProg.lean LOADS. Nothing in Lean hashes anything: it is a label: what it is worth is what the hold of that sum in a sandbox is worth. -/
noncomputable def Try.pinned : Pinned := { name := "ythmbfkgahkihfaa", sum := "7d204c5023305eb496612ff26a000f0ed77f4753a6ef50b72deac00b22beeab9", checked := Try.checked }
namespace Rows
def none {H : Type} : Left H := { results := [], args := [] }

/-- 'laws.FnExactCardsHeld': WHATEVER THE INPUT: true; the input reads as it did. -/
def fnExactCardsHeldSpec : ChangeSpec := { name := "fnExactCardsHeld", fn := fun _ => fun
  | [d] => { results := [.lit (.bool true)], args := [d] }
  | _ => none }
def fnExactCardsHeldRow : OpenClaim := { program := "ythmbfkgahkihfaa", sum := "7d204c5023305eb496612ff26a000f0ed77f4753a6ef50b72deac00b22beeab9", func := "loop.example/g03010/laws.FnExactCardsHeld", spec := "fnExactCardsHeld", apart := false }
def FnExactCardsHeldSaid : Prop := fnExactCardsHeldRow.holds Try.pinned (OpenSpec.ofChange fnExactCardsHeldSpec)

/-- ITS FALSE NEIGHBOUR: 'it returns false'. Refute it at one input. -/
def fnExactCardsHeldWrong : ChangeSpec := { name := "fnExactCardsHeld", fn := fun _ => fun
  | [d] => { results := [.lit (.bool false)], args := [d] }
  | _ => none }
def FnExactCardsHeldWrongFalsely : Prop := fnExactCardsHeldRow.holds Try.pinned (OpenSpec.ofChange fnExactCardsHeldWrong)

/-- 'laws.FnExactLeftPoints': WHATEVER THE INPUT: true; the input reads as it did. -/
def fnExactLeftPointsSpec : ChangeSpec := { name := "fnExactLeftPoints", fn := fun _ => fun
  | [d] => { results := [.lit (.bool true)], args := [d] }
  | _ => none }
def fnExactLeftPointsRow : OpenClaim := { program := "ythmbfkgahkihfaa", sum := "7d204c5023305eb496612ff26a000f0ed77f4753a6ef50b72deac00b22beeab9", func := "loop.example/g03010/laws.FnExactLeftPoints", spec := "fnExactLeftPoints", apart := false }
def FnExactLeftPointsSaid : Prop := fnExactLeftPointsRow.holds Try.pinned (OpenSpec.ofChange fnExactLeftPointsSpec)

/-- ITS FALSE NEIGHBOUR: 'it returns false'. Refute it at one input. -/
def fnExactLeftPointsWrong : ChangeSpec := { name := "fnExactLeftPoints", fn := fun _ => fun
  | [d] => { results := [.lit (.bool false)], args := [d] }
  | _ => none }
def FnExactLeftPointsWrongFalsely : Prop := fnExactLeftPointsRow.holds Try.pinned (OpenSpec.ofChange fnExactLeftPointsWrong)

/-- 'laws.FnExactEqualGames': WHATEVER THE INPUT: true; the input reads as it did. -/
def fnExactEqualGamesSpec : ChangeSpec := { name := "fnExactEqualGames", fn := fun _ => fun
  | [d1, d2] => { results := [.lit (.bool true)], args := [d1, d2] }
  | _ => none }
def fnExactEqualGamesRow : OpenClaim := { program := "ythmbfkgahkihfaa", sum := "7d204c5023305eb496612ff26a000f0ed77f4753a6ef50b72deac00b22beeab9", func := "loop.example/g03010/laws.FnExactEqualGames", spec := "fnExactEqualGames", unfollowed := true, recurses := true, apart := false }
def FnExactEqualGamesSaid : Prop := fnExactEqualGamesRow.holds Try.pinned (OpenSpec.ofChange fnExactEqualGamesSpec)

/-- ITS FALSE NEIGHBOUR: 'it returns false'. Refute it at one input. -/
def fnExactEqualGamesWrong : ChangeSpec := { name := "fnExactEqualGames", fn := fun _ => fun
  | [d1, d2] => { results := [.lit (.bool false)], args := [d1, d2] }
  | _ => none }
def FnExactEqualGamesWrongFalsely : Prop := fnExactEqualGamesRow.holds Try.pinned (OpenSpec.ofChange fnExactEqualGamesWrong)

/-- 'laws.FnExactGamesPlayed': WHATEVER THE INPUT: true; the input reads as it did. -/
def fnExactGamesPlayedSpec : ChangeSpec := { name := "fnExactGamesPlayed", fn := fun _ => fun
  | [d] => { results := [.lit (.bool true)], args := [d] }
  | _ => none }
def fnExactGamesPlayedRow : OpenClaim := { program := "ythmbfkgahkihfaa", sum := "7d204c5023305eb496612ff26a000f0ed77f4753a6ef50b72deac00b22beeab9", func := "loop.example/g03010/laws.FnExactGamesPlayed", spec := "fnExactGamesPlayed", apart := false }
def FnExactGamesPlayedSaid : Prop := fnExactGamesPlayedRow.holds Try.pinned (OpenSpec.ofChange fnExactGamesPlayedSpec)

/-- ITS FALSE NEIGHBOUR: 'it returns false'. Refute it at one input. -/
def fnExactGamesPlayedWrong : ChangeSpec := { name := "fnExactGamesPlayed", fn := fun _ => fun
  | [d] => { results := [.lit (.bool false)], args := [d] }
  | _ => none }
def FnExactGamesPlayedWrongFalsely : Prop := fnExactGamesPlayedRow.holds Try.pinned (OpenSpec.ofChange fnExactGamesPlayedWrong)

/-- 'laws.FnExactIsSealed': WHATEVER THE INPUT: true; the input reads as it did. -/
def fnExactIsSealedSpec : ChangeSpec := { name := "fnExactIsSealed", fn := fun _ => fun
  | [d] => { results := [.lit (.bool true)], args := [d] }
  | _ => none }
def fnExactIsSealedRow : OpenClaim := { program := "ythmbfkgahkihfaa", sum := "7d204c5023305eb496612ff26a000f0ed77f4753a6ef50b72deac00b22beeab9", func := "loop.example/g03010/laws.FnExactIsSealed", spec := "fnExactIsSealed", apart := false }
def FnExactIsSealedSaid : Prop := fnExactIsSealedRow.holds Try.pinned (OpenSpec.ofChange fnExactIsSealedSpec)

/-- ITS FALSE NEIGHBOUR: 'it returns false'. Refute it at one input. -/
def fnExactIsSealedWrong : ChangeSpec := { name := "fnExactIsSealed", fn := fun _ => fun
  | [d] => { results := [.lit (.bool false)], args := [d] }
  | _ => none }
def FnExactIsSealedWrongFalsely : Prop := fnExactIsSealedRow.holds Try.pinned (OpenSpec.ofChange fnExactIsSealedWrong)

/-- 'laws.FnExactIsRecorded': WHATEVER THE INPUT: true; the input reads as it did. -/
def fnExactIsRecordedSpec : ChangeSpec := { name := "fnExactIsRecorded", fn := fun _ => fun
  | [d] => { results := [.lit (.bool true)], args := [d] }
  | _ => none }
def fnExactIsRecordedRow : OpenClaim := { program := "ythmbfkgahkihfaa", sum := "7d204c5023305eb496612ff26a000f0ed77f4753a6ef50b72deac00b22beeab9", func := "loop.example/g03010/laws.FnExactIsRecorded", spec := "fnExactIsRecorded", apart := false }
def FnExactIsRecordedSaid : Prop := fnExactIsRecordedRow.holds Try.pinned (OpenSpec.ofChange fnExactIsRecordedSpec)

/-- ITS FALSE NEIGHBOUR: 'it returns false'. Refute it at one input. -/
def fnExactIsRecordedWrong : ChangeSpec := { name := "fnExactIsRecorded", fn := fun _ => fun
  | [d] => { results := [.lit (.bool false)], args := [d] }
  | _ => none }
def FnExactIsRecordedWrongFalsely : Prop := fnExactIsRecordedRow.holds Try.pinned (OpenSpec.ofChange fnExactIsRecordedWrong)

/-- 'laws.FnExactEqualTables': WHATEVER THE INPUT: true; the input reads as it did. -/
def fnExactEqualTablesSpec : ChangeSpec := { name := "fnExactEqualTables", fn := fun _ => fun
  | [d1, d2] => { results := [.lit (.bool true)], args := [d1, d2] }
  | _ => none }
def fnExactEqualTablesRow : OpenClaim := { program := "ythmbfkgahkihfaa", sum := "7d204c5023305eb496612ff26a000f0ed77f4753a6ef50b72deac00b22beeab9", func := "loop.example/g03010/laws.FnExactEqualTables", spec := "fnExactEqualTables", unfollowed := true, recurses := true, apart := false }
def FnExactEqualTablesSaid : Prop := fnExactEqualTablesRow.holds Try.pinned (OpenSpec.ofChange fnExactEqualTablesSpec)

/-- ITS FALSE NEIGHBOUR: 'it returns false'. Refute it at one input. -/
def fnExactEqualTablesWrong : ChangeSpec := { name := "fnExactEqualTables", fn := fun _ => fun
  | [d1, d2] => { results := [.lit (.bool false)], args := [d1, d2] }
  | _ => none }
def FnExactEqualTablesWrongFalsely : Prop := fnExactEqualTablesRow.holds Try.pinned (OpenSpec.ofChange fnExactEqualTablesWrong)

/- THE SECOND FORM. 'bulk': how many values and letters a reading holds, each counted each time it is reached (what is shared counts as often as it is met; a slice's spare places count too). A statement '..UptoSaid' is the law's where the arguments, and the package variables that the reading takes, are together of bulk at most 1048576: NARROWER than '..Said'. Prove '..Said' where nothing that the law and all that it calls make is longer than what came in: it says more and counts as full. Else prove '..UptoSaid'. A law counts once. -/
mutual
def uptoBulk {H : Type} : DataW H → Nat
  | .lit (.string bytes) => bytes.length + 1
  | .lit _ => 1
  | .nil => 1
  | .ptr d => uptoBulk d + 1
  | .slice elems spare => uptoBulkAll elems + uptoBulkAll spare + 1
  | .agg parts => uptoBulkAll parts + 1
  | .iface _ d => uptoBulk d + 1
  | .map entries => uptoBulkEntries entries + 1
  | .held _ => 1
def uptoBulkAll {H : Type} : List (DataW H) → Nat
  | [] => 0
  | d :: r => uptoBulk d + uptoBulkAll r
def uptoBulkEntries {H : Type} : List (Lit × DataW H) → Nat
  | [] => 0
  | x :: r => uptoBulkEntry x + uptoBulkEntries r
def uptoBulkEntry {H : Type} : Lit × DataW H → Nat
  | (.string bytes, d) => bytes.length + uptoBulk d + 1
  | (_, d) => uptoBulk d + 1
 end
def uptoSmall : (H : Type) → List (DataW H) → Bool := fun _ ds => decide (uptoBulkAll ds ≤ 1048576)
def OpenSpec.upto (s : _root_.Go.ChangeSpec) : _root_.Go.OpenSpec := { _root_.Go.OpenSpec.ofChange s with cond := some uptoSmall }

/-- 'laws.FnExactCardsHeld', WHERE WHAT IT READS IS OF BULK AT MOST 1048576: true; the input reads as it did. -/
def fnExactCardsHeldUptoRow : OpenClaim := { program := "ythmbfkgahkihfaa", sum := "7d204c5023305eb496612ff26a000f0ed77f4753a6ef50b72deac00b22beeab9", func := "loop.example/g03010/laws.FnExactCardsHeld", spec := "fnExactCardsHeld", apart := false, narrowed := true }
def FnExactCardsHeldUptoSaid : Prop := fnExactCardsHeldUptoRow.holds Try.pinned (OpenSpec.upto fnExactCardsHeldSpec)

/-- 'laws.FnExactLeftPoints', WHERE WHAT IT READS IS OF BULK AT MOST 1048576: true; the input reads as it did. -/
def fnExactLeftPointsUptoRow : OpenClaim := { program := "ythmbfkgahkihfaa", sum := "7d204c5023305eb496612ff26a000f0ed77f4753a6ef50b72deac00b22beeab9", func := "loop.example/g03010/laws.FnExactLeftPoints", spec := "fnExactLeftPoints", apart := false, narrowed := true }
def FnExactLeftPointsUptoSaid : Prop := fnExactLeftPointsUptoRow.holds Try.pinned (OpenSpec.upto fnExactLeftPointsSpec)

/-- 'laws.FnExactEqualGames', WHERE WHAT IT READS IS OF BULK AT MOST 1048576: true; the input reads as it did. -/
def fnExactEqualGamesUptoRow : OpenClaim := { program := "ythmbfkgahkihfaa", sum := "7d204c5023305eb496612ff26a000f0ed77f4753a6ef50b72deac00b22beeab9", func := "loop.example/g03010/laws.FnExactEqualGames", spec := "fnExactEqualGames", unfollowed := true, recurses := true, apart := false, narrowed := true }
def FnExactEqualGamesUptoSaid : Prop := fnExactEqualGamesUptoRow.holds Try.pinned (OpenSpec.upto fnExactEqualGamesSpec)

/-- 'laws.FnExactGamesPlayed', WHERE WHAT IT READS IS OF BULK AT MOST 1048576: true; the input reads as it did. -/
def fnExactGamesPlayedUptoRow : OpenClaim := { program := "ythmbfkgahkihfaa", sum := "7d204c5023305eb496612ff26a000f0ed77f4753a6ef50b72deac00b22beeab9", func := "loop.example/g03010/laws.FnExactGamesPlayed", spec := "fnExactGamesPlayed", apart := false, narrowed := true }
def FnExactGamesPlayedUptoSaid : Prop := fnExactGamesPlayedUptoRow.holds Try.pinned (OpenSpec.upto fnExactGamesPlayedSpec)

/-- 'laws.FnExactIsSealed', WHERE WHAT IT READS IS OF BULK AT MOST 1048576: true; the input reads as it did. -/
def fnExactIsSealedUptoRow : OpenClaim := { program := "ythmbfkgahkihfaa", sum := "7d204c5023305eb496612ff26a000f0ed77f4753a6ef50b72deac00b22beeab9", func := "loop.example/g03010/laws.FnExactIsSealed", spec := "fnExactIsSealed", apart := false, narrowed := true }
def FnExactIsSealedUptoSaid : Prop := fnExactIsSealedUptoRow.holds Try.pinned (OpenSpec.upto fnExactIsSealedSpec)

/-- 'laws.FnExactIsRecorded', WHERE WHAT IT READS IS OF BULK AT MOST 1048576: true; the input reads as it did. -/
def fnExactIsRecordedUptoRow : OpenClaim := { program := "ythmbfkgahkihfaa", sum := "7d204c5023305eb496612ff26a000f0ed77f4753a6ef50b72deac00b22beeab9", func := "loop.example/g03010/laws.FnExactIsRecorded", spec := "fnExactIsRecorded", apart := false, narrowed := true }
def FnExactIsRecordedUptoSaid : Prop := fnExactIsRecordedUptoRow.holds Try.pinned (OpenSpec.upto fnExactIsRecordedSpec)

/-- 'laws.FnExactEqualTables', WHERE WHAT IT READS IS OF BULK AT MOST 1048576: true; the input reads as it did. -/
def fnExactEqualTablesUptoRow : OpenClaim := { program := "ythmbfkgahkihfaa", sum := "7d204c5023305eb496612ff26a000f0ed77f4753a6ef50b72deac00b22beeab9", func := "loop.example/g03010/laws.FnExactEqualTables", spec := "fnExactEqualTables", unfollowed := true, recurses := true, apart := false, narrowed := true }
def FnExactEqualTablesUptoSaid : Prop := fnExactEqualTablesUptoRow.holds Try.pinned (OpenSpec.upto fnExactEqualTablesSpec)

end Rows
end Go.Proofs.Ythmbfkgahkihfaa
