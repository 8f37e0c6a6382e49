/-
  NARROWER THAN 'FOR EVERY INPUT', by the rows' own cells (each row's printed sentence says how): FnExactStepOf: ifaces, laid · FnExactMayBuild: ifaces, laid · FnExactBuilt: ifaces, laid · FnExactBaseCards: ifaces, laid · FnExactIsSafe: ifaces, laid · FnExactSeedSeal: ifaces, laid · FnExactIsOpened: ifaces, laid.
  DERIVED. THE GIVEN ROWS OF THIS SEAT. 7 by the template 'for every input the law returns true; each argument reads behind the call as it read before'; 0 by the template 'total and deterministic' (their statements: YtljpeiffpkfnlaaDoorTotals.lean).
  GIVEN WITH THE SEED: the statements are not yours to turn. If you find one false, say at which input.
  Laid BY PROGRAM, IN A SANDBOX (cutbox-rows.mjs): the forced cells as the released guide's own fill.sh prints them over the translation b018042da72fbcc4… (all of the seat's roots in one cut). By AI agents, Wed Nov 11 2026. No macro, syntax, notation, axiom, sorry.
-/
import Derived.Test.YtljpeiffpkfnlaaDoorChecked
import GoSem.Claim
import GoSem.ClaimJoined
import GoSem.ClaimMapViews
import Derived.JoinedTies
import Derived.KernelRfl
namespace Go.Proofs.YtljpeiffpkfnlaaDoor
/- THE CELL 'sum', in the pinned program and in every row, IS THE sha256 OF THE DUMP (.gsa) THAT YtljpeiffpkfnlaaDoorProg.lean LOADS. Nothing in Lean hashes anything: it is a label: what it is worth is what the hold of that sum in a sandbox is worth. -/
noncomputable def Tryd.pinned : Pinned := { name := "ytljpeiffpkfnlaadoor", sum := "b018042da72fbcc40547b6552a4790d5856cc3ffe0354a2287395c8cad18eb33", checked := Tryd.checked }
namespace Rows
def none {H : Type} : Left H := { results := [], args := [] }

/- WHAT THE LISTED PACKAGE-LEVEL VARIABLES READ AS WHEN THE CALL BEGINS. Each datum BY PROGRAM (the guide's laid-datum.mjs) off the statement by which the dump's own 'gosem.cut.vars' lays the variable. In a bare row this is a premise. The card (YtljpeiffpkfnlaaDoorCards.lean) ties it to the program's text. -/
def laid_loop_example_g03010_impl_errNotDecimal {H : Type} : DataW H := .iface "*errors.errorString" (.ptr (.agg [.lit (.string [110, 111, 116, 32, 116, 104, 101, 32, 100, 101, 99, 105, 109, 97, 108, 32, 102, 111, 114, 109, 32, 111, 102, 32, 97, 110, 32, 105, 110, 116, 101, 103, 101, 114])]))
def laid_loop_example_g03010_impl_errOutOfRange {H : Type} : DataW H := .iface "*errors.errorString" (.ptr (.agg [.lit (.string [105, 110, 116, 101, 103, 101, 114, 32, 111, 117, 116, 32, 111, 102, 32, 114, 97, 110, 103, 101])]))

/-- 'laws.FnExactStepOf': WHATEVER THE INPUT: true; the input reads as it did. -/
def fnExactStepOfSpec : ChangeSpec := { name := "fnExactStepOf", vars := ["loop.example/g03010/impl.errOutOfRange", "loop.example/g03010/impl.errNotDecimal"], fn := fun _ => fun
  | [d, g1, g2] => { results := [.lit (.bool true)], args := [d], vars := [g1, g2] }
  | _ => none }
def fnExactStepOfRow : OpenClaim := { program := "ytljpeiffpkfnlaadoor", sum := "b018042da72fbcc40547b6552a4790d5856cc3ffe0354a2287395c8cad18eb33", func := "loop.example/g03010/laws.FnExactStepOf", spec := "fnExactStepOf", inPlace := ["internal/reflectlite.TypeOf"], unfollowed := true, recurses := true, named := ["loop.example/g03010/impl.errOutOfRange", "loop.example/g03010/impl.errNotDecimal"], ifaces := true, plainKeys := false, apart := false, laid := [("loop.example/g03010/impl.errNotDecimal", laid_loop_example_g03010_impl_errNotDecimal), ("loop.example/g03010/impl.errOutOfRange", laid_loop_example_g03010_impl_errOutOfRange)] }
def FnExactStepOfSaid : Prop := fnExactStepOfRow.holds Tryd.pinned (OpenSpec.ofChange fnExactStepOfSpec)

/-- ITS FALSE NEIGHBOUR: 'it returns false'. Refute it at one input. -/
def fnExactStepOfWrong : ChangeSpec := { name := "fnExactStepOf", vars := ["loop.example/g03010/impl.errOutOfRange", "loop.example/g03010/impl.errNotDecimal"], fn := fun _ => fun
  | [d, g1, g2] => { results := [.lit (.bool false)], args := [d], vars := [g1, g2] }
  | _ => none }
def FnExactStepOfWrongFalsely : Prop := fnExactStepOfRow.holds Tryd.pinned (OpenSpec.ofChange fnExactStepOfWrong)

/-- 'laws.FnExactMayBuild': WHATEVER THE INPUT: true; the input reads as it did. -/
def fnExactMayBuildSpec : ChangeSpec := { name := "fnExactMayBuild", vars := ["loop.example/g03010/impl.errOutOfRange", "loop.example/g03010/impl.errNotDecimal"], fn := fun _ => fun
  | [d1, d2, g1, g2] => { results := [.lit (.bool true)], args := [d1, d2], vars := [g1, g2] }
  | _ => none }
def fnExactMayBuildRow : OpenClaim := { program := "ytljpeiffpkfnlaadoor", sum := "b018042da72fbcc40547b6552a4790d5856cc3ffe0354a2287395c8cad18eb33", func := "loop.example/g03010/laws.FnExactMayBuild", spec := "fnExactMayBuild", inPlace := ["internal/reflectlite.TypeOf"], unfollowed := true, recurses := true, named := ["loop.example/g03010/impl.errOutOfRange", "loop.example/g03010/impl.errNotDecimal"], ifaces := true, plainKeys := false, apart := false, laid := [("loop.example/g03010/impl.errNotDecimal", laid_loop_example_g03010_impl_errNotDecimal), ("loop.example/g03010/impl.errOutOfRange", laid_loop_example_g03010_impl_errOutOfRange)] }
def FnExactMayBuildSaid : Prop := fnExactMayBuildRow.holds Tryd.pinned (OpenSpec.ofChange fnExactMayBuildSpec)

/-- ITS FALSE NEIGHBOUR: 'it returns false'. Refute it at one input. -/
def fnExactMayBuildWrong : ChangeSpec := { name := "fnExactMayBuild", vars := ["loop.example/g03010/impl.errOutOfRange", "loop.example/g03010/impl.errNotDecimal"], fn := fun _ => fun
  | [d1, d2, g1, g2] => { results := [.lit (.bool false)], args := [d1, d2], vars := [g1, g2] }
  | _ => none }
def FnExactMayBuildWrongFalsely : Prop := fnExactMayBuildRow.holds Tryd.pinned (OpenSpec.ofChange fnExactMayBuildWrong)

/-- 'laws.FnExactBuilt': WHATEVER THE INPUT: true; the input reads as it did. -/
def fnExactBuiltSpec : ChangeSpec := { name := "fnExactBuilt", vars := ["loop.example/g03010/impl.errOutOfRange", "loop.example/g03010/impl.errNotDecimal"], fn := fun _ => fun
  | [d1, d2, g1, g2] => { results := [.lit (.bool true)], args := [d1, d2], vars := [g1, g2] }
  | _ => none }
def fnExactBuiltRow : OpenClaim := { program := "ytljpeiffpkfnlaadoor", sum := "b018042da72fbcc40547b6552a4790d5856cc3ffe0354a2287395c8cad18eb33", func := "loop.example/g03010/laws.FnExactBuilt", spec := "fnExactBuilt", inPlace := ["internal/reflectlite.TypeOf"], unfollowed := true, recurses := true, named := ["loop.example/g03010/impl.errOutOfRange", "loop.example/g03010/impl.errNotDecimal"], ifaces := true, plainKeys := false, apart := false, laid := [("loop.example/g03010/impl.errNotDecimal", laid_loop_example_g03010_impl_errNotDecimal), ("loop.example/g03010/impl.errOutOfRange", laid_loop_example_g03010_impl_errOutOfRange)] }
def FnExactBuiltSaid : Prop := fnExactBuiltRow.holds Tryd.pinned (OpenSpec.ofChange fnExactBuiltSpec)

/-- ITS FALSE NEIGHBOUR: 'it returns false'. Refute it at one input. -/
def fnExactBuiltWrong : ChangeSpec := { name := "fnExactBuilt", vars := ["loop.example/g03010/impl.errOutOfRange", "loop.example/g03010/impl.errNotDecimal"], fn := fun _ => fun
  | [d1, d2, g1, g2] => { results := [.lit (.bool false)], args := [d1, d2], vars := [g1, g2] }
  | _ => none }
def FnExactBuiltWrongFalsely : Prop := fnExactBuiltRow.holds Tryd.pinned (OpenSpec.ofChange fnExactBuiltWrong)

/-- 'laws.FnExactBaseCards': WHATEVER THE INPUT: true; the input reads as it did. -/
def fnExactBaseCardsSpec : ChangeSpec := { name := "fnExactBaseCards", vars := ["loop.example/g03010/impl.errOutOfRange", "loop.example/g03010/impl.errNotDecimal"], fn := fun _ => fun
  | [d, g1, g2] => { results := [.lit (.bool true)], args := [d], vars := [g1, g2] }
  | _ => none }
def fnExactBaseCardsRow : OpenClaim := { program := "ytljpeiffpkfnlaadoor", sum := "b018042da72fbcc40547b6552a4790d5856cc3ffe0354a2287395c8cad18eb33", func := "loop.example/g03010/laws.FnExactBaseCards", spec := "fnExactBaseCards", inPlace := ["internal/reflectlite.TypeOf"], unfollowed := true, recurses := true, named := ["loop.example/g03010/impl.errOutOfRange", "loop.example/g03010/impl.errNotDecimal"], ifaces := true, plainKeys := false, apart := false, laid := [("loop.example/g03010/impl.errNotDecimal", laid_loop_example_g03010_impl_errNotDecimal), ("loop.example/g03010/impl.errOutOfRange", laid_loop_example_g03010_impl_errOutOfRange)] }
def FnExactBaseCardsSaid : Prop := fnExactBaseCardsRow.holds Tryd.pinned (OpenSpec.ofChange fnExactBaseCardsSpec)

/-- ITS FALSE NEIGHBOUR: 'it returns false'. Refute it at one input. -/
def fnExactBaseCardsWrong : ChangeSpec := { name := "fnExactBaseCards", vars := ["loop.example/g03010/impl.errOutOfRange", "loop.example/g03010/impl.errNotDecimal"], fn := fun _ => fun
  | [d, g1, g2] => { results := [.lit (.bool false)], args := [d], vars := [g1, g2] }
  | _ => none }
def FnExactBaseCardsWrongFalsely : Prop := fnExactBaseCardsRow.holds Tryd.pinned (OpenSpec.ofChange fnExactBaseCardsWrong)

/-- 'laws.FnExactIsSafe': WHATEVER THE INPUT: true; the input reads as it did. -/
def fnExactIsSafeSpec : ChangeSpec := { name := "fnExactIsSafe", vars := ["loop.example/g03010/impl.errOutOfRange", "loop.example/g03010/impl.errNotDecimal"], fn := fun _ => fun
  | [d1, d2, g1, g2] => { results := [.lit (.bool true)], args := [d1, d2], vars := [g1, g2] }
  | _ => none }
def fnExactIsSafeRow : OpenClaim := { program := "ytljpeiffpkfnlaadoor", sum := "b018042da72fbcc40547b6552a4790d5856cc3ffe0354a2287395c8cad18eb33", func := "loop.example/g03010/laws.FnExactIsSafe", spec := "fnExactIsSafe", inPlace := ["internal/reflectlite.TypeOf"], unfollowed := true, recurses := true, named := ["loop.example/g03010/impl.errOutOfRange", "loop.example/g03010/impl.errNotDecimal"], ifaces := true, plainKeys := false, apart := false, laid := [("loop.example/g03010/impl.errNotDecimal", laid_loop_example_g03010_impl_errNotDecimal), ("loop.example/g03010/impl.errOutOfRange", laid_loop_example_g03010_impl_errOutOfRange)] }
def FnExactIsSafeSaid : Prop := fnExactIsSafeRow.holds Tryd.pinned (OpenSpec.ofChange fnExactIsSafeSpec)

/-- ITS FALSE NEIGHBOUR: 'it returns false'. Refute it at one input. -/
def fnExactIsSafeWrong : ChangeSpec := { name := "fnExactIsSafe", vars := ["loop.example/g03010/impl.errOutOfRange", "loop.example/g03010/impl.errNotDecimal"], fn := fun _ => fun
  | [d1, d2, g1, g2] => { results := [.lit (.bool false)], args := [d1, d2], vars := [g1, g2] }
  | _ => none }
def FnExactIsSafeWrongFalsely : Prop := fnExactIsSafeRow.holds Tryd.pinned (OpenSpec.ofChange fnExactIsSafeWrong)

/-- 'laws.FnExactSeedSeal': WHATEVER THE INPUT: true; the input reads as it did. -/
def fnExactSeedSealSpec : ChangeSpec := { name := "fnExactSeedSeal", vars := ["loop.example/g03010/impl.errOutOfRange", "loop.example/g03010/impl.errNotDecimal"], fn := fun _ => fun
  | [d1, d2, d3, g1, g2] => { results := [.lit (.bool true)], args := [d1, d2, d3], vars := [g1, g2] }
  | _ => none }
def fnExactSeedSealRow : OpenClaim := { program := "ytljpeiffpkfnlaadoor", sum := "b018042da72fbcc40547b6552a4790d5856cc3ffe0354a2287395c8cad18eb33", func := "loop.example/g03010/laws.FnExactSeedSeal", spec := "fnExactSeedSeal", inPlace := ["internal/reflectlite.TypeOf"], unfollowed := true, recurses := true, named := ["loop.example/g03010/impl.errOutOfRange", "loop.example/g03010/impl.errNotDecimal"], ifaces := true, plainKeys := false, apart := false, laid := [("loop.example/g03010/impl.errNotDecimal", laid_loop_example_g03010_impl_errNotDecimal), ("loop.example/g03010/impl.errOutOfRange", laid_loop_example_g03010_impl_errOutOfRange)] }
def FnExactSeedSealSaid : Prop := fnExactSeedSealRow.holds Tryd.pinned (OpenSpec.ofChange fnExactSeedSealSpec)

/-- ITS FALSE NEIGHBOUR: 'it returns false'. Refute it at one input. -/
def fnExactSeedSealWrong : ChangeSpec := { name := "fnExactSeedSeal", vars := ["loop.example/g03010/impl.errOutOfRange", "loop.example/g03010/impl.errNotDecimal"], fn := fun _ => fun
  | [d1, d2, d3, g1, g2] => { results := [.lit (.bool false)], args := [d1, d2, d3], vars := [g1, g2] }
  | _ => none }
def FnExactSeedSealWrongFalsely : Prop := fnExactSeedSealRow.holds Tryd.pinned (OpenSpec.ofChange fnExactSeedSealWrong)

/-- 'laws.FnExactIsOpened': WHATEVER THE INPUT: true; the input reads as it did. -/
def fnExactIsOpenedSpec : ChangeSpec := { name := "fnExactIsOpened", vars := ["loop.example/g03010/impl.errOutOfRange", "loop.example/g03010/impl.errNotDecimal"], fn := fun _ => fun
  | [d1, d2, d3, d4, g1, g2] => { results := [.lit (.bool true)], args := [d1, d2, d3, d4], vars := [g1, g2] }
  | _ => none }
def fnExactIsOpenedRow : OpenClaim := { program := "ytljpeiffpkfnlaadoor", sum := "b018042da72fbcc40547b6552a4790d5856cc3ffe0354a2287395c8cad18eb33", func := "loop.example/g03010/laws.FnExactIsOpened", spec := "fnExactIsOpened", inPlace := ["internal/reflectlite.TypeOf"], unfollowed := true, recurses := true, named := ["loop.example/g03010/impl.errOutOfRange", "loop.example/g03010/impl.errNotDecimal"], ifaces := true, plainKeys := false, apart := false, laid := [("loop.example/g03010/impl.errNotDecimal", laid_loop_example_g03010_impl_errNotDecimal), ("loop.example/g03010/impl.errOutOfRange", laid_loop_example_g03010_impl_errOutOfRange)] }
def FnExactIsOpenedSaid : Prop := fnExactIsOpenedRow.holds Tryd.pinned (OpenSpec.ofChange fnExactIsOpenedSpec)

/-- ITS FALSE NEIGHBOUR: 'it returns false'. Refute it at one input. -/
def fnExactIsOpenedWrong : ChangeSpec := { name := "fnExactIsOpened", vars := ["loop.example/g03010/impl.errOutOfRange", "loop.example/g03010/impl.errNotDecimal"], fn := fun _ => fun
  | [d1, d2, d3, d4, g1, g2] => { results := [.lit (.bool false)], args := [d1, d2, d3, d4], vars := [g1, g2] }
  | _ => none }
def FnExactIsOpenedWrongFalsely : Prop := fnExactIsOpenedRow.holds Tryd.pinned (OpenSpec.ofChange fnExactIsOpenedWrong)

/- THE SECOND FORM. 'bulk': how many values and letters a reading holds, each counted each time it is reached (what is shared counts as often as it is met; a slice's spare places count too). A statement '..UptoSaid' is the law's where the arguments, and the package variables that the reading takes, are together of bulk at most 1048576: NARROWER than '..Said'. Prove '..Said' where nothing that the law and all that it calls make is longer than what came in: it says more and counts as full. Else prove '..UptoSaid'. A law counts once. -/
mutual
def uptoBulk {H : Type} : DataW H → Nat
  | .lit (.string bytes) => bytes.length + 1
  | .lit _ => 1
  | .nil => 1
  | .ptr d => uptoBulk d + 1
  | .slice elems spare => uptoBulkAll elems + uptoBulkAll spare + 1
  | .agg parts => uptoBulkAll parts + 1
  | .iface _ d => uptoBulk d + 1
  | .map entries => uptoBulkEntries entries + 1
  | .held _ => 1
def uptoBulkAll {H : Type} : List (DataW H) → Nat
  | [] => 0
  | d :: r => uptoBulk d + uptoBulkAll r
def uptoBulkEntries {H : Type} : List (Lit × DataW H) → Nat
  | [] => 0
  | x :: r => uptoBulkEntry x + uptoBulkEntries r
def uptoBulkEntry {H : Type} : Lit × DataW H → Nat
  | (.string bytes, d) => bytes.length + uptoBulk d + 1
  | (_, d) => uptoBulk d + 1
 end
def uptoSmall : (H : Type) → List (DataW H) → Bool := fun _ ds => decide (uptoBulkAll ds ≤ 1048576)
def OpenSpec.upto (s : _root_.Go.ChangeSpec) : _root_.Go.OpenSpec := { _root_.Go.OpenSpec.ofChange s with cond := some uptoSmall }

/-- 'laws.FnExactStepOf', WHERE WHAT IT READS IS OF BULK AT MOST 1048576: true; the input reads as it did. -/
def fnExactStepOfUptoRow : OpenClaim := { program := "ytljpeiffpkfnlaadoor", sum := "b018042da72fbcc40547b6552a4790d5856cc3ffe0354a2287395c8cad18eb33", func := "loop.example/g03010/laws.FnExactStepOf", spec := "fnExactStepOf", inPlace := ["internal/reflectlite.TypeOf"], unfollowed := true, recurses := true, named := ["loop.example/g03010/impl.errOutOfRange", "loop.example/g03010/impl.errNotDecimal"], ifaces := true, plainKeys := false, apart := false, laid := [("loop.example/g03010/impl.errNotDecimal", laid_loop_example_g03010_impl_errNotDecimal), ("loop.example/g03010/impl.errOutOfRange", laid_loop_example_g03010_impl_errOutOfRange)], narrowed := true }
def FnExactStepOfUptoSaid : Prop := fnExactStepOfUptoRow.holds Tryd.pinned (OpenSpec.upto fnExactStepOfSpec)

/-- 'laws.FnExactMayBuild', WHERE WHAT IT READS IS OF BULK AT MOST 1048576: true; the input reads as it did. -/
def fnExactMayBuildUptoRow : OpenClaim := { program := "ytljpeiffpkfnlaadoor", sum := "b018042da72fbcc40547b6552a4790d5856cc3ffe0354a2287395c8cad18eb33", func := "loop.example/g03010/laws.FnExactMayBuild", spec := "fnExactMayBuild", inPlace := ["internal/reflectlite.TypeOf"], unfollowed := true, recurses := true, named := ["loop.example/g03010/impl.errOutOfRange", "loop.example/g03010/impl.errNotDecimal"], ifaces := true, plainKeys := false, apart := false, laid := [("loop.example/g03010/impl.errNotDecimal", laid_loop_example_g03010_impl_errNotDecimal), ("loop.example/g03010/impl.errOutOfRange", laid_loop_example_g03010_impl_errOutOfRange)], narrowed := true }
def FnExactMayBuildUptoSaid : Prop := fnExactMayBuildUptoRow.holds Tryd.pinned (OpenSpec.upto fnExactMayBuildSpec)

/-- 'laws.FnExactBuilt', WHERE WHAT IT READS IS OF BULK AT MOST 1048576: true; the input reads as it did. -/
def fnExactBuiltUptoRow : OpenClaim := { program := "ytljpeiffpkfnlaadoor", sum := "b018042da72fbcc40547b6552a4790d5856cc3ffe0354a2287395c8cad18eb33", func := "loop.example/g03010/laws.FnExactBuilt", spec := "fnExactBuilt", inPlace := ["internal/reflectlite.TypeOf"], unfollowed := true, recurses := true, named := ["loop.example/g03010/impl.errOutOfRange", "loop.example/g03010/impl.errNotDecimal"], ifaces := true, plainKeys := false, apart := false, laid := [("loop.example/g03010/impl.errNotDecimal", laid_loop_example_g03010_impl_errNotDecimal), ("loop.example/g03010/impl.errOutOfRange", laid_loop_example_g03010_impl_errOutOfRange)], narrowed := true }
def FnExactBuiltUptoSaid : Prop := fnExactBuiltUptoRow.holds Tryd.pinned (OpenSpec.upto fnExactBuiltSpec)

/-- 'laws.FnExactBaseCards', WHERE WHAT IT READS IS OF BULK AT MOST 1048576: true; the input reads as it did. -/
def fnExactBaseCardsUptoRow : OpenClaim := { program := "ytljpeiffpkfnlaadoor", sum := "b018042da72fbcc40547b6552a4790d5856cc3ffe0354a2287395c8cad18eb33", func := "loop.example/g03010/laws.FnExactBaseCards", spec := "fnExactBaseCards", inPlace := ["internal/reflectlite.TypeOf"], unfollowed := true, recurses := true, named := ["loop.example/g03010/impl.errOutOfRange", "loop.example/g03010/impl.errNotDecimal"], ifaces := true, plainKeys := false, apart := false, laid := [("loop.example/g03010/impl.errNotDecimal", laid_loop_example_g03010_impl_errNotDecimal), ("loop.example/g03010/impl.errOutOfRange", laid_loop_example_g03010_impl_errOutOfRange)], narrowed := true }
def FnExactBaseCardsUptoSaid : Prop := fnExactBaseCardsUptoRow.holds Tryd.pinned (OpenSpec.upto fnExactBaseCardsSpec)

/-- 'laws.FnExactIsSafe', WHERE WHAT IT READS IS OF BULK AT MOST 1048576: true; the input reads as it did. -/
def fnExactIsSafeUptoRow : OpenClaim := { program := "ytljpeiffpkfnlaadoor", sum := "b018042da72fbcc40547b6552a4790d5856cc3ffe0354a2287395c8cad18eb33", func := "loop.example/g03010/laws.FnExactIsSafe", spec := "fnExactIsSafe", inPlace := ["internal/reflectlite.TypeOf"], unfollowed := true, recurses := true, named := ["loop.example/g03010/impl.errOutOfRange", "loop.example/g03010/impl.errNotDecimal"], ifaces := true, plainKeys := false, apart := false, laid := [("loop.example/g03010/impl.errNotDecimal", laid_loop_example_g03010_impl_errNotDecimal), ("loop.example/g03010/impl.errOutOfRange", laid_loop_example_g03010_impl_errOutOfRange)], narrowed := true }
def FnExactIsSafeUptoSaid : Prop := fnExactIsSafeUptoRow.holds Tryd.pinned (OpenSpec.upto fnExactIsSafeSpec)

/-- 'laws.FnExactSeedSeal', WHERE WHAT IT READS IS OF BULK AT MOST 1048576: true; the input reads as it did. -/
def fnExactSeedSealUptoRow : OpenClaim := { program := "ytljpeiffpkfnlaadoor", sum := "b018042da72fbcc40547b6552a4790d5856cc3ffe0354a2287395c8cad18eb33", func := "loop.example/g03010/laws.FnExactSeedSeal", spec := "fnExactSeedSeal", inPlace := ["internal/reflectlite.TypeOf"], unfollowed := true, recurses := true, named := ["loop.example/g03010/impl.errOutOfRange", "loop.example/g03010/impl.errNotDecimal"], ifaces := true, plainKeys := false, apart := false, laid := [("loop.example/g03010/impl.errNotDecimal", laid_loop_example_g03010_impl_errNotDecimal), ("loop.example/g03010/impl.errOutOfRange", laid_loop_example_g03010_impl_errOutOfRange)], narrowed := true }
def FnExactSeedSealUptoSaid : Prop := fnExactSeedSealUptoRow.holds Tryd.pinned (OpenSpec.upto fnExactSeedSealSpec)

/-- 'laws.FnExactIsOpened', WHERE WHAT IT READS IS OF BULK AT MOST 1048576: true; the input reads as it did. -/
def fnExactIsOpenedUptoRow : OpenClaim := { program := "ytljpeiffpkfnlaadoor", sum := "b018042da72fbcc40547b6552a4790d5856cc3ffe0354a2287395c8cad18eb33", func := "loop.example/g03010/laws.FnExactIsOpened", spec := "fnExactIsOpened", inPlace := ["internal/reflectlite.TypeOf"], unfollowed := true, recurses := true, named := ["loop.example/g03010/impl.errOutOfRange", "loop.example/g03010/impl.errNotDecimal"], ifaces := true, plainKeys := false, apart := false, laid := [("loop.example/g03010/impl.errNotDecimal", laid_loop_example_g03010_impl_errNotDecimal), ("loop.example/g03010/impl.errOutOfRange", laid_loop_example_g03010_impl_errOutOfRange)], narrowed := true }
def FnExactIsOpenedUptoSaid : Prop := fnExactIsOpenedUptoRow.holds Tryd.pinned (OpenSpec.upto fnExactIsOpenedSpec)

end Rows
end Go.Proofs.YtljpeiffpkfnlaaDoor
