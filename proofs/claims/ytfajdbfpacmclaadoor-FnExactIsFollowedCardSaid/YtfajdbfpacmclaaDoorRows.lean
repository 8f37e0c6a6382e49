/-
  NARROWER THAN 'FOR EVERY INPUT', by the rows' own cells (each row's printed sentence says how): FnCalls: ifaces, laid · FnExactIsFollowed: ifaces, laid · FnExactIsCalls: ifaces, laid · FnExactDeclarer: ifaces, laid · FnExactLegalCalls: ifaces, laid.
  DERIVED. THE GIVEN ROWS OF THIS SEAT. 5 by the template 'for every input the law returns true; each argument reads behind the call as it read before'; 0 by the template 'total and deterministic' (their statements: YtfajdbfpacmclaaDoorTotals.lean).
  GIVEN WITH THE SEED: the statements are not yours to turn. If you find one false, say at which input.
  Laid BY PROGRAM, IN A SANDBOX (cutbox-rows.mjs): the forced cells as the released guide's own fill.sh prints them over the translation 535b546f17782e82… (all of the seat's roots in one cut). By AI agents, Wed Nov 11 2026. No macro, syntax, notation, axiom, sorry.
-/
import Derived.Test.YtfajdbfpacmclaaDoorChecked
import GoSem.Claim
import GoSem.ClaimJoined
import GoSem.ClaimMapViews
import Derived.JoinedTies
import Derived.KernelRfl
namespace Go.Proofs.YtfajdbfpacmclaaDoor
/- THE CELL 'sum', in the pinned program and in every row, IS THE sha256 OF THE DUMP (.gsa) THAT YtfajdbfpacmclaaDoorProg.lean LOADS. Nothing in Lean hashes anything: it is a label: what it is worth is what the hold of that sum in a sandbox is worth. -/
noncomputable def Tryd.pinned : Pinned := { name := "ytfajdbfpacmclaadoor", sum := "535b546f17782e82bf54578296308caaa2c502072625112938f66949c5800f5d", checked := Tryd.checked }
namespace Rows
def none {H : Type} : Left H := { results := [], args := [] }

/- WHAT THE LISTED PACKAGE-LEVEL VARIABLES READ AS WHEN THE CALL BEGINS. Each datum BY PROGRAM (the guide's laid-datum.mjs) off the statement by which the dump's own 'gosem.cut.vars' lays the variable. In a bare row this is a premise. The card (YtfajdbfpacmclaaDoorCards.lean) ties it to the program's text. -/
def laid_loop_example_g03010_impl_errCannotGoOn {H : Type} : DataW H := .iface "*errors.errorString" (.ptr (.agg [.lit (.string [116, 104, 101, 32, 98, 105, 100, 100, 105, 110, 103, 32, 99, 97, 110, 110, 111, 116, 32, 103, 111, 32, 111, 110, 32, 119, 105, 116, 104, 32, 116, 104, 105, 115, 32, 99, 97, 108, 108])]))
def laid_loop_example_g03010_impl_errNotDecimal {H : Type} : DataW H := .iface "*errors.errorString" (.ptr (.agg [.lit (.string [110, 111, 116, 32, 116, 104, 101, 32, 100, 101, 99, 105, 109, 97, 108, 32, 102, 111, 114, 109, 32, 111, 102, 32, 97, 110, 32, 105, 110, 116, 101, 103, 101, 114])]))
def laid_loop_example_g03010_impl_errOutOfRange {H : Type} : DataW H := .iface "*errors.errorString" (.ptr (.agg [.lit (.string [105, 110, 116, 101, 103, 101, 114, 32, 111, 117, 116, 32, 111, 102, 32, 114, 97, 110, 103, 101])]))

/-- 'laws.FnCalls': WHATEVER THE INPUT: true; the input reads as it did. -/
def fnCallsSpec : ChangeSpec := { name := "fnCalls", vars := ["loop.example/g03010/impl.errCannotGoOn"], fn := fun _ => fun
  | [d, g1] => { results := [.lit (.bool true)], args := [d], vars := [g1] }
  | _ => none }
def fnCallsRow : OpenClaim := { program := "ytfajdbfpacmclaadoor", sum := "535b546f17782e82bf54578296308caaa2c502072625112938f66949c5800f5d", func := "loop.example/g03010/laws.FnCalls", spec := "fnCalls", unfollowed := true, recurses := true, named := ["loop.example/g03010/impl.errCannotGoOn"], ifaces := true, apart := false, laid := [("loop.example/g03010/impl.errCannotGoOn", laid_loop_example_g03010_impl_errCannotGoOn)] }
def FnCallsSaid : Prop := fnCallsRow.holds Tryd.pinned (OpenSpec.ofChange fnCallsSpec)

/-- ITS FALSE NEIGHBOUR: 'it returns false'. Refute it at one input. -/
def fnCallsWrong : ChangeSpec := { name := "fnCalls", vars := ["loop.example/g03010/impl.errCannotGoOn"], fn := fun _ => fun
  | [d, g1] => { results := [.lit (.bool false)], args := [d], vars := [g1] }
  | _ => none }
def FnCallsWrongFalsely : Prop := fnCallsRow.holds Tryd.pinned (OpenSpec.ofChange fnCallsWrong)

/-- 'laws.FnExactIsFollowed': WHATEVER THE INPUT: true; the input reads as it did. -/
def fnExactIsFollowedSpec : ChangeSpec := { name := "fnExactIsFollowed", vars := ["loop.example/g03010/impl.errOutOfRange", "loop.example/g03010/impl.errNotDecimal"], fn := fun _ => fun
  | [d1, d2, d3, g1, g2] => { results := [.lit (.bool true)], args := [d1, d2, d3], vars := [g1, g2] }
  | _ => none }
def fnExactIsFollowedRow : OpenClaim := { program := "ytfajdbfpacmclaadoor", sum := "535b546f17782e82bf54578296308caaa2c502072625112938f66949c5800f5d", func := "loop.example/g03010/laws.FnExactIsFollowed", spec := "fnExactIsFollowed", inPlace := ["internal/reflectlite.TypeOf"], unfollowed := true, recurses := true, named := ["loop.example/g03010/impl.errOutOfRange", "loop.example/g03010/impl.errNotDecimal"], ifaces := true, apart := false, laid := [("loop.example/g03010/impl.errNotDecimal", laid_loop_example_g03010_impl_errNotDecimal), ("loop.example/g03010/impl.errOutOfRange", laid_loop_example_g03010_impl_errOutOfRange)] }
def FnExactIsFollowedSaid : Prop := fnExactIsFollowedRow.holds Tryd.pinned (OpenSpec.ofChange fnExactIsFollowedSpec)

/-- ITS FALSE NEIGHBOUR: 'it returns false'. Refute it at one input. -/
def fnExactIsFollowedWrong : ChangeSpec := { name := "fnExactIsFollowed", vars := ["loop.example/g03010/impl.errOutOfRange", "loop.example/g03010/impl.errNotDecimal"], fn := fun _ => fun
  | [d1, d2, d3, g1, g2] => { results := [.lit (.bool false)], args := [d1, d2, d3], vars := [g1, g2] }
  | _ => none }
def FnExactIsFollowedWrongFalsely : Prop := fnExactIsFollowedRow.holds Tryd.pinned (OpenSpec.ofChange fnExactIsFollowedWrong)

/-- 'laws.FnExactIsCalls': WHATEVER THE INPUT: true; the input reads as it did. -/
def fnExactIsCallsSpec : ChangeSpec := { name := "fnExactIsCalls", vars := ["loop.example/g03010/impl.errCannotGoOn"], fn := fun _ => fun
  | [d1, d2, g1] => { results := [.lit (.bool true)], args := [d1, d2], vars := [g1] }
  | _ => none }
def fnExactIsCallsRow : OpenClaim := { program := "ytfajdbfpacmclaadoor", sum := "535b546f17782e82bf54578296308caaa2c502072625112938f66949c5800f5d", func := "loop.example/g03010/laws.FnExactIsCalls", spec := "fnExactIsCalls", unfollowed := true, recurses := true, named := ["loop.example/g03010/impl.errCannotGoOn"], ifaces := true, apart := false, laid := [("loop.example/g03010/impl.errCannotGoOn", laid_loop_example_g03010_impl_errCannotGoOn)] }
def FnExactIsCallsSaid : Prop := fnExactIsCallsRow.holds Tryd.pinned (OpenSpec.ofChange fnExactIsCallsSpec)

/-- ITS FALSE NEIGHBOUR: 'it returns false'. Refute it at one input. -/
def fnExactIsCallsWrong : ChangeSpec := { name := "fnExactIsCalls", vars := ["loop.example/g03010/impl.errCannotGoOn"], fn := fun _ => fun
  | [d1, d2, g1] => { results := [.lit (.bool false)], args := [d1, d2], vars := [g1] }
  | _ => none }
def FnExactIsCallsWrongFalsely : Prop := fnExactIsCallsRow.holds Tryd.pinned (OpenSpec.ofChange fnExactIsCallsWrong)

/-- 'laws.FnExactDeclarer': WHATEVER THE INPUT: true; the input reads as it did. -/
def fnExactDeclarerSpec : ChangeSpec := { name := "fnExactDeclarer", vars := ["loop.example/g03010/impl.errCannotGoOn"], fn := fun _ => fun
  | [d1, d2, g1] => { results := [.lit (.bool true)], args := [d1, d2], vars := [g1] }
  | _ => none }
def fnExactDeclarerRow : OpenClaim := { program := "ytfajdbfpacmclaadoor", sum := "535b546f17782e82bf54578296308caaa2c502072625112938f66949c5800f5d", func := "loop.example/g03010/laws.FnExactDeclarer", spec := "fnExactDeclarer", unfollowed := true, recurses := true, named := ["loop.example/g03010/impl.errCannotGoOn"], ifaces := true, apart := false, laid := [("loop.example/g03010/impl.errCannotGoOn", laid_loop_example_g03010_impl_errCannotGoOn)] }
def FnExactDeclarerSaid : Prop := fnExactDeclarerRow.holds Tryd.pinned (OpenSpec.ofChange fnExactDeclarerSpec)

/-- ITS FALSE NEIGHBOUR: 'it returns false'. Refute it at one input. -/
def fnExactDeclarerWrong : ChangeSpec := { name := "fnExactDeclarer", vars := ["loop.example/g03010/impl.errCannotGoOn"], fn := fun _ => fun
  | [d1, d2, g1] => { results := [.lit (.bool false)], args := [d1, d2], vars := [g1] }
  | _ => none }
def FnExactDeclarerWrongFalsely : Prop := fnExactDeclarerRow.holds Tryd.pinned (OpenSpec.ofChange fnExactDeclarerWrong)

/-- 'laws.FnExactLegalCalls': WHATEVER THE INPUT: true; the input reads as it did. -/
def fnExactLegalCallsSpec : ChangeSpec := { name := "fnExactLegalCalls", vars := ["loop.example/g03010/impl.errCannotGoOn"], fn := fun _ => fun
  | [d1, d2, g1] => { results := [.lit (.bool true)], args := [d1, d2], vars := [g1] }
  | _ => none }
def fnExactLegalCallsRow : OpenClaim := { program := "ytfajdbfpacmclaadoor", sum := "535b546f17782e82bf54578296308caaa2c502072625112938f66949c5800f5d", func := "loop.example/g03010/laws.FnExactLegalCalls", spec := "fnExactLegalCalls", unfollowed := true, recurses := true, named := ["loop.example/g03010/impl.errCannotGoOn"], ifaces := true, apart := false, laid := [("loop.example/g03010/impl.errCannotGoOn", laid_loop_example_g03010_impl_errCannotGoOn)] }
def FnExactLegalCallsSaid : Prop := fnExactLegalCallsRow.holds Tryd.pinned (OpenSpec.ofChange fnExactLegalCallsSpec)

/-- ITS FALSE NEIGHBOUR: 'it returns false'. Refute it at one input. -/
def fnExactLegalCallsWrong : ChangeSpec := { name := "fnExactLegalCalls", vars := ["loop.example/g03010/impl.errCannotGoOn"], fn := fun _ => fun
  | [d1, d2, g1] => { results := [.lit (.bool false)], args := [d1, d2], vars := [g1] }
  | _ => none }
def FnExactLegalCallsWrongFalsely : Prop := fnExactLegalCallsRow.holds Tryd.pinned (OpenSpec.ofChange fnExactLegalCallsWrong)

/- THE SECOND FORM. 'bulk': how many values and letters a reading holds, each counted each time it is reached (what is shared counts as often as it is met; a slice's spare places count too). A statement '..UptoSaid' is the law's where the arguments, and the package variables that the reading takes, are together of bulk at most 1048576: NARROWER than '..Said'. Prove '..Said' where nothing that the law and all that it calls make is longer than what came in: it says more and counts as full. Else prove '..UptoSaid'. A law counts once. -/
mutual
def uptoBulk {H : Type} : DataW H → Nat
  | .lit (.string bytes) => bytes.length + 1
  | .lit _ => 1
  | .nil => 1
  | .ptr d => uptoBulk d + 1
  | .slice elems spare => uptoBulkAll elems + uptoBulkAll spare + 1
  | .agg parts => uptoBulkAll parts + 1
  | .iface _ d => uptoBulk d + 1
  | .map entries => uptoBulkEntries entries + 1
  | .held _ => 1
def uptoBulkAll {H : Type} : List (DataW H) → Nat
  | [] => 0
  | d :: r => uptoBulk d + uptoBulkAll r
def uptoBulkEntries {H : Type} : List (Lit × DataW H) → Nat
  | [] => 0
  | x :: r => uptoBulkEntry x + uptoBulkEntries r
def uptoBulkEntry {H : Type} : Lit × DataW H → Nat
  | (.string bytes, d) => bytes.length + uptoBulk d + 1
  | (_, d) => uptoBulk d + 1
 end
def uptoSmall : (H : Type) → List (DataW H) → Bool := fun _ ds => decide (uptoBulkAll ds ≤ 1048576)
def OpenSpec.upto (s : _root_.Go.ChangeSpec) : _root_.Go.OpenSpec := { _root_.Go.OpenSpec.ofChange s with cond := some uptoSmall }

/-- 'laws.FnCalls', WHERE WHAT IT READS IS OF BULK AT MOST 1048576: true; the input reads as it did. -/
def fnCallsUptoRow : OpenClaim := { program := "ytfajdbfpacmclaadoor", sum := "535b546f17782e82bf54578296308caaa2c502072625112938f66949c5800f5d", func := "loop.example/g03010/laws.FnCalls", spec := "fnCalls", unfollowed := true, recurses := true, named := ["loop.example/g03010/impl.errCannotGoOn"], ifaces := true, apart := false, laid := [("loop.example/g03010/impl.errCannotGoOn", laid_loop_example_g03010_impl_errCannotGoOn)], narrowed := true }
def FnCallsUptoSaid : Prop := fnCallsUptoRow.holds Tryd.pinned (OpenSpec.upto fnCallsSpec)

/-- 'laws.FnExactIsFollowed', WHERE WHAT IT READS IS OF BULK AT MOST 1048576: true; the input reads as it did. -/
def fnExactIsFollowedUptoRow : OpenClaim := { program := "ytfajdbfpacmclaadoor", sum := "535b546f17782e82bf54578296308caaa2c502072625112938f66949c5800f5d", func := "loop.example/g03010/laws.FnExactIsFollowed", spec := "fnExactIsFollowed", inPlace := ["internal/reflectlite.TypeOf"], unfollowed := true, recurses := true, named := ["loop.example/g03010/impl.errOutOfRange", "loop.example/g03010/impl.errNotDecimal"], ifaces := true, apart := false, laid := [("loop.example/g03010/impl.errNotDecimal", laid_loop_example_g03010_impl_errNotDecimal), ("loop.example/g03010/impl.errOutOfRange", laid_loop_example_g03010_impl_errOutOfRange)], narrowed := true }
def FnExactIsFollowedUptoSaid : Prop := fnExactIsFollowedUptoRow.holds Tryd.pinned (OpenSpec.upto fnExactIsFollowedSpec)

/-- 'laws.FnExactIsCalls', WHERE WHAT IT READS IS OF BULK AT MOST 1048576: true; the input reads as it did. -/
def fnExactIsCallsUptoRow : OpenClaim := { program := "ytfajdbfpacmclaadoor", sum := "535b546f17782e82bf54578296308caaa2c502072625112938f66949c5800f5d", func := "loop.example/g03010/laws.FnExactIsCalls", spec := "fnExactIsCalls", unfollowed := true, recurses := true, named := ["loop.example/g03010/impl.errCannotGoOn"], ifaces := true, apart := false, laid := [("loop.example/g03010/impl.errCannotGoOn", laid_loop_example_g03010_impl_errCannotGoOn)], narrowed := true }
def FnExactIsCallsUptoSaid : Prop := fnExactIsCallsUptoRow.holds Tryd.pinned (OpenSpec.upto fnExactIsCallsSpec)

/-- 'laws.FnExactDeclarer', WHERE WHAT IT READS IS OF BULK AT MOST 1048576: true; the input reads as it did. -/
def fnExactDeclarerUptoRow : OpenClaim := { program := "ytfajdbfpacmclaadoor", sum := "535b546f17782e82bf54578296308caaa2c502072625112938f66949c5800f5d", func := "loop.example/g03010/laws.FnExactDeclarer", spec := "fnExactDeclarer", unfollowed := true, recurses := true, named := ["loop.example/g03010/impl.errCannotGoOn"], ifaces := true, apart := false, laid := [("loop.example/g03010/impl.errCannotGoOn", laid_loop_example_g03010_impl_errCannotGoOn)], narrowed := true }
def FnExactDeclarerUptoSaid : Prop := fnExactDeclarerUptoRow.holds Tryd.pinned (OpenSpec.upto fnExactDeclarerSpec)

/-- 'laws.FnExactLegalCalls', WHERE WHAT IT READS IS OF BULK AT MOST 1048576: true; the input reads as it did. -/
def fnExactLegalCallsUptoRow : OpenClaim := { program := "ytfajdbfpacmclaadoor", sum := "535b546f17782e82bf54578296308caaa2c502072625112938f66949c5800f5d", func := "loop.example/g03010/laws.FnExactLegalCalls", spec := "fnExactLegalCalls", unfollowed := true, recurses := true, named := ["loop.example/g03010/impl.errCannotGoOn"], ifaces := true, apart := false, laid := [("loop.example/g03010/impl.errCannotGoOn", laid_loop_example_g03010_impl_errCannotGoOn)], narrowed := true }
def FnExactLegalCallsUptoSaid : Prop := fnExactLegalCallsUptoRow.holds Tryd.pinned (OpenSpec.upto fnExactLegalCallsSpec)

end Rows
end Go.Proofs.YtfajdbfpacmclaaDoor
