/-
  NARROWER THAN 'FOR EVERY INPUT', by the rows' own cells (each row's printed sentence says how): FnExactEventName: laid · FnExactSeatsFor: ifaces, laid · FnExactRotateKinds: ifaces, laid.
  DERIVED. THE GIVEN ROWS OF THIS SEAT. 3 by the template 'for every input the law returns true; each argument reads behind the call as it read before'; 0 by the template 'total and deterministic' (their statements: YtjlcmocepnlibaaDoorTotals.lean).
  GIVEN WITH THE SEED: the statements are not yours to turn. If you find one false, say at which input.
  Laid BY PROGRAM, IN A SANDBOX (cutbox-rows.mjs): the forced cells as the released guide's own fill.sh prints them over the translation 08f6f111a074b742… (all of the seat's roots in one cut). By AI agents, Wed Nov 11 2026. No macro, syntax, notation, axiom, sorry.
-/
import Derived.Test.YtjlcmocepnlibaaDoorChecked
import GoSem.Claim
import GoSem.ClaimJoined
import GoSem.ClaimMapViews
import Derived.JoinedTies
import Derived.KernelRfl
namespace Go.Proofs.YtjlcmocepnlibaaDoor
/- THE CELL 'sum', in the pinned program and in every row, IS THE sha256 OF THE DUMP (.gsa) THAT YtjlcmocepnlibaaDoorProg.lean LOADS. Nothing in Lean hashes anything: it is a label: what it is worth is what the hold of that sum in a sandbox is worth. -/
noncomputable def Tryd.pinned : Pinned := { name := "ytjlcmocepnlibaadoor", sum := "08f6f111a074b74264e041cd634c391971595984f7197808976ffbc90c81ef7f", checked := Tryd.checked }
namespace Rows
def none {H : Type} : Left H := { results := [], args := [] }

/- WHAT THE LISTED PACKAGE-LEVEL VARIABLES READ AS WHEN THE CALL BEGINS. Each datum BY PROGRAM (the guide's laid-datum.mjs) off the statement by which the dump's own 'gosem.cut.vars' lays the variable. In a bare row this is a premise. The card (YtjlcmocepnlibaaDoorCards.lean) ties it to the program's text. -/
def laid_loop_example_g03010_impl_eventNames {H : Type} : DataW H := .agg [.lit (.string []), .lit (.string [115, 101, 97, 108]), .lit (.string [100, 101, 97, 108]), .lit (.string [112, 108, 97, 121]), .lit (.string [116, 97, 107, 101]), .lit (.string [115, 101, 116, 116, 108, 101])]
def laid_loop_example_g03010_impl_errNotDecimal {H : Type} : DataW H := .iface "*errors.errorString" (.ptr (.agg [.lit (.string [110, 111, 116, 32, 116, 104, 101, 32, 100, 101, 99, 105, 109, 97, 108, 32, 102, 111, 114, 109, 32, 111, 102, 32, 97, 110, 32, 105, 110, 116, 101, 103, 101, 114])]))
def laid_loop_example_g03010_impl_errOutOfRange {H : Type} : DataW H := .iface "*errors.errorString" (.ptr (.agg [.lit (.string [105, 110, 116, 101, 103, 101, 114, 32, 111, 117, 116, 32, 111, 102, 32, 114, 97, 110, 103, 101])]))

/-- 'laws.FnExactEventName': WHATEVER THE INPUT: true; the input reads as it did. -/
def fnExactEventNameSpec : ChangeSpec := { name := "fnExactEventName", vars := ["loop.example/g03010/impl.eventNames"], fn := fun _ => fun
  | [d, g1] => { results := [.lit (.bool true)], args := [d], vars := [g1] }
  | _ => none }
def fnExactEventNameRow : OpenClaim := { program := "ytjlcmocepnlibaadoor", sum := "08f6f111a074b74264e041cd634c391971595984f7197808976ffbc90c81ef7f", func := "loop.example/g03010/laws.FnExactEventName", spec := "fnExactEventName", named := ["loop.example/g03010/impl.eventNames"], apart := false, laid := [("loop.example/g03010/impl.eventNames", laid_loop_example_g03010_impl_eventNames)] }
def FnExactEventNameSaid : Prop := fnExactEventNameRow.holds Tryd.pinned (OpenSpec.ofChange fnExactEventNameSpec)

/-- ITS FALSE NEIGHBOUR: 'it returns false'. Refute it at one input. -/
def fnExactEventNameWrong : ChangeSpec := { name := "fnExactEventName", vars := ["loop.example/g03010/impl.eventNames"], fn := fun _ => fun
  | [d, g1] => { results := [.lit (.bool false)], args := [d], vars := [g1] }
  | _ => none }
def FnExactEventNameWrongFalsely : Prop := fnExactEventNameRow.holds Tryd.pinned (OpenSpec.ofChange fnExactEventNameWrong)

/-- 'laws.FnExactSeatsFor': WHATEVER THE INPUT: true; the input reads as it did. -/
def fnExactSeatsForSpec : ChangeSpec := { name := "fnExactSeatsFor", vars := ["loop.example/g03010/impl.errOutOfRange", "loop.example/g03010/impl.errNotDecimal"], fn := fun _ => fun
  | [d1, d2, g1, g2] => { results := [.lit (.bool true)], args := [d1, d2], vars := [g1, g2] }
  | _ => none }
def fnExactSeatsForRow : OpenClaim := { program := "ytjlcmocepnlibaadoor", sum := "08f6f111a074b74264e041cd634c391971595984f7197808976ffbc90c81ef7f", func := "loop.example/g03010/laws.FnExactSeatsFor", spec := "fnExactSeatsFor", inPlace := ["internal/reflectlite.TypeOf"], unfollowed := true, recurses := true, named := ["loop.example/g03010/impl.errOutOfRange", "loop.example/g03010/impl.errNotDecimal"], ifaces := true, apart := false, laid := [("loop.example/g03010/impl.errNotDecimal", laid_loop_example_g03010_impl_errNotDecimal), ("loop.example/g03010/impl.errOutOfRange", laid_loop_example_g03010_impl_errOutOfRange)] }
def FnExactSeatsForSaid : Prop := fnExactSeatsForRow.holds Tryd.pinned (OpenSpec.ofChange fnExactSeatsForSpec)

/-- ITS FALSE NEIGHBOUR: 'it returns false'. Refute it at one input. -/
def fnExactSeatsForWrong : ChangeSpec := { name := "fnExactSeatsFor", vars := ["loop.example/g03010/impl.errOutOfRange", "loop.example/g03010/impl.errNotDecimal"], fn := fun _ => fun
  | [d1, d2, g1, g2] => { results := [.lit (.bool false)], args := [d1, d2], vars := [g1, g2] }
  | _ => none }
def FnExactSeatsForWrongFalsely : Prop := fnExactSeatsForRow.holds Tryd.pinned (OpenSpec.ofChange fnExactSeatsForWrong)

/-- 'laws.FnExactRotateKinds': WHATEVER THE INPUT: true; the input reads as it did. -/
def fnExactRotateKindsSpec : ChangeSpec := { name := "fnExactRotateKinds", vars := ["loop.example/g03010/impl.errOutOfRange", "loop.example/g03010/impl.errNotDecimal"], fn := fun _ => fun
  | [d1, d2, g1, g2] => { results := [.lit (.bool true)], args := [d1, d2], vars := [g1, g2] }
  | _ => none }
def fnExactRotateKindsRow : OpenClaim := { program := "ytjlcmocepnlibaadoor", sum := "08f6f111a074b74264e041cd634c391971595984f7197808976ffbc90c81ef7f", func := "loop.example/g03010/laws.FnExactRotateKinds", spec := "fnExactRotateKinds", inPlace := ["internal/reflectlite.TypeOf"], unfollowed := true, recurses := true, named := ["loop.example/g03010/impl.errOutOfRange", "loop.example/g03010/impl.errNotDecimal"], ifaces := true, apart := false, laid := [("loop.example/g03010/impl.errNotDecimal", laid_loop_example_g03010_impl_errNotDecimal), ("loop.example/g03010/impl.errOutOfRange", laid_loop_example_g03010_impl_errOutOfRange)] }
def FnExactRotateKindsSaid : Prop := fnExactRotateKindsRow.holds Tryd.pinned (OpenSpec.ofChange fnExactRotateKindsSpec)

/-- ITS FALSE NEIGHBOUR: 'it returns false'. Refute it at one input. -/
def fnExactRotateKindsWrong : ChangeSpec := { name := "fnExactRotateKinds", vars := ["loop.example/g03010/impl.errOutOfRange", "loop.example/g03010/impl.errNotDecimal"], fn := fun _ => fun
  | [d1, d2, g1, g2] => { results := [.lit (.bool false)], args := [d1, d2], vars := [g1, g2] }
  | _ => none }
def FnExactRotateKindsWrongFalsely : Prop := fnExactRotateKindsRow.holds Tryd.pinned (OpenSpec.ofChange fnExactRotateKindsWrong)

/- THE SECOND FORM. 'bulk': how many values and letters a reading holds, each counted each time it is reached (what is shared counts as often as it is met; a slice's spare places count too). A statement '..UptoSaid' is the law's where the arguments, and the package variables that the reading takes, are together of bulk at most 1048576: NARROWER than '..Said'. Prove '..Said' where nothing that the law and all that it calls make is longer than what came in: it says more and counts as full. Else prove '..UptoSaid'. A law counts once. -/
mutual
def uptoBulk {H : Type} : DataW H → Nat
  | .lit (.string bytes) => bytes.length + 1
  | .lit _ => 1
  | .nil => 1
  | .ptr d => uptoBulk d + 1
  | .slice elems spare => uptoBulkAll elems + uptoBulkAll spare + 1
  | .agg parts => uptoBulkAll parts + 1
  | .iface _ d => uptoBulk d + 1
  | .map entries => uptoBulkEntries entries + 1
  | .held _ => 1
def uptoBulkAll {H : Type} : List (DataW H) → Nat
  | [] => 0
  | d :: r => uptoBulk d + uptoBulkAll r
def uptoBulkEntries {H : Type} : List (Lit × DataW H) → Nat
  | [] => 0
  | x :: r => uptoBulkEntry x + uptoBulkEntries r
def uptoBulkEntry {H : Type} : Lit × DataW H → Nat
  | (.string bytes, d) => bytes.length + uptoBulk d + 1
  | (_, d) => uptoBulk d + 1
 end
def uptoSmall : (H : Type) → List (DataW H) → Bool := fun _ ds => decide (uptoBulkAll ds ≤ 1048576)
def OpenSpec.upto (s : _root_.Go.ChangeSpec) : _root_.Go.OpenSpec := { _root_.Go.OpenSpec.ofChange s with cond := some uptoSmall }

/-- 'laws.FnExactEventName', WHERE WHAT IT READS IS OF BULK AT MOST 1048576: true; the input reads as it did. -/
def fnExactEventNameUptoRow : OpenClaim := { program := "ytjlcmocepnlibaadoor", sum := "08f6f111a074b74264e041cd634c391971595984f7197808976ffbc90c81ef7f", func := "loop.example/g03010/laws.FnExactEventName", spec := "fnExactEventName", named := ["loop.example/g03010/impl.eventNames"], apart := false, laid := [("loop.example/g03010/impl.eventNames", laid_loop_example_g03010_impl_eventNames)], narrowed := true }
def FnExactEventNameUptoSaid : Prop := fnExactEventNameUptoRow.holds Tryd.pinned (OpenSpec.upto fnExactEventNameSpec)

/-- 'laws.FnExactSeatsFor', WHERE WHAT IT READS IS OF BULK AT MOST 1048576: true; the input reads as it did. -/
def fnExactSeatsForUptoRow : OpenClaim := { program := "ytjlcmocepnlibaadoor", sum := "08f6f111a074b74264e041cd634c391971595984f7197808976ffbc90c81ef7f", func := "loop.example/g03010/laws.FnExactSeatsFor", spec := "fnExactSeatsFor", inPlace := ["internal/reflectlite.TypeOf"], unfollowed := true, recurses := true, named := ["loop.example/g03010/impl.errOutOfRange", "loop.example/g03010/impl.errNotDecimal"], ifaces := true, apart := false, laid := [("loop.example/g03010/impl.errNotDecimal", laid_loop_example_g03010_impl_errNotDecimal), ("loop.example/g03010/impl.errOutOfRange", laid_loop_example_g03010_impl_errOutOfRange)], narrowed := true }
def FnExactSeatsForUptoSaid : Prop := fnExactSeatsForUptoRow.holds Tryd.pinned (OpenSpec.upto fnExactSeatsForSpec)

/-- 'laws.FnExactRotateKinds', WHERE WHAT IT READS IS OF BULK AT MOST 1048576: true; the input reads as it did. -/
def fnExactRotateKindsUptoRow : OpenClaim := { program := "ytjlcmocepnlibaadoor", sum := "08f6f111a074b74264e041cd634c391971595984f7197808976ffbc90c81ef7f", func := "loop.example/g03010/laws.FnExactRotateKinds", spec := "fnExactRotateKinds", inPlace := ["internal/reflectlite.TypeOf"], unfollowed := true, recurses := true, named := ["loop.example/g03010/impl.errOutOfRange", "loop.example/g03010/impl.errNotDecimal"], ifaces := true, apart := false, laid := [("loop.example/g03010/impl.errNotDecimal", laid_loop_example_g03010_impl_errNotDecimal), ("loop.example/g03010/impl.errOutOfRange", laid_loop_example_g03010_impl_errOutOfRange)], narrowed := true }
def FnExactRotateKindsUptoSaid : Prop := fnExactRotateKindsUptoRow.holds Tryd.pinned (OpenSpec.upto fnExactRotateKindsSpec)

end Rows
end Go.Proofs.YtjlcmocepnlibaaDoor
