/-
  NARROWER THAN 'FOR EVERY INPUT', by the rows' own cells (each row's printed sentence says how): FnExactHash: ifaces, laid · FnExactKeyedHash: ifaces, laid · FnExactEncrypt: ifaces, laid · FnExactDecrypt: ifaces, laid · FnExactDeriveFromString: ifaces, laid · FnCipher: ifaces, laid · FnKeyedHash: ifaces, laid · FnExactShuffled: ifaces, laid.
  DERIVED. THE GIVEN ROWS OF THIS SEAT. 8 by the template 'for every input the law returns true; each argument reads behind the call as it read before'; 0 by the template 'total and deterministic' (their statements: YtchpkpajnjcnbaaDoorTotals.lean).
  GIVEN WITH THE SEED: the statements are not yours to turn. If you find one false, say at which input.
  Laid BY PROGRAM, IN A SANDBOX (cutbox-rows.mjs): the forced cells as the released guide's own fill.sh prints them over the translation 123da88c1c56e435… (all of the seat's roots in one cut). By AI agents, Wed Nov 11 2026. No macro, syntax, notation, axiom, sorry.
-/
import Derived.Test.YtchpkpajnjcnbaaDoorChecked
import GoSem.Claim
import GoSem.ClaimJoined
import GoSem.ClaimMapViews
import Derived.JoinedTies
import Derived.KernelRfl
namespace Go.Proofs.YtchpkpajnjcnbaaDoor
/- THE CELL 'sum', in the pinned program and in every row, IS THE sha256 OF THE DUMP (.gsa) THAT YtchpkpajnjcnbaaDoorProg.lean LOADS. Nothing in Lean hashes anything: it is a label: what it is worth is what the hold of that sum in a sandbox is worth. -/
noncomputable def Tryd.pinned : Pinned := { name := "ytchpkpajnjcnbaadoor", sum := "123da88c1c56e435faf98a5d0129041a749e740b2440ce584230589ab4005089", checked := Tryd.checked }
namespace Rows
def none {H : Type} : Left H := { results := [], args := [] }

/- WHAT THE LISTED PACKAGE-LEVEL VARIABLES READ AS WHEN THE CALL BEGINS. Each datum BY PROGRAM (the guide's laid-datum.mjs) off the statement by which the dump's own 'gosem.cut.vars' lays the variable. In a bare row this is a premise. The card (YtchpkpajnjcnbaaDoorCards.lean) ties it to the program's text. -/
def laid_loop_example_g03010_impl_errNotDecimal {H : Type} : DataW H := .iface "*errors.errorString" (.ptr (.agg [.lit (.string [110, 111, 116, 32, 116, 104, 101, 32, 100, 101, 99, 105, 109, 97, 108, 32, 102, 111, 114, 109, 32, 111, 102, 32, 97, 110, 32, 105, 110, 116, 101, 103, 101, 114])]))
def laid_loop_example_g03010_impl_errOutOfRange {H : Type} : DataW H := .iface "*errors.errorString" (.ptr (.agg [.lit (.string [105, 110, 116, 101, 103, 101, 114, 32, 111, 117, 116, 32, 111, 102, 32, 114, 97, 110, 103, 101])]))

/-- 'laws.FnExactHash': WHATEVER THE INPUT: true; the input reads as it did. -/
def fnExactHashSpec : ChangeSpec := { name := "fnExactHash", vars := ["loop.example/g03010/impl.errOutOfRange", "loop.example/g03010/impl.errNotDecimal"], fn := fun _ => fun
  | [d, g1, g2] => { results := [.lit (.bool true)], args := [d], vars := [g1, g2] }
  | _ => none }
def fnExactHashRow : OpenClaim := { program := "ytchpkpajnjcnbaadoor", sum := "123da88c1c56e435faf98a5d0129041a749e740b2440ce584230589ab4005089", func := "loop.example/g03010/laws.FnExactHash", spec := "fnExactHash", inPlace := ["internal/reflectlite.TypeOf"], unfollowed := true, recurses := true, named := ["loop.example/g03010/impl.errOutOfRange", "loop.example/g03010/impl.errNotDecimal"], ifaces := true, apart := false, laid := [("loop.example/g03010/impl.errNotDecimal", laid_loop_example_g03010_impl_errNotDecimal), ("loop.example/g03010/impl.errOutOfRange", laid_loop_example_g03010_impl_errOutOfRange)] }
def FnExactHashSaid : Prop := fnExactHashRow.holds Tryd.pinned (OpenSpec.ofChange fnExactHashSpec)

/-- ITS FALSE NEIGHBOUR: 'it returns false'. Refute it at one input. -/
def fnExactHashWrong : ChangeSpec := { name := "fnExactHash", vars := ["loop.example/g03010/impl.errOutOfRange", "loop.example/g03010/impl.errNotDecimal"], fn := fun _ => fun
  | [d, g1, g2] => { results := [.lit (.bool false)], args := [d], vars := [g1, g2] }
  | _ => none }
def FnExactHashWrongFalsely : Prop := fnExactHashRow.holds Tryd.pinned (OpenSpec.ofChange fnExactHashWrong)

/-- 'laws.FnExactKeyedHash': WHATEVER THE INPUT: true; the input reads as it did. -/
def fnExactKeyedHashSpec : ChangeSpec := { name := "fnExactKeyedHash", vars := ["loop.example/g03010/impl.errOutOfRange", "loop.example/g03010/impl.errNotDecimal"], fn := fun _ => fun
  | [d1, d2, g1, g2] => { results := [.lit (.bool true)], args := [d1, d2], vars := [g1, g2] }
  | _ => none }
def fnExactKeyedHashRow : OpenClaim := { program := "ytchpkpajnjcnbaadoor", sum := "123da88c1c56e435faf98a5d0129041a749e740b2440ce584230589ab4005089", func := "loop.example/g03010/laws.FnExactKeyedHash", spec := "fnExactKeyedHash", inPlace := ["internal/reflectlite.TypeOf"], unfollowed := true, recurses := true, named := ["loop.example/g03010/impl.errOutOfRange", "loop.example/g03010/impl.errNotDecimal"], ifaces := true, apart := false, laid := [("loop.example/g03010/impl.errNotDecimal", laid_loop_example_g03010_impl_errNotDecimal), ("loop.example/g03010/impl.errOutOfRange", laid_loop_example_g03010_impl_errOutOfRange)] }
def FnExactKeyedHashSaid : Prop := fnExactKeyedHashRow.holds Tryd.pinned (OpenSpec.ofChange fnExactKeyedHashSpec)

/-- ITS FALSE NEIGHBOUR: 'it returns false'. Refute it at one input. -/
def fnExactKeyedHashWrong : ChangeSpec := { name := "fnExactKeyedHash", vars := ["loop.example/g03010/impl.errOutOfRange", "loop.example/g03010/impl.errNotDecimal"], fn := fun _ => fun
  | [d1, d2, g1, g2] => { results := [.lit (.bool false)], args := [d1, d2], vars := [g1, g2] }
  | _ => none }
def FnExactKeyedHashWrongFalsely : Prop := fnExactKeyedHashRow.holds Tryd.pinned (OpenSpec.ofChange fnExactKeyedHashWrong)

/-- 'laws.FnExactEncrypt': WHATEVER THE INPUT: true; the input reads as it did. -/
def fnExactEncryptSpec : ChangeSpec := { name := "fnExactEncrypt", vars := ["loop.example/g03010/impl.errOutOfRange", "loop.example/g03010/impl.errNotDecimal"], fn := fun _ => fun
  | [d1, d2, g1, g2] => { results := [.lit (.bool true)], args := [d1, d2], vars := [g1, g2] }
  | _ => none }
def fnExactEncryptRow : OpenClaim := { program := "ytchpkpajnjcnbaadoor", sum := "123da88c1c56e435faf98a5d0129041a749e740b2440ce584230589ab4005089", func := "loop.example/g03010/laws.FnExactEncrypt", spec := "fnExactEncrypt", inPlace := ["internal/reflectlite.TypeOf"], unfollowed := true, recurses := true, named := ["loop.example/g03010/impl.errOutOfRange", "loop.example/g03010/impl.errNotDecimal"], ifaces := true, apart := false, laid := [("loop.example/g03010/impl.errNotDecimal", laid_loop_example_g03010_impl_errNotDecimal), ("loop.example/g03010/impl.errOutOfRange", laid_loop_example_g03010_impl_errOutOfRange)] }
def FnExactEncryptSaid : Prop := fnExactEncryptRow.holds Tryd.pinned (OpenSpec.ofChange fnExactEncryptSpec)

/-- ITS FALSE NEIGHBOUR: 'it returns false'. Refute it at one input. -/
def fnExactEncryptWrong : ChangeSpec := { name := "fnExactEncrypt", vars := ["loop.example/g03010/impl.errOutOfRange", "loop.example/g03010/impl.errNotDecimal"], fn := fun _ => fun
  | [d1, d2, g1, g2] => { results := [.lit (.bool false)], args := [d1, d2], vars := [g1, g2] }
  | _ => none }
def FnExactEncryptWrongFalsely : Prop := fnExactEncryptRow.holds Tryd.pinned (OpenSpec.ofChange fnExactEncryptWrong)

/-- 'laws.FnExactDecrypt': WHATEVER THE INPUT: true; the input reads as it did. -/
def fnExactDecryptSpec : ChangeSpec := { name := "fnExactDecrypt", vars := ["loop.example/g03010/impl.errOutOfRange", "loop.example/g03010/impl.errNotDecimal"], fn := fun _ => fun
  | [d1, d2, g1, g2] => { results := [.lit (.bool true)], args := [d1, d2], vars := [g1, g2] }
  | _ => none }
def fnExactDecryptRow : OpenClaim := { program := "ytchpkpajnjcnbaadoor", sum := "123da88c1c56e435faf98a5d0129041a749e740b2440ce584230589ab4005089", func := "loop.example/g03010/laws.FnExactDecrypt", spec := "fnExactDecrypt", inPlace := ["internal/reflectlite.TypeOf"], unfollowed := true, recurses := true, named := ["loop.example/g03010/impl.errOutOfRange", "loop.example/g03010/impl.errNotDecimal"], ifaces := true, apart := false, laid := [("loop.example/g03010/impl.errNotDecimal", laid_loop_example_g03010_impl_errNotDecimal), ("loop.example/g03010/impl.errOutOfRange", laid_loop_example_g03010_impl_errOutOfRange)] }
def FnExactDecryptSaid : Prop := fnExactDecryptRow.holds Tryd.pinned (OpenSpec.ofChange fnExactDecryptSpec)

/-- ITS FALSE NEIGHBOUR: 'it returns false'. Refute it at one input. -/
def fnExactDecryptWrong : ChangeSpec := { name := "fnExactDecrypt", vars := ["loop.example/g03010/impl.errOutOfRange", "loop.example/g03010/impl.errNotDecimal"], fn := fun _ => fun
  | [d1, d2, g1, g2] => { results := [.lit (.bool false)], args := [d1, d2], vars := [g1, g2] }
  | _ => none }
def FnExactDecryptWrongFalsely : Prop := fnExactDecryptRow.holds Tryd.pinned (OpenSpec.ofChange fnExactDecryptWrong)

/-- 'laws.FnExactDeriveFromString': WHATEVER THE INPUT: true; the input reads as it did. -/
def fnExactDeriveFromStringSpec : ChangeSpec := { name := "fnExactDeriveFromString", vars := ["loop.example/g03010/impl.errOutOfRange", "loop.example/g03010/impl.errNotDecimal"], fn := fun _ => fun
  | [d1, d2, g1, g2] => { results := [.lit (.bool true)], args := [d1, d2], vars := [g1, g2] }
  | _ => none }
def fnExactDeriveFromStringRow : OpenClaim := { program := "ytchpkpajnjcnbaadoor", sum := "123da88c1c56e435faf98a5d0129041a749e740b2440ce584230589ab4005089", func := "loop.example/g03010/laws.FnExactDeriveFromString", spec := "fnExactDeriveFromString", inPlace := ["internal/reflectlite.TypeOf"], unfollowed := true, recurses := true, named := ["loop.example/g03010/impl.errOutOfRange", "loop.example/g03010/impl.errNotDecimal"], ifaces := true, apart := false, laid := [("loop.example/g03010/impl.errNotDecimal", laid_loop_example_g03010_impl_errNotDecimal), ("loop.example/g03010/impl.errOutOfRange", laid_loop_example_g03010_impl_errOutOfRange)] }
def FnExactDeriveFromStringSaid : Prop := fnExactDeriveFromStringRow.holds Tryd.pinned (OpenSpec.ofChange fnExactDeriveFromStringSpec)

/-- ITS FALSE NEIGHBOUR: 'it returns false'. Refute it at one input. -/
def fnExactDeriveFromStringWrong : ChangeSpec := { name := "fnExactDeriveFromString", vars := ["loop.example/g03010/impl.errOutOfRange", "loop.example/g03010/impl.errNotDecimal"], fn := fun _ => fun
  | [d1, d2, g1, g2] => { results := [.lit (.bool false)], args := [d1, d2], vars := [g1, g2] }
  | _ => none }
def FnExactDeriveFromStringWrongFalsely : Prop := fnExactDeriveFromStringRow.holds Tryd.pinned (OpenSpec.ofChange fnExactDeriveFromStringWrong)

/-- 'laws.FnCipher': WHATEVER THE INPUT: true; the input reads as it did. -/
def fnCipherSpec : ChangeSpec := { name := "fnCipher", vars := ["loop.example/g03010/impl.errOutOfRange", "loop.example/g03010/impl.errNotDecimal"], fn := fun _ => fun
  | [d, g1, g2] => { results := [.lit (.bool true)], args := [d], vars := [g1, g2] }
  | _ => none }
def fnCipherRow : OpenClaim := { program := "ytchpkpajnjcnbaadoor", sum := "123da88c1c56e435faf98a5d0129041a749e740b2440ce584230589ab4005089", func := "loop.example/g03010/laws.FnCipher", spec := "fnCipher", inPlace := ["internal/reflectlite.TypeOf"], unfollowed := true, recurses := true, named := ["loop.example/g03010/impl.errOutOfRange", "loop.example/g03010/impl.errNotDecimal"], ifaces := true, apart := false, laid := [("loop.example/g03010/impl.errNotDecimal", laid_loop_example_g03010_impl_errNotDecimal), ("loop.example/g03010/impl.errOutOfRange", laid_loop_example_g03010_impl_errOutOfRange)] }
def FnCipherSaid : Prop := fnCipherRow.holds Tryd.pinned (OpenSpec.ofChange fnCipherSpec)

/-- ITS FALSE NEIGHBOUR: 'it returns false'. Refute it at one input. -/
def fnCipherWrong : ChangeSpec := { name := "fnCipher", vars := ["loop.example/g03010/impl.errOutOfRange", "loop.example/g03010/impl.errNotDecimal"], fn := fun _ => fun
  | [d, g1, g2] => { results := [.lit (.bool false)], args := [d], vars := [g1, g2] }
  | _ => none }
def FnCipherWrongFalsely : Prop := fnCipherRow.holds Tryd.pinned (OpenSpec.ofChange fnCipherWrong)

/-- 'laws.FnKeyedHash': WHATEVER THE INPUT: true; the input reads as it did. -/
def fnKeyedHashSpec : ChangeSpec := { name := "fnKeyedHash", vars := ["loop.example/g03010/impl.errOutOfRange", "loop.example/g03010/impl.errNotDecimal"], fn := fun _ => fun
  | [d, g1, g2] => { results := [.lit (.bool true)], args := [d], vars := [g1, g2] }
  | _ => none }
def fnKeyedHashRow : OpenClaim := { program := "ytchpkpajnjcnbaadoor", sum := "123da88c1c56e435faf98a5d0129041a749e740b2440ce584230589ab4005089", func := "loop.example/g03010/laws.FnKeyedHash", spec := "fnKeyedHash", inPlace := ["internal/reflectlite.TypeOf"], unfollowed := true, recurses := true, named := ["loop.example/g03010/impl.errOutOfRange", "loop.example/g03010/impl.errNotDecimal"], ifaces := true, apart := false, laid := [("loop.example/g03010/impl.errNotDecimal", laid_loop_example_g03010_impl_errNotDecimal), ("loop.example/g03010/impl.errOutOfRange", laid_loop_example_g03010_impl_errOutOfRange)] }
def FnKeyedHashSaid : Prop := fnKeyedHashRow.holds Tryd.pinned (OpenSpec.ofChange fnKeyedHashSpec)

/-- ITS FALSE NEIGHBOUR: 'it returns false'. Refute it at one input. -/
def fnKeyedHashWrong : ChangeSpec := { name := "fnKeyedHash", vars := ["loop.example/g03010/impl.errOutOfRange", "loop.example/g03010/impl.errNotDecimal"], fn := fun _ => fun
  | [d, g1, g2] => { results := [.lit (.bool false)], args := [d], vars := [g1, g2] }
  | _ => none }
def FnKeyedHashWrongFalsely : Prop := fnKeyedHashRow.holds Tryd.pinned (OpenSpec.ofChange fnKeyedHashWrong)

/-- 'laws.FnExactShuffled': WHATEVER THE INPUT: true; the input reads as it did. -/
def fnExactShuffledSpec : ChangeSpec := { name := "fnExactShuffled", vars := ["loop.example/g03010/impl.errOutOfRange", "loop.example/g03010/impl.errNotDecimal"], fn := fun _ => fun
  | [d1, d2, g1, g2] => { results := [.lit (.bool true)], args := [d1, d2], vars := [g1, g2] }
  | _ => none }
def fnExactShuffledRow : OpenClaim := { program := "ytchpkpajnjcnbaadoor", sum := "123da88c1c56e435faf98a5d0129041a749e740b2440ce584230589ab4005089", func := "loop.example/g03010/laws.FnExactShuffled", spec := "fnExactShuffled", inPlace := ["internal/reflectlite.TypeOf"], unfollowed := true, recurses := true, named := ["loop.example/g03010/impl.errOutOfRange", "loop.example/g03010/impl.errNotDecimal"], ifaces := true, apart := false, laid := [("loop.example/g03010/impl.errNotDecimal", laid_loop_example_g03010_impl_errNotDecimal), ("loop.example/g03010/impl.errOutOfRange", laid_loop_example_g03010_impl_errOutOfRange)] }
def FnExactShuffledSaid : Prop := fnExactShuffledRow.holds Tryd.pinned (OpenSpec.ofChange fnExactShuffledSpec)

/-- ITS FALSE NEIGHBOUR: 'it returns false'. Refute it at one input. -/
def fnExactShuffledWrong : ChangeSpec := { name := "fnExactShuffled", vars := ["loop.example/g03010/impl.errOutOfRange", "loop.example/g03010/impl.errNotDecimal"], fn := fun _ => fun
  | [d1, d2, g1, g2] => { results := [.lit (.bool false)], args := [d1, d2], vars := [g1, g2] }
  | _ => none }
def FnExactShuffledWrongFalsely : Prop := fnExactShuffledRow.holds Tryd.pinned (OpenSpec.ofChange fnExactShuffledWrong)

/- THE SECOND FORM. 'bulk': how many values and letters a reading holds, each counted each time it is reached (what is shared counts as often as it is met; a slice's spare places count too). A statement '..UptoSaid' is the law's where the arguments, and the package variables that the reading takes, are together of bulk at most 1048576: NARROWER than '..Said'. Prove '..Said' where nothing that the law and all that it calls make is longer than what came in: it says more and counts as full. Else prove '..UptoSaid'. A law counts once. -/
mutual
def uptoBulk {H : Type} : DataW H → Nat
  | .lit (.string bytes) => bytes.length + 1
  | .lit _ => 1
  | .nil => 1
  | .ptr d => uptoBulk d + 1
  | .slice elems spare => uptoBulkAll elems + uptoBulkAll spare + 1
  | .agg parts => uptoBulkAll parts + 1
  | .iface _ d => uptoBulk d + 1
  | .map entries => uptoBulkEntries entries + 1
  | .held _ => 1
def uptoBulkAll {H : Type} : List (DataW H) → Nat
  | [] => 0
  | d :: r => uptoBulk d + uptoBulkAll r
def uptoBulkEntries {H : Type} : List (Lit × DataW H) → Nat
  | [] => 0
  | x :: r => uptoBulkEntry x + uptoBulkEntries r
def uptoBulkEntry {H : Type} : Lit × DataW H → Nat
  | (.string bytes, d) => bytes.length + uptoBulk d + 1
  | (_, d) => uptoBulk d + 1
 end
def uptoSmall : (H : Type) → List (DataW H) → Bool := fun _ ds => decide (uptoBulkAll ds ≤ 1048576)
def OpenSpec.upto (s : _root_.Go.ChangeSpec) : _root_.Go.OpenSpec := { _root_.Go.OpenSpec.ofChange s with cond := some uptoSmall }

/-- 'laws.FnExactHash', WHERE WHAT IT READS IS OF BULK AT MOST 1048576: true; the input reads as it did. -/
def fnExactHashUptoRow : OpenClaim := { program := "ytchpkpajnjcnbaadoor", sum := "123da88c1c56e435faf98a5d0129041a749e740b2440ce584230589ab4005089", func := "loop.example/g03010/laws.FnExactHash", spec := "fnExactHash", inPlace := ["internal/reflectlite.TypeOf"], unfollowed := true, recurses := true, named := ["loop.example/g03010/impl.errOutOfRange", "loop.example/g03010/impl.errNotDecimal"], ifaces := true, apart := false, laid := [("loop.example/g03010/impl.errNotDecimal", laid_loop_example_g03010_impl_errNotDecimal), ("loop.example/g03010/impl.errOutOfRange", laid_loop_example_g03010_impl_errOutOfRange)], narrowed := true }
def FnExactHashUptoSaid : Prop := fnExactHashUptoRow.holds Tryd.pinned (OpenSpec.upto fnExactHashSpec)

/-- 'laws.FnExactKeyedHash', WHERE WHAT IT READS IS OF BULK AT MOST 1048576: true; the input reads as it did. -/
def fnExactKeyedHashUptoRow : OpenClaim := { program := "ytchpkpajnjcnbaadoor", sum := "123da88c1c56e435faf98a5d0129041a749e740b2440ce584230589ab4005089", func := "loop.example/g03010/laws.FnExactKeyedHash", spec := "fnExactKeyedHash", inPlace := ["internal/reflectlite.TypeOf"], unfollowed := true, recurses := true, named := ["loop.example/g03010/impl.errOutOfRange", "loop.example/g03010/impl.errNotDecimal"], ifaces := true, apart := false, laid := [("loop.example/g03010/impl.errNotDecimal", laid_loop_example_g03010_impl_errNotDecimal), ("loop.example/g03010/impl.errOutOfRange", laid_loop_example_g03010_impl_errOutOfRange)], narrowed := true }
def FnExactKeyedHashUptoSaid : Prop := fnExactKeyedHashUptoRow.holds Tryd.pinned (OpenSpec.upto fnExactKeyedHashSpec)

/-- 'laws.FnExactEncrypt', WHERE WHAT IT READS IS OF BULK AT MOST 1048576: true; the input reads as it did. -/
def fnExactEncryptUptoRow : OpenClaim := { program := "ytchpkpajnjcnbaadoor", sum := "123da88c1c56e435faf98a5d0129041a749e740b2440ce584230589ab4005089", func := "loop.example/g03010/laws.FnExactEncrypt", spec := "fnExactEncrypt", inPlace := ["internal/reflectlite.TypeOf"], unfollowed := true, recurses := true, named := ["loop.example/g03010/impl.errOutOfRange", "loop.example/g03010/impl.errNotDecimal"], ifaces := true, apart := false, laid := [("loop.example/g03010/impl.errNotDecimal", laid_loop_example_g03010_impl_errNotDecimal), ("loop.example/g03010/impl.errOutOfRange", laid_loop_example_g03010_impl_errOutOfRange)], narrowed := true }
def FnExactEncryptUptoSaid : Prop := fnExactEncryptUptoRow.holds Tryd.pinned (OpenSpec.upto fnExactEncryptSpec)

/-- 'laws.FnExactDecrypt', WHERE WHAT IT READS IS OF BULK AT MOST 1048576: true; the input reads as it did. -/
def fnExactDecryptUptoRow : OpenClaim := { program := "ytchpkpajnjcnbaadoor", sum := "123da88c1c56e435faf98a5d0129041a749e740b2440ce584230589ab4005089", func := "loop.example/g03010/laws.FnExactDecrypt", spec := "fnExactDecrypt", inPlace := ["internal/reflectlite.TypeOf"], unfollowed := true, recurses := true, named := ["loop.example/g03010/impl.errOutOfRange", "loop.example/g03010/impl.errNotDecimal"], ifaces := true, apart := false, laid := [("loop.example/g03010/impl.errNotDecimal", laid_loop_example_g03010_impl_errNotDecimal), ("loop.example/g03010/impl.errOutOfRange", laid_loop_example_g03010_impl_errOutOfRange)], narrowed := true }
def FnExactDecryptUptoSaid : Prop := fnExactDecryptUptoRow.holds Tryd.pinned (OpenSpec.upto fnExactDecryptSpec)

/-- 'laws.FnExactDeriveFromString', WHERE WHAT IT READS IS OF BULK AT MOST 1048576: true; the input reads as it did. -/
def fnExactDeriveFromStringUptoRow : OpenClaim := { program := "ytchpkpajnjcnbaadoor", sum := "123da88c1c56e435faf98a5d0129041a749e740b2440ce584230589ab4005089", func := "loop.example/g03010/laws.FnExactDeriveFromString", spec := "fnExactDeriveFromString", inPlace := ["internal/reflectlite.TypeOf"], unfollowed := true, recurses := true, named := ["loop.example/g03010/impl.errOutOfRange", "loop.example/g03010/impl.errNotDecimal"], ifaces := true, apart := false, laid := [("loop.example/g03010/impl.errNotDecimal", laid_loop_example_g03010_impl_errNotDecimal), ("loop.example/g03010/impl.errOutOfRange", laid_loop_example_g03010_impl_errOutOfRange)], narrowed := true }
def FnExactDeriveFromStringUptoSaid : Prop := fnExactDeriveFromStringUptoRow.holds Tryd.pinned (OpenSpec.upto fnExactDeriveFromStringSpec)

/-- 'laws.FnCipher', WHERE WHAT IT READS IS OF BULK AT MOST 1048576: true; the input reads as it did. -/
def fnCipherUptoRow : OpenClaim := { program := "ytchpkpajnjcnbaadoor", sum := "123da88c1c56e435faf98a5d0129041a749e740b2440ce584230589ab4005089", func := "loop.example/g03010/laws.FnCipher", spec := "fnCipher", inPlace := ["internal/reflectlite.TypeOf"], unfollowed := true, recurses := true, named := ["loop.example/g03010/impl.errOutOfRange", "loop.example/g03010/impl.errNotDecimal"], ifaces := true, apart := false, laid := [("loop.example/g03010/impl.errNotDecimal", laid_loop_example_g03010_impl_errNotDecimal), ("loop.example/g03010/impl.errOutOfRange", laid_loop_example_g03010_impl_errOutOfRange)], narrowed := true }
def FnCipherUptoSaid : Prop := fnCipherUptoRow.holds Tryd.pinned (OpenSpec.upto fnCipherSpec)

/-- 'laws.FnKeyedHash', WHERE WHAT IT READS IS OF BULK AT MOST 1048576: true; the input reads as it did. -/
def fnKeyedHashUptoRow : OpenClaim := { program := "ytchpkpajnjcnbaadoor", sum := "123da88c1c56e435faf98a5d0129041a749e740b2440ce584230589ab4005089", func := "loop.example/g03010/laws.FnKeyedHash", spec := "fnKeyedHash", inPlace := ["internal/reflectlite.TypeOf"], unfollowed := true, recurses := true, named := ["loop.example/g03010/impl.errOutOfRange", "loop.example/g03010/impl.errNotDecimal"], ifaces := true, apart := false, laid := [("loop.example/g03010/impl.errNotDecimal", laid_loop_example_g03010_impl_errNotDecimal), ("loop.example/g03010/impl.errOutOfRange", laid_loop_example_g03010_impl_errOutOfRange)], narrowed := true }
def FnKeyedHashUptoSaid : Prop := fnKeyedHashUptoRow.holds Tryd.pinned (OpenSpec.upto fnKeyedHashSpec)

/-- 'laws.FnExactShuffled', WHERE WHAT IT READS IS OF BULK AT MOST 1048576: true; the input reads as it did. -/
def fnExactShuffledUptoRow : OpenClaim := { program := "ytchpkpajnjcnbaadoor", sum := "123da88c1c56e435faf98a5d0129041a749e740b2440ce584230589ab4005089", func := "loop.example/g03010/laws.FnExactShuffled", spec := "fnExactShuffled", inPlace := ["internal/reflectlite.TypeOf"], unfollowed := true, recurses := true, named := ["loop.example/g03010/impl.errOutOfRange", "loop.example/g03010/impl.errNotDecimal"], ifaces := true, apart := false, laid := [("loop.example/g03010/impl.errNotDecimal", laid_loop_example_g03010_impl_errNotDecimal), ("loop.example/g03010/impl.errOutOfRange", laid_loop_example_g03010_impl_errOutOfRange)], narrowed := true }
def FnExactShuffledUptoSaid : Prop := fnExactShuffledUptoRow.holds Tryd.pinned (OpenSpec.upto fnExactShuffledSpec)

end Rows
end Go.Proofs.YtchpkpajnjcnbaaDoor
