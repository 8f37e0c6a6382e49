/-
  No cell of these rows narrows 'for every input' (looked for: loops, veiled, ifaces, maps, wideKeys, modest, calm, conditions, laid).
  DERIVED. THE GIVEN ROWS OF THIS SEAT. 4 by the template 'for every input the law returns true; each argument reads behind the call as it read before'; 0 by the template 'total and deterministic' (their statements: YtidkdheidbnkkaaTotals.lean).
  GIVEN WITH THE SEED: the statements are not yours to turn. If you find one false, say at which input.
  Laid BY PROGRAM, IN A SANDBOX (cutbox-rows.mjs): the forced cells as the released guide's own fill.sh prints them over the translation 2cff40f81b162da2… (all of the seat's roots in one cut). By AI agents, Wed Nov 11 2026. No macro, syntax, notation, axiom, sorry.
-/
import Derived.Test.YtidkdheidbnkkaaChecked
import GoSem.Claim
import GoSem.ClaimJoined
import GoSem.ClaimMapViews
import Derived.JoinedTies
import Derived.KernelRfl
namespace Go.Proofs.Ytidkdheidbnkkaa
/- THE CELL 'sum', in the pinned program and in every row, IS THE sha256 OF THE DUMP (.gsa) THAT YtidkdheidbnkkaaProg.lean LOADS. Nothing in Lean hashes anything: it is a label: what it is worth is what the hold of that sum in a sandbox is worth. -/
noncomputable def Try.pinned : Pinned := { name := "ytidkdheidbnkkaa", sum := "2cff40f81b162da234ee911a75929f336b04318ca67a2f11874f10ce6b78b28e", checked := Try.checked }
namespace Rows
def none {H : Type} : Left H := { results := [], args := [] }

/-- 'laws.FnExactHandText': WHATEVER THE INPUT: true; the input reads as it did. -/
def fnExactHandTextSpec : ChangeSpec := { name := "fnExactHandText", fn := fun _ => fun
  | [d] => { results := [.lit (.bool true)], args := [d] }
  | _ => none }
def fnExactHandTextRow : OpenClaim := { program := "ytidkdheidbnkkaa", sum := "2cff40f81b162da234ee911a75929f336b04318ca67a2f11874f10ce6b78b28e", func := "loop.example/g03010/laws.FnExactHandText", spec := "fnExactHandText", inPlace := ["internal/abi.NoEscape"], apart := false }
def FnExactHandTextSaid : Prop := fnExactHandTextRow.holds Try.pinned (OpenSpec.ofChange fnExactHandTextSpec)

/-- ITS FALSE NEIGHBOUR: 'it returns false'. Refute it at one input. -/
def fnExactHandTextWrong : ChangeSpec := { name := "fnExactHandText", fn := fun _ => fun
  | [d] => { results := [.lit (.bool false)], args := [d] }
  | _ => none }
def FnExactHandTextWrongFalsely : Prop := fnExactHandTextRow.holds Try.pinned (OpenSpec.ofChange fnExactHandTextWrong)

/-- 'laws.FnExactRecordText': WHATEVER THE INPUT: true; the input reads as it did. -/
def fnExactRecordTextSpec : ChangeSpec := { name := "fnExactRecordText", fn := fun _ => fun
  | [d] => { results := [.lit (.bool true)], args := [d] }
  | _ => none }
def fnExactRecordTextRow : OpenClaim := { program := "ytidkdheidbnkkaa", sum := "2cff40f81b162da234ee911a75929f336b04318ca67a2f11874f10ce6b78b28e", func := "loop.example/g03010/laws.FnExactRecordText", spec := "fnExactRecordText", inPlace := ["internal/abi.NoEscape"], apart := false }
def FnExactRecordTextSaid : Prop := fnExactRecordTextRow.holds Try.pinned (OpenSpec.ofChange fnExactRecordTextSpec)

/-- ITS FALSE NEIGHBOUR: 'it returns false'. Refute it at one input. -/
def fnExactRecordTextWrong : ChangeSpec := { name := "fnExactRecordText", fn := fun _ => fun
  | [d] => { results := [.lit (.bool false)], args := [d] }
  | _ => none }
def FnExactRecordTextWrongFalsely : Prop := fnExactRecordTextRow.holds Try.pinned (OpenSpec.ofChange fnExactRecordTextWrong)

/-- 'laws.FnExactSuitsText': WHATEVER THE INPUT: true; the input reads as it did. -/
def fnExactSuitsTextSpec : ChangeSpec := { name := "fnExactSuitsText", fn := fun _ => fun
  | [d] => { results := [.lit (.bool true)], args := [d] }
  | _ => none }
def fnExactSuitsTextRow : OpenClaim := { program := "ytidkdheidbnkkaa", sum := "2cff40f81b162da234ee911a75929f336b04318ca67a2f11874f10ce6b78b28e", func := "loop.example/g03010/laws.FnExactSuitsText", spec := "fnExactSuitsText", inPlace := ["internal/abi.NoEscape", "internal/bytealg.MakeNoZero"], unfollowed := true, recurses := true, apart := false }
def FnExactSuitsTextSaid : Prop := fnExactSuitsTextRow.holds Try.pinned (OpenSpec.ofChange fnExactSuitsTextSpec)

/-- ITS FALSE NEIGHBOUR: 'it returns false'. Refute it at one input. -/
def fnExactSuitsTextWrong : ChangeSpec := { name := "fnExactSuitsText", fn := fun _ => fun
  | [d] => { results := [.lit (.bool false)], args := [d] }
  | _ => none }
def FnExactSuitsTextWrongFalsely : Prop := fnExactSuitsTextRow.holds Try.pinned (OpenSpec.ofChange fnExactSuitsTextWrong)

/-- 'laws.FnExactFormatMelds': WHATEVER THE INPUT: true; the input reads as it did. -/
def fnExactFormatMeldsSpec : ChangeSpec := { name := "fnExactFormatMelds", fn := fun _ => fun
  | [d] => { results := [.lit (.bool true)], args := [d] }
  | _ => none }
def fnExactFormatMeldsRow : OpenClaim := { program := "ytidkdheidbnkkaa", sum := "2cff40f81b162da234ee911a75929f336b04318ca67a2f11874f10ce6b78b28e", func := "loop.example/g03010/laws.FnExactFormatMelds", spec := "fnExactFormatMelds", inPlace := ["internal/abi.NoEscape", "internal/bytealg.MakeNoZero"], apart := false }
def FnExactFormatMeldsSaid : Prop := fnExactFormatMeldsRow.holds Try.pinned (OpenSpec.ofChange fnExactFormatMeldsSpec)

/-- ITS FALSE NEIGHBOUR: 'it returns false'. Refute it at one input. -/
def fnExactFormatMeldsWrong : ChangeSpec := { name := "fnExactFormatMelds", fn := fun _ => fun
  | [d] => { results := [.lit (.bool false)], args := [d] }
  | _ => none }
def FnExactFormatMeldsWrongFalsely : Prop := fnExactFormatMeldsRow.holds Try.pinned (OpenSpec.ofChange fnExactFormatMeldsWrong)

/- THE SECOND FORM. 'bulk': how many values and letters a reading holds, each counted each time it is reached (what is shared counts as often as it is met; a slice's spare places count too). A statement '..UptoSaid' is the law's where the arguments, and the package variables that the reading takes, are together of bulk at most 1048576: NARROWER than '..Said'. Prove '..Said' where nothing that the law and all that it calls make is longer than what came in: it says more and counts as full. Else prove '..UptoSaid'. A law counts once. -/
mutual
def uptoBulk {H : Type} : DataW H → Nat
  | .lit (.string bytes) => bytes.length + 1
  | .lit _ => 1
  | .nil => 1
  | .ptr d => uptoBulk d + 1
  | .slice elems spare => uptoBulkAll elems + uptoBulkAll spare + 1
  | .agg parts => uptoBulkAll parts + 1
  | .iface _ d => uptoBulk d + 1
  | .map entries => uptoBulkEntries entries + 1
  | .held _ => 1
def uptoBulkAll {H : Type} : List (DataW H) → Nat
  | [] => 0
  | d :: r => uptoBulk d + uptoBulkAll r
def uptoBulkEntries {H : Type} : List (Lit × DataW H) → Nat
  | [] => 0
  | x :: r => uptoBulkEntry x + uptoBulkEntries r
def uptoBulkEntry {H : Type} : Lit × DataW H → Nat
  | (.string bytes, d) => bytes.length + uptoBulk d + 1
  | (_, d) => uptoBulk d + 1
 end
def uptoSmall : (H : Type) → List (DataW H) → Bool := fun _ ds => decide (uptoBulkAll ds ≤ 1048576)
def OpenSpec.upto (s : _root_.Go.ChangeSpec) : _root_.Go.OpenSpec := { _root_.Go.OpenSpec.ofChange s with cond := some uptoSmall }

/-- 'laws.FnExactHandText', WHERE WHAT IT READS IS OF BULK AT MOST 1048576: true; the input reads as it did. -/
def fnExactHandTextUptoRow : OpenClaim := { program := "ytidkdheidbnkkaa", sum := "2cff40f81b162da234ee911a75929f336b04318ca67a2f11874f10ce6b78b28e", func := "loop.example/g03010/laws.FnExactHandText", spec := "fnExactHandText", inPlace := ["internal/abi.NoEscape"], apart := false, narrowed := true }
def FnExactHandTextUptoSaid : Prop := fnExactHandTextUptoRow.holds Try.pinned (OpenSpec.upto fnExactHandTextSpec)

/-- 'laws.FnExactRecordText', WHERE WHAT IT READS IS OF BULK AT MOST 1048576: true; the input reads as it did. -/
def fnExactRecordTextUptoRow : OpenClaim := { program := "ytidkdheidbnkkaa", sum := "2cff40f81b162da234ee911a75929f336b04318ca67a2f11874f10ce6b78b28e", func := "loop.example/g03010/laws.FnExactRecordText", spec := "fnExactRecordText", inPlace := ["internal/abi.NoEscape"], apart := false, narrowed := true }
def FnExactRecordTextUptoSaid : Prop := fnExactRecordTextUptoRow.holds Try.pinned (OpenSpec.upto fnExactRecordTextSpec)

/-- 'laws.FnExactSuitsText', WHERE WHAT IT READS IS OF BULK AT MOST 1048576: true; the input reads as it did. -/
def fnExactSuitsTextUptoRow : OpenClaim := { program := "ytidkdheidbnkkaa", sum := "2cff40f81b162da234ee911a75929f336b04318ca67a2f11874f10ce6b78b28e", func := "loop.example/g03010/laws.FnExactSuitsText", spec := "fnExactSuitsText", inPlace := ["internal/abi.NoEscape", "internal/bytealg.MakeNoZero"], unfollowed := true, recurses := true, apart := false, narrowed := true }
def FnExactSuitsTextUptoSaid : Prop := fnExactSuitsTextUptoRow.holds Try.pinned (OpenSpec.upto fnExactSuitsTextSpec)

/-- 'laws.FnExactFormatMelds', WHERE WHAT IT READS IS OF BULK AT MOST 1048576: true; the input reads as it did. -/
def fnExactFormatMeldsUptoRow : OpenClaim := { program := "ytidkdheidbnkkaa", sum := "2cff40f81b162da234ee911a75929f336b04318ca67a2f11874f10ce6b78b28e", func := "loop.example/g03010/laws.FnExactFormatMelds", spec := "fnExactFormatMelds", inPlace := ["internal/abi.NoEscape", "internal/bytealg.MakeNoZero"], apart := false, narrowed := true }
def FnExactFormatMeldsUptoSaid : Prop := fnExactFormatMeldsUptoRow.holds Try.pinned (OpenSpec.upto fnExactFormatMeldsSpec)

end Rows
end Go.Proofs.Ytidkdheidbnkkaa
