/-
  No cell of these rows narrows 'for every input' (looked for: loops, veiled, ifaces, maps, wideKeys, modest, calm, conditions, laid).
  DERIVED. THE GIVEN ROWS OF THIS SEAT. 9 by the template 'for every input the law returns true; each argument reads behind the call as it read before'; 0 by the template 'total and deterministic' (their statements: YtljpeiffpkfnlaaTotals.lean).
  GIVEN WITH THE SEED: the statements are not yours to turn. If you find one false, say at which input.
  Laid BY PROGRAM, IN A SANDBOX (cutbox-rows.mjs): the forced cells as the released guide's own fill.sh prints them over the translation 927ea02914d3393a… (all of the seat's roots in one cut). By AI agents, Wed Nov 11 2026. No macro, syntax, notation, axiom, sorry.
-/
import Derived.Test.YtljpeiffpkfnlaaChecked
import GoSem.Claim
import GoSem.ClaimJoined
import GoSem.ClaimMapViews
import Derived.JoinedTies
import Derived.KernelRfl
namespace Go.Proofs.Ytljpeiffpkfnlaa
/- THE CELL 'sum', in the pinned program and in every row, IS THE sha256 OF THE DUMP (.gsa) THAT YtljpeiffpkfnlaaProg.lean LOADS. Nothing in Lean hashes anything: it is a label: what it is worth is what the hold of that sum in a sandbox is worth. -/
noncomputable def Try.pinned : Pinned := { name := "ytljpeiffpkfnlaa", sum := "927ea02914d3393adf4df62efc10fb9094a4c360d846d650aab315abdfcbdfa9", checked := Try.checked }
namespace Rows
def none {H : Type} : Left H := { results := [], args := [] }

/-- 'laws.FnExactIsPile': WHATEVER THE INPUT: true; the input reads as it did. -/
def fnExactIsPileSpec : ChangeSpec := { name := "fnExactIsPile", fn := fun _ => fun
  | [d] => { results := [.lit (.bool true)], args := [d] }
  | _ => none }
def fnExactIsPileRow : OpenClaim := { program := "ytljpeiffpkfnlaa", sum := "927ea02914d3393adf4df62efc10fb9094a4c360d846d650aab315abdfcbdfa9", func := "loop.example/g03010/laws.FnExactIsPile", spec := "fnExactIsPile", unfollowed := true, recurses := true, apart := false }
def FnExactIsPileSaid : Prop := fnExactIsPileRow.holds Try.pinned (OpenSpec.ofChange fnExactIsPileSpec)

/-- ITS FALSE NEIGHBOUR: 'it returns false'. Refute it at one input. -/
def fnExactIsPileWrong : ChangeSpec := { name := "fnExactIsPile", fn := fun _ => fun
  | [d] => { results := [.lit (.bool false)], args := [d] }
  | _ => none }
def FnExactIsPileWrongFalsely : Prop := fnExactIsPileRow.holds Try.pinned (OpenSpec.ofChange fnExactIsPileWrong)

/-- 'laws.FnExactTopOf': WHATEVER THE INPUT: true; the input reads as it did. -/
def fnExactTopOfSpec : ChangeSpec := { name := "fnExactTopOf", fn := fun _ => fun
  | [d] => { results := [.lit (.bool true)], args := [d] }
  | _ => none }
def fnExactTopOfRow : OpenClaim := { program := "ytljpeiffpkfnlaa", sum := "927ea02914d3393adf4df62efc10fb9094a4c360d846d650aab315abdfcbdfa9", func := "loop.example/g03010/laws.FnExactTopOf", spec := "fnExactTopOf", apart := false }
def FnExactTopOfSaid : Prop := fnExactTopOfRow.holds Try.pinned (OpenSpec.ofChange fnExactTopOfSpec)

/-- ITS FALSE NEIGHBOUR: 'it returns false'. Refute it at one input. -/
def fnExactTopOfWrong : ChangeSpec := { name := "fnExactTopOf", fn := fun _ => fun
  | [d] => { results := [.lit (.bool false)], args := [d] }
  | _ => none }
def FnExactTopOfWrongFalsely : Prop := fnExactTopOfRow.holds Try.pinned (OpenSpec.ofChange fnExactTopOfWrong)

/-- 'laws.FnExactMayStack': WHATEVER THE INPUT: true; the input reads as it did. -/
def fnExactMayStackSpec : ChangeSpec := { name := "fnExactMayStack", fn := fun _ => fun
  | [d1, d2] => { results := [.lit (.bool true)], args := [d1, d2] }
  | _ => none }
def fnExactMayStackRow : OpenClaim := { program := "ytljpeiffpkfnlaa", sum := "927ea02914d3393adf4df62efc10fb9094a4c360d846d650aab315abdfcbdfa9", func := "loop.example/g03010/laws.FnExactMayStack", spec := "fnExactMayStack", unfollowed := true, recurses := true, apart := false }
def FnExactMayStackSaid : Prop := fnExactMayStackRow.holds Try.pinned (OpenSpec.ofChange fnExactMayStackSpec)

/-- ITS FALSE NEIGHBOUR: 'it returns false'. Refute it at one input. -/
def fnExactMayStackWrong : ChangeSpec := { name := "fnExactMayStack", fn := fun _ => fun
  | [d1, d2] => { results := [.lit (.bool false)], args := [d1, d2] }
  | _ => none }
def FnExactMayStackWrongFalsely : Prop := fnExactMayStackRow.holds Try.pinned (OpenSpec.ofChange fnExactMayStackWrong)

/-- 'laws.FnExactOpenCards': WHATEVER THE INPUT: true; the input reads as it did. -/
def fnExactOpenCardsSpec : ChangeSpec := { name := "fnExactOpenCards", fn := fun _ => fun
  | [d] => { results := [.lit (.bool true)], args := [d] }
  | _ => none }
def fnExactOpenCardsRow : OpenClaim := { program := "ytljpeiffpkfnlaa", sum := "927ea02914d3393adf4df62efc10fb9094a4c360d846d650aab315abdfcbdfa9", func := "loop.example/g03010/laws.FnExactOpenCards", spec := "fnExactOpenCards", unfollowed := true, recurses := true, apart := false }
def FnExactOpenCardsSaid : Prop := fnExactOpenCardsRow.holds Try.pinned (OpenSpec.ofChange fnExactOpenCardsSpec)

/-- ITS FALSE NEIGHBOUR: 'it returns false'. Refute it at one input. -/
def fnExactOpenCardsWrong : ChangeSpec := { name := "fnExactOpenCards", fn := fun _ => fun
  | [d] => { results := [.lit (.bool false)], args := [d] }
  | _ => none }
def FnExactOpenCardsWrongFalsely : Prop := fnExactOpenCardsRow.holds Try.pinned (OpenSpec.ofChange fnExactOpenCardsWrong)

/-- 'laws.FnExactIsBase': WHATEVER THE INPUT: true; the input reads as it did. -/
def fnExactIsBaseSpec : ChangeSpec := { name := "fnExactIsBase", fn := fun _ => fun
  | [d] => { results := [.lit (.bool true)], args := [d] }
  | _ => none }
def fnExactIsBaseRow : OpenClaim := { program := "ytljpeiffpkfnlaa", sum := "927ea02914d3393adf4df62efc10fb9094a4c360d846d650aab315abdfcbdfa9", func := "loop.example/g03010/laws.FnExactIsBase", spec := "fnExactIsBase", apart := false }
def FnExactIsBaseSaid : Prop := fnExactIsBaseRow.holds Try.pinned (OpenSpec.ofChange fnExactIsBaseSpec)

/-- ITS FALSE NEIGHBOUR: 'it returns false'. Refute it at one input. -/
def fnExactIsBaseWrong : ChangeSpec := { name := "fnExactIsBase", fn := fun _ => fun
  | [d] => { results := [.lit (.bool false)], args := [d] }
  | _ => none }
def FnExactIsBaseWrongFalsely : Prop := fnExactIsBaseRow.holds Try.pinned (OpenSpec.ofChange fnExactIsBaseWrong)

/-- 'laws.FnExactChoose': WHATEVER THE INPUT: true; the input reads as it did. -/
def fnExactChooseSpec : ChangeSpec := { name := "fnExactChoose", fn := fun _ => fun
  | [d1, d2] => { results := [.lit (.bool true)], args := [d1, d2] }
  | _ => none }
def fnExactChooseRow : OpenClaim := { program := "ytljpeiffpkfnlaa", sum := "927ea02914d3393adf4df62efc10fb9094a4c360d846d650aab315abdfcbdfa9", func := "loop.example/g03010/laws.FnExactChoose", spec := "fnExactChoose", apart := false }
def FnExactChooseSaid : Prop := fnExactChooseRow.holds Try.pinned (OpenSpec.ofChange fnExactChooseSpec)

/-- ITS FALSE NEIGHBOUR: 'it returns false'. Refute it at one input. -/
def fnExactChooseWrong : ChangeSpec := { name := "fnExactChoose", fn := fun _ => fun
  | [d1, d2] => { results := [.lit (.bool false)], args := [d1, d2] }
  | _ => none }
def FnExactChooseWrongFalsely : Prop := fnExactChooseRow.holds Try.pinned (OpenSpec.ofChange fnExactChooseWrong)

/-- 'laws.FnExactWaysWith': WHATEVER THE INPUT: true; the input reads as it did. -/
def fnExactWaysWithSpec : ChangeSpec := { name := "fnExactWaysWith", fn := fun _ => fun
  | [d1, d2, d3, d4] => { results := [.lit (.bool true)], args := [d1, d2, d3, d4] }
  | _ => none }
def fnExactWaysWithRow : OpenClaim := { program := "ytljpeiffpkfnlaa", sum := "927ea02914d3393adf4df62efc10fb9094a4c360d846d650aab315abdfcbdfa9", func := "loop.example/g03010/laws.FnExactWaysWith", spec := "fnExactWaysWith", apart := false }
def FnExactWaysWithSaid : Prop := fnExactWaysWithRow.holds Try.pinned (OpenSpec.ofChange fnExactWaysWithSpec)

/-- ITS FALSE NEIGHBOUR: 'it returns false'. Refute it at one input. -/
def fnExactWaysWithWrong : ChangeSpec := { name := "fnExactWaysWith", fn := fun _ => fun
  | [d1, d2, d3, d4] => { results := [.lit (.bool false)], args := [d1, d2, d3, d4] }
  | _ => none }
def FnExactWaysWithWrongFalsely : Prop := fnExactWaysWithRow.holds Try.pinned (OpenSpec.ofChange fnExactWaysWithWrong)

/-- 'laws.FnExactWaysAtLeast': WHATEVER THE INPUT: true; the input reads as it did. -/
def fnExactWaysAtLeastSpec : ChangeSpec := { name := "fnExactWaysAtLeast", fn := fun _ => fun
  | [d1, d2, d3, d4] => { results := [.lit (.bool true)], args := [d1, d2, d3, d4] }
  | _ => none }
def fnExactWaysAtLeastRow : OpenClaim := { program := "ytljpeiffpkfnlaa", sum := "927ea02914d3393adf4df62efc10fb9094a4c360d846d650aab315abdfcbdfa9", func := "loop.example/g03010/laws.FnExactWaysAtLeast", spec := "fnExactWaysAtLeast", apart := false }
def FnExactWaysAtLeastSaid : Prop := fnExactWaysAtLeastRow.holds Try.pinned (OpenSpec.ofChange fnExactWaysAtLeastSpec)

/-- ITS FALSE NEIGHBOUR: 'it returns false'. Refute it at one input. -/
def fnExactWaysAtLeastWrong : ChangeSpec := { name := "fnExactWaysAtLeast", fn := fun _ => fun
  | [d1, d2, d3, d4] => { results := [.lit (.bool false)], args := [d1, d2, d3, d4] }
  | _ => none }
def FnExactWaysAtLeastWrongFalsely : Prop := fnExactWaysAtLeastRow.holds Try.pinned (OpenSpec.ofChange fnExactWaysAtLeastWrong)

/-- 'laws.FnExactPerThousand': WHATEVER THE INPUT: true; the input reads as it did. -/
def fnExactPerThousandSpec : ChangeSpec := { name := "fnExactPerThousand", fn := fun _ => fun
  | [d1, d2, d3, d4] => { results := [.lit (.bool true)], args := [d1, d2, d3, d4] }
  | _ => none }
def fnExactPerThousandRow : OpenClaim := { program := "ytljpeiffpkfnlaa", sum := "927ea02914d3393adf4df62efc10fb9094a4c360d846d650aab315abdfcbdfa9", func := "loop.example/g03010/laws.FnExactPerThousand", spec := "fnExactPerThousand", apart := false }
def FnExactPerThousandSaid : Prop := fnExactPerThousandRow.holds Try.pinned (OpenSpec.ofChange fnExactPerThousandSpec)

/-- ITS FALSE NEIGHBOUR: 'it returns false'. Refute it at one input. -/
def fnExactPerThousandWrong : ChangeSpec := { name := "fnExactPerThousand", fn := fun _ => fun
  | [d1, d2, d3, d4] => { results := [.lit (.bool false)], args := [d1, d2, d3, d4] }
  | _ => none }
def FnExactPerThousandWrongFalsely : Prop := fnExactPerThousandRow.holds Try.pinned (OpenSpec.ofChange fnExactPerThousandWrong)

/- THE SECOND FORM. 'bulk': how many values and letters a reading holds, each counted each time it is reached (what is shared counts as often as it is met; a slice's spare places count too). A statement '..UptoSaid' is the law's where the arguments, and the package variables that the reading takes, are together of bulk at most 1048576: NARROWER than '..Said'. Prove '..Said' where nothing that the law and all that it calls make is longer than what came in: it says more and counts as full. Else prove '..UptoSaid'. A law counts once. -/
mutual
def uptoBulk {H : Type} : DataW H → Nat
  | .lit (.string bytes) => bytes.length + 1
  | .lit _ => 1
  | .nil => 1
  | .ptr d => uptoBulk d + 1
  | .slice elems spare => uptoBulkAll elems + uptoBulkAll spare + 1
  | .agg parts => uptoBulkAll parts + 1
  | .iface _ d => uptoBulk d + 1
  | .map entries => uptoBulkEntries entries + 1
  | .held _ => 1
def uptoBulkAll {H : Type} : List (DataW H) → Nat
  | [] => 0
  | d :: r => uptoBulk d + uptoBulkAll r
def uptoBulkEntries {H : Type} : List (Lit × DataW H) → Nat
  | [] => 0
  | x :: r => uptoBulkEntry x + uptoBulkEntries r
def uptoBulkEntry {H : Type} : Lit × DataW H → Nat
  | (.string bytes, d) => bytes.length + uptoBulk d + 1
  | (_, d) => uptoBulk d + 1
 end
def uptoSmall : (H : Type) → List (DataW H) → Bool := fun _ ds => decide (uptoBulkAll ds ≤ 1048576)
def OpenSpec.upto (s : _root_.Go.ChangeSpec) : _root_.Go.OpenSpec := { _root_.Go.OpenSpec.ofChange s with cond := some uptoSmall }

/-- 'laws.FnExactIsPile', WHERE WHAT IT READS IS OF BULK AT MOST 1048576: true; the input reads as it did. -/
def fnExactIsPileUptoRow : OpenClaim := { program := "ytljpeiffpkfnlaa", sum := "927ea02914d3393adf4df62efc10fb9094a4c360d846d650aab315abdfcbdfa9", func := "loop.example/g03010/laws.FnExactIsPile", spec := "fnExactIsPile", unfollowed := true, recurses := true, apart := false, narrowed := true }
def FnExactIsPileUptoSaid : Prop := fnExactIsPileUptoRow.holds Try.pinned (OpenSpec.upto fnExactIsPileSpec)

/-- 'laws.FnExactTopOf', WHERE WHAT IT READS IS OF BULK AT MOST 1048576: true; the input reads as it did. -/
def fnExactTopOfUptoRow : OpenClaim := { program := "ytljpeiffpkfnlaa", sum := "927ea02914d3393adf4df62efc10fb9094a4c360d846d650aab315abdfcbdfa9", func := "loop.example/g03010/laws.FnExactTopOf", spec := "fnExactTopOf", apart := false, narrowed := true }
def FnExactTopOfUptoSaid : Prop := fnExactTopOfUptoRow.holds Try.pinned (OpenSpec.upto fnExactTopOfSpec)

/-- 'laws.FnExactMayStack', WHERE WHAT IT READS IS OF BULK AT MOST 1048576: true; the input reads as it did. -/
def fnExactMayStackUptoRow : OpenClaim := { program := "ytljpeiffpkfnlaa", sum := "927ea02914d3393adf4df62efc10fb9094a4c360d846d650aab315abdfcbdfa9", func := "loop.example/g03010/laws.FnExactMayStack", spec := "fnExactMayStack", unfollowed := true, recurses := true, apart := false, narrowed := true }
def FnExactMayStackUptoSaid : Prop := fnExactMayStackUptoRow.holds Try.pinned (OpenSpec.upto fnExactMayStackSpec)

/-- 'laws.FnExactOpenCards', WHERE WHAT IT READS IS OF BULK AT MOST 1048576: true; the input reads as it did. -/
def fnExactOpenCardsUptoRow : OpenClaim := { program := "ytljpeiffpkfnlaa", sum := "927ea02914d3393adf4df62efc10fb9094a4c360d846d650aab315abdfcbdfa9", func := "loop.example/g03010/laws.FnExactOpenCards", spec := "fnExactOpenCards", unfollowed := true, recurses := true, apart := false, narrowed := true }
def FnExactOpenCardsUptoSaid : Prop := fnExactOpenCardsUptoRow.holds Try.pinned (OpenSpec.upto fnExactOpenCardsSpec)

/-- 'laws.FnExactIsBase', WHERE WHAT IT READS IS OF BULK AT MOST 1048576: true; the input reads as it did. -/
def fnExactIsBaseUptoRow : OpenClaim := { program := "ytljpeiffpkfnlaa", sum := "927ea02914d3393adf4df62efc10fb9094a4c360d846d650aab315abdfcbdfa9", func := "loop.example/g03010/laws.FnExactIsBase", spec := "fnExactIsBase", apart := false, narrowed := true }
def FnExactIsBaseUptoSaid : Prop := fnExactIsBaseUptoRow.holds Try.pinned (OpenSpec.upto fnExactIsBaseSpec)

/-- 'laws.FnExactChoose', WHERE WHAT IT READS IS OF BULK AT MOST 1048576: true; the input reads as it did. -/
def fnExactChooseUptoRow : OpenClaim := { program := "ytljpeiffpkfnlaa", sum := "927ea02914d3393adf4df62efc10fb9094a4c360d846d650aab315abdfcbdfa9", func := "loop.example/g03010/laws.FnExactChoose", spec := "fnExactChoose", apart := false, narrowed := true }
def FnExactChooseUptoSaid : Prop := fnExactChooseUptoRow.holds Try.pinned (OpenSpec.upto fnExactChooseSpec)

/-- 'laws.FnExactWaysWith', WHERE WHAT IT READS IS OF BULK AT MOST 1048576: true; the input reads as it did. -/
def fnExactWaysWithUptoRow : OpenClaim := { program := "ytljpeiffpkfnlaa", sum := "927ea02914d3393adf4df62efc10fb9094a4c360d846d650aab315abdfcbdfa9", func := "loop.example/g03010/laws.FnExactWaysWith", spec := "fnExactWaysWith", apart := false, narrowed := true }
def FnExactWaysWithUptoSaid : Prop := fnExactWaysWithUptoRow.holds Try.pinned (OpenSpec.upto fnExactWaysWithSpec)

/-- 'laws.FnExactWaysAtLeast', WHERE WHAT IT READS IS OF BULK AT MOST 1048576: true; the input reads as it did. -/
def fnExactWaysAtLeastUptoRow : OpenClaim := { program := "ytljpeiffpkfnlaa", sum := "927ea02914d3393adf4df62efc10fb9094a4c360d846d650aab315abdfcbdfa9", func := "loop.example/g03010/laws.FnExactWaysAtLeast", spec := "fnExactWaysAtLeast", apart := false, narrowed := true }
def FnExactWaysAtLeastUptoSaid : Prop := fnExactWaysAtLeastUptoRow.holds Try.pinned (OpenSpec.upto fnExactWaysAtLeastSpec)

/-- 'laws.FnExactPerThousand', WHERE WHAT IT READS IS OF BULK AT MOST 1048576: true; the input reads as it did. -/
def fnExactPerThousandUptoRow : OpenClaim := { program := "ytljpeiffpkfnlaa", sum := "927ea02914d3393adf4df62efc10fb9094a4c360d846d650aab315abdfcbdfa9", func := "loop.example/g03010/laws.FnExactPerThousand", spec := "fnExactPerThousand", apart := false, narrowed := true }
def FnExactPerThousandUptoSaid : Prop := fnExactPerThousandUptoRow.holds Try.pinned (OpenSpec.upto fnExactPerThousandSpec)

end Rows
end Go.Proofs.Ytljpeiffpkfnlaa
