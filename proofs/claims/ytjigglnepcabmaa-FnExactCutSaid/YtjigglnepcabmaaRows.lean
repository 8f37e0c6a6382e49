/-
  No cell of these rows narrows 'for every input' (looked for: loops, veiled, ifaces, maps, wideKeys, modest, calm, conditions, laid).
  DERIVED. THE GIVEN ROWS OF THIS SEAT. 11 by the template 'for every input the law returns true; each argument reads behind the call as it read before'; 0 by the template 'total and deterministic' (their statements: YtjigglnepcabmaaTotals.lean).
  GIVEN WITH THE SEED: the statements are not yours to turn. If you find one false, say at which input.
  Laid BY PROGRAM, IN A SANDBOX (cutbox-rows.mjs): the forced cells as the released guide's own fill.sh prints them over the translation a5dd7e722524c2dc… (all of the seat's roots in one cut). By AI agents, Wed Nov 11 2026. No macro, syntax, notation, axiom, sorry.
-/
import Derived.Test.YtjigglnepcabmaaChecked
import GoSem.Claim
import GoSem.ClaimJoined
import GoSem.ClaimMapViews
import Derived.JoinedTies
import Derived.KernelRfl
namespace Go.Proofs.Ytjigglnepcabmaa
/- THE CELL 'sum', in the pinned program and in every row, IS THE sha256 OF THE DUMP (.gsa) THAT YtjigglnepcabmaaProg.lean LOADS. Nothing in Lean hashes anything: it is a label: what it is worth is what the hold of that sum in a sandbox is worth. -/
noncomputable def Try.pinned : Pinned := { name := "ytjigglnepcabmaa", sum := "a5dd7e722524c2dc3b763577622e1a00f7ca913320ff4e6af16c1dcd92ba06ae", checked := Try.checked }
namespace Rows
def none {H : Type} : Left H := { results := [], args := [] }

/-- 'laws.FnVarints': WHATEVER THE INPUT: true; the input reads as it did. -/
def fnVarintsSpec : ChangeSpec := { name := "fnVarints", fn := fun _ => fun
  | [d] => { results := [.lit (.bool true)], args := [d] }
  | _ => none }
def fnVarintsRow : OpenClaim := { program := "ytjigglnepcabmaa", sum := "a5dd7e722524c2dc3b763577622e1a00f7ca913320ff4e6af16c1dcd92ba06ae", func := "loop.example/g03010/laws.FnVarints", spec := "fnVarints", apart := false }
def FnVarintsSaid : Prop := fnVarintsRow.holds Try.pinned (OpenSpec.ofChange fnVarintsSpec)

/-- ITS FALSE NEIGHBOUR: 'it returns false'. Refute it at one input. -/
def fnVarintsWrong : ChangeSpec := { name := "fnVarints", fn := fun _ => fun
  | [d] => { results := [.lit (.bool false)], args := [d] }
  | _ => none }
def FnVarintsWrongFalsely : Prop := fnVarintsRow.holds Try.pinned (OpenSpec.ofChange fnVarintsWrong)

/-- 'laws.FnByteStrings': WHATEVER THE INPUT: true; the input reads as it did. -/
def fnByteStringsSpec : ChangeSpec := { name := "fnByteStrings", fn := fun _ => fun
  | [d] => { results := [.lit (.bool true)], args := [d] }
  | _ => none }
def fnByteStringsRow : OpenClaim := { program := "ytjigglnepcabmaa", sum := "a5dd7e722524c2dc3b763577622e1a00f7ca913320ff4e6af16c1dcd92ba06ae", func := "loop.example/g03010/laws.FnByteStrings", spec := "fnByteStrings", apart := false }
def FnByteStringsSaid : Prop := fnByteStringsRow.holds Try.pinned (OpenSpec.ofChange fnByteStringsSpec)

/-- ITS FALSE NEIGHBOUR: 'it returns false'. Refute it at one input. -/
def fnByteStringsWrong : ChangeSpec := { name := "fnByteStrings", fn := fun _ => fun
  | [d] => { results := [.lit (.bool false)], args := [d] }
  | _ => none }
def FnByteStringsWrongFalsely : Prop := fnByteStringsRow.holds Try.pinned (OpenSpec.ofChange fnByteStringsWrong)

/-- 'laws.FnCards': WHATEVER THE INPUT: true; the input reads as it did. -/
def fnCardsSpec : ChangeSpec := { name := "fnCards", fn := fun _ => fun
  | [d] => { results := [.lit (.bool true)], args := [d] }
  | _ => none }
def fnCardsRow : OpenClaim := { program := "ytjigglnepcabmaa", sum := "a5dd7e722524c2dc3b763577622e1a00f7ca913320ff4e6af16c1dcd92ba06ae", func := "loop.example/g03010/laws.FnCards", spec := "fnCards", inPlace := ["internal/bytealg.IndexByteString"], apart := false }
def FnCardsSaid : Prop := fnCardsRow.holds Try.pinned (OpenSpec.ofChange fnCardsSpec)

/-- ITS FALSE NEIGHBOUR: 'it returns false'. Refute it at one input. -/
def fnCardsWrong : ChangeSpec := { name := "fnCards", fn := fun _ => fun
  | [d] => { results := [.lit (.bool false)], args := [d] }
  | _ => none }
def FnCardsWrongFalsely : Prop := fnCardsRow.holds Try.pinned (OpenSpec.ofChange fnCardsWrong)

/-- 'laws.FnExactCut': WHATEVER THE INPUT: true; the input reads as it did. -/
def fnExactCutSpec : ChangeSpec := { name := "fnExactCut", fn := fun _ => fun
  | [d1, d2] => { results := [.lit (.bool true)], args := [d1, d2] }
  | _ => none }
def fnExactCutRow : OpenClaim := { program := "ytjigglnepcabmaa", sum := "a5dd7e722524c2dc3b763577622e1a00f7ca913320ff4e6af16c1dcd92ba06ae", func := "loop.example/g03010/laws.FnExactCut", spec := "fnExactCut", apart := false }
def FnExactCutSaid : Prop := fnExactCutRow.holds Try.pinned (OpenSpec.ofChange fnExactCutSpec)

/-- ITS FALSE NEIGHBOUR: 'it returns false'. Refute it at one input. -/
def fnExactCutWrong : ChangeSpec := { name := "fnExactCut", fn := fun _ => fun
  | [d1, d2] => { results := [.lit (.bool false)], args := [d1, d2] }
  | _ => none }
def FnExactCutWrongFalsely : Prop := fnExactCutRow.holds Try.pinned (OpenSpec.ofChange fnExactCutWrong)

/-- 'laws.FnExactTotalCards': WHATEVER THE INPUT: true; the input reads as it did. -/
def fnExactTotalCardsSpec : ChangeSpec := { name := "fnExactTotalCards", fn := fun _ => fun
  | [d] => { results := [.lit (.bool true)], args := [d] }
  | _ => none }
def fnExactTotalCardsRow : OpenClaim := { program := "ytjigglnepcabmaa", sum := "a5dd7e722524c2dc3b763577622e1a00f7ca913320ff4e6af16c1dcd92ba06ae", func := "loop.example/g03010/laws.FnExactTotalCards", spec := "fnExactTotalCards", apart := false }
def FnExactTotalCardsSaid : Prop := fnExactTotalCardsRow.holds Try.pinned (OpenSpec.ofChange fnExactTotalCardsSpec)

/-- ITS FALSE NEIGHBOUR: 'it returns false'. Refute it at one input. -/
def fnExactTotalCardsWrong : ChangeSpec := { name := "fnExactTotalCards", fn := fun _ => fun
  | [d] => { results := [.lit (.bool false)], args := [d] }
  | _ => none }
def FnExactTotalCardsWrongFalsely : Prop := fnExactTotalCardsRow.holds Try.pinned (OpenSpec.ofChange fnExactTotalCardsWrong)

/-- 'laws.FnExactMayPlay': WHATEVER THE INPUT: true; the input reads as it did. -/
def fnExactMayPlaySpec : ChangeSpec := { name := "fnExactMayPlay", fn := fun _ => fun
  | [d1, d2, d3] => { results := [.lit (.bool true)], args := [d1, d2, d3] }
  | _ => none }
def fnExactMayPlayRow : OpenClaim := { program := "ytjigglnepcabmaa", sum := "a5dd7e722524c2dc3b763577622e1a00f7ca913320ff4e6af16c1dcd92ba06ae", func := "loop.example/g03010/laws.FnExactMayPlay", spec := "fnExactMayPlay", unfollowed := true, recurses := true, apart := false }
def FnExactMayPlaySaid : Prop := fnExactMayPlayRow.holds Try.pinned (OpenSpec.ofChange fnExactMayPlaySpec)

/-- ITS FALSE NEIGHBOUR: 'it returns false'. Refute it at one input. -/
def fnExactMayPlayWrong : ChangeSpec := { name := "fnExactMayPlay", fn := fun _ => fun
  | [d1, d2, d3] => { results := [.lit (.bool false)], args := [d1, d2, d3] }
  | _ => none }
def FnExactMayPlayWrongFalsely : Prop := fnExactMayPlayRow.holds Try.pinned (OpenSpec.ofChange fnExactMayPlayWrong)

/-- 'laws.FnExactChoices': WHATEVER THE INPUT: true; the input reads as it did. -/
def fnExactChoicesSpec : ChangeSpec := { name := "fnExactChoices", fn := fun _ => fun
  | [d1, d2] => { results := [.lit (.bool true)], args := [d1, d2] }
  | _ => none }
def fnExactChoicesRow : OpenClaim := { program := "ytjigglnepcabmaa", sum := "a5dd7e722524c2dc3b763577622e1a00f7ca913320ff4e6af16c1dcd92ba06ae", func := "loop.example/g03010/laws.FnExactChoices", spec := "fnExactChoices", unfollowed := true, recurses := true, apart := false }
def FnExactChoicesSaid : Prop := fnExactChoicesRow.holds Try.pinned (OpenSpec.ofChange fnExactChoicesSpec)

/-- ITS FALSE NEIGHBOUR: 'it returns false'. Refute it at one input. -/
def fnExactChoicesWrong : ChangeSpec := { name := "fnExactChoices", fn := fun _ => fun
  | [d1, d2] => { results := [.lit (.bool false)], args := [d1, d2] }
  | _ => none }
def FnExactChoicesWrongFalsely : Prop := fnExactChoicesRow.holds Try.pinned (OpenSpec.ofChange fnExactChoicesWrong)

/-- 'laws.FnExactWinnerOf': WHATEVER THE INPUT: true; the input reads as it did. -/
def fnExactWinnerOfSpec : ChangeSpec := { name := "fnExactWinnerOf", fn := fun _ => fun
  | [d1, d2] => { results := [.lit (.bool true)], args := [d1, d2] }
  | _ => none }
def fnExactWinnerOfRow : OpenClaim := { program := "ytjigglnepcabmaa", sum := "a5dd7e722524c2dc3b763577622e1a00f7ca913320ff4e6af16c1dcd92ba06ae", func := "loop.example/g03010/laws.FnExactWinnerOf", spec := "fnExactWinnerOf", unfollowed := true, recurses := true, apart := false }
def FnExactWinnerOfSaid : Prop := fnExactWinnerOfRow.holds Try.pinned (OpenSpec.ofChange fnExactWinnerOfSpec)

/-- ITS FALSE NEIGHBOUR: 'it returns false'. Refute it at one input. -/
def fnExactWinnerOfWrong : ChangeSpec := { name := "fnExactWinnerOf", fn := fun _ => fun
  | [d1, d2] => { results := [.lit (.bool false)], args := [d1, d2] }
  | _ => none }
def FnExactWinnerOfWrongFalsely : Prop := fnExactWinnerOfRow.holds Try.pinned (OpenSpec.ofChange fnExactWinnerOfWrong)

/-- 'laws.FnExactTrickPoints': WHATEVER THE INPUT: true; the input reads as it did. -/
def fnExactTrickPointsSpec : ChangeSpec := { name := "fnExactTrickPoints", fn := fun _ => fun
  | [d] => { results := [.lit (.bool true)], args := [d] }
  | _ => none }
def fnExactTrickPointsRow : OpenClaim := { program := "ytjigglnepcabmaa", sum := "a5dd7e722524c2dc3b763577622e1a00f7ca913320ff4e6af16c1dcd92ba06ae", func := "loop.example/g03010/laws.FnExactTrickPoints", spec := "fnExactTrickPoints", unfollowed := true, recurses := true, apart := false }
def FnExactTrickPointsSaid : Prop := fnExactTrickPointsRow.holds Try.pinned (OpenSpec.ofChange fnExactTrickPointsSpec)

/-- ITS FALSE NEIGHBOUR: 'it returns false'. Refute it at one input. -/
def fnExactTrickPointsWrong : ChangeSpec := { name := "fnExactTrickPoints", fn := fun _ => fun
  | [d] => { results := [.lit (.bool false)], args := [d] }
  | _ => none }
def FnExactTrickPointsWrongFalsely : Prop := fnExactTrickPointsRow.holds Try.pinned (OpenSpec.ofChange fnExactTrickPointsWrong)

/-- 'laws.FnExactCallsEnd': WHATEVER THE INPUT: true; the input reads as it did. -/
def fnExactCallsEndSpec : ChangeSpec := { name := "fnExactCallsEnd", fn := fun _ => fun
  | [d1, d2] => { results := [.lit (.bool true)], args := [d1, d2] }
  | _ => none }
def fnExactCallsEndRow : OpenClaim := { program := "ytjigglnepcabmaa", sum := "a5dd7e722524c2dc3b763577622e1a00f7ca913320ff4e6af16c1dcd92ba06ae", func := "loop.example/g03010/laws.FnExactCallsEnd", spec := "fnExactCallsEnd", apart := false }
def FnExactCallsEndSaid : Prop := fnExactCallsEndRow.holds Try.pinned (OpenSpec.ofChange fnExactCallsEndSpec)

/-- ITS FALSE NEIGHBOUR: 'it returns false'. Refute it at one input. -/
def fnExactCallsEndWrong : ChangeSpec := { name := "fnExactCallsEnd", fn := fun _ => fun
  | [d1, d2] => { results := [.lit (.bool false)], args := [d1, d2] }
  | _ => none }
def FnExactCallsEndWrongFalsely : Prop := fnExactCallsEndRow.holds Try.pinned (OpenSpec.ofChange fnExactCallsEndWrong)

/-- 'laws.FnExactKindName': WHATEVER THE INPUT: true; the input reads as it did. -/
def fnExactKindNameSpec : ChangeSpec := { name := "fnExactKindName", fn := fun _ => fun
  | [d] => { results := [.lit (.bool true)], args := [d] }
  | _ => none }
def fnExactKindNameRow : OpenClaim := { program := "ytjigglnepcabmaa", sum := "a5dd7e722524c2dc3b763577622e1a00f7ca913320ff4e6af16c1dcd92ba06ae", func := "loop.example/g03010/laws.FnExactKindName", spec := "fnExactKindName", apart := false }
def FnExactKindNameSaid : Prop := fnExactKindNameRow.holds Try.pinned (OpenSpec.ofChange fnExactKindNameSpec)

/-- ITS FALSE NEIGHBOUR: 'it returns false'. Refute it at one input. -/
def fnExactKindNameWrong : ChangeSpec := { name := "fnExactKindName", fn := fun _ => fun
  | [d] => { results := [.lit (.bool false)], args := [d] }
  | _ => none }
def FnExactKindNameWrongFalsely : Prop := fnExactKindNameRow.holds Try.pinned (OpenSpec.ofChange fnExactKindNameWrong)

/- THE SECOND FORM. 'bulk': how many values and letters a reading holds, each counted each time it is reached (what is shared counts as often as it is met; a slice's spare places count too). A statement '..UptoSaid' is the law's where the arguments, and the package variables that the reading takes, are together of bulk at most 1048576: NARROWER than '..Said'. Prove '..Said' where nothing that the law and all that it calls make is longer than what came in: it says more and counts as full. Else prove '..UptoSaid'. A law counts once. -/
mutual
def uptoBulk {H : Type} : DataW H → Nat
  | .lit (.string bytes) => bytes.length + 1
  | .lit _ => 1
  | .nil => 1
  | .ptr d => uptoBulk d + 1
  | .slice elems spare => uptoBulkAll elems + uptoBulkAll spare + 1
  | .agg parts => uptoBulkAll parts + 1
  | .iface _ d => uptoBulk d + 1
  | .map entries => uptoBulkEntries entries + 1
  | .held _ => 1
def uptoBulkAll {H : Type} : List (DataW H) → Nat
  | [] => 0
  | d :: r => uptoBulk d + uptoBulkAll r
def uptoBulkEntries {H : Type} : List (Lit × DataW H) → Nat
  | [] => 0
  | x :: r => uptoBulkEntry x + uptoBulkEntries r
def uptoBulkEntry {H : Type} : Lit × DataW H → Nat
  | (.string bytes, d) => bytes.length + uptoBulk d + 1
  | (_, d) => uptoBulk d + 1
 end
def uptoSmall : (H : Type) → List (DataW H) → Bool := fun _ ds => decide (uptoBulkAll ds ≤ 1048576)
def OpenSpec.upto (s : _root_.Go.ChangeSpec) : _root_.Go.OpenSpec := { _root_.Go.OpenSpec.ofChange s with cond := some uptoSmall }

/-- 'laws.FnVarints', WHERE WHAT IT READS IS OF BULK AT MOST 1048576: true; the input reads as it did. -/
def fnVarintsUptoRow : OpenClaim := { program := "ytjigglnepcabmaa", sum := "a5dd7e722524c2dc3b763577622e1a00f7ca913320ff4e6af16c1dcd92ba06ae", func := "loop.example/g03010/laws.FnVarints", spec := "fnVarints", apart := false, narrowed := true }
def FnVarintsUptoSaid : Prop := fnVarintsUptoRow.holds Try.pinned (OpenSpec.upto fnVarintsSpec)

/-- 'laws.FnByteStrings', WHERE WHAT IT READS IS OF BULK AT MOST 1048576: true; the input reads as it did. -/
def fnByteStringsUptoRow : OpenClaim := { program := "ytjigglnepcabmaa", sum := "a5dd7e722524c2dc3b763577622e1a00f7ca913320ff4e6af16c1dcd92ba06ae", func := "loop.example/g03010/laws.FnByteStrings", spec := "fnByteStrings", apart := false, narrowed := true }
def FnByteStringsUptoSaid : Prop := fnByteStringsUptoRow.holds Try.pinned (OpenSpec.upto fnByteStringsSpec)

/-- 'laws.FnCards', WHERE WHAT IT READS IS OF BULK AT MOST 1048576: true; the input reads as it did. -/
def fnCardsUptoRow : OpenClaim := { program := "ytjigglnepcabmaa", sum := "a5dd7e722524c2dc3b763577622e1a00f7ca913320ff4e6af16c1dcd92ba06ae", func := "loop.example/g03010/laws.FnCards", spec := "fnCards", inPlace := ["internal/bytealg.IndexByteString"], apart := false, narrowed := true }
def FnCardsUptoSaid : Prop := fnCardsUptoRow.holds Try.pinned (OpenSpec.upto fnCardsSpec)

/-- 'laws.FnExactCut', WHERE WHAT IT READS IS OF BULK AT MOST 1048576: true; the input reads as it did. -/
def fnExactCutUptoRow : OpenClaim := { program := "ytjigglnepcabmaa", sum := "a5dd7e722524c2dc3b763577622e1a00f7ca913320ff4e6af16c1dcd92ba06ae", func := "loop.example/g03010/laws.FnExactCut", spec := "fnExactCut", apart := false, narrowed := true }
def FnExactCutUptoSaid : Prop := fnExactCutUptoRow.holds Try.pinned (OpenSpec.upto fnExactCutSpec)

/-- 'laws.FnExactTotalCards', WHERE WHAT IT READS IS OF BULK AT MOST 1048576: true; the input reads as it did. -/
def fnExactTotalCardsUptoRow : OpenClaim := { program := "ytjigglnepcabmaa", sum := "a5dd7e722524c2dc3b763577622e1a00f7ca913320ff4e6af16c1dcd92ba06ae", func := "loop.example/g03010/laws.FnExactTotalCards", spec := "fnExactTotalCards", apart := false, narrowed := true }
def FnExactTotalCardsUptoSaid : Prop := fnExactTotalCardsUptoRow.holds Try.pinned (OpenSpec.upto fnExactTotalCardsSpec)

/-- 'laws.FnExactMayPlay', WHERE WHAT IT READS IS OF BULK AT MOST 1048576: true; the input reads as it did. -/
def fnExactMayPlayUptoRow : OpenClaim := { program := "ytjigglnepcabmaa", sum := "a5dd7e722524c2dc3b763577622e1a00f7ca913320ff4e6af16c1dcd92ba06ae", func := "loop.example/g03010/laws.FnExactMayPlay", spec := "fnExactMayPlay", unfollowed := true, recurses := true, apart := false, narrowed := true }
def FnExactMayPlayUptoSaid : Prop := fnExactMayPlayUptoRow.holds Try.pinned (OpenSpec.upto fnExactMayPlaySpec)

/-- 'laws.FnExactChoices', WHERE WHAT IT READS IS OF BULK AT MOST 1048576: true; the input reads as it did. -/
def fnExactChoicesUptoRow : OpenClaim := { program := "ytjigglnepcabmaa", sum := "a5dd7e722524c2dc3b763577622e1a00f7ca913320ff4e6af16c1dcd92ba06ae", func := "loop.example/g03010/laws.FnExactChoices", spec := "fnExactChoices", unfollowed := true, recurses := true, apart := false, narrowed := true }
def FnExactChoicesUptoSaid : Prop := fnExactChoicesUptoRow.holds Try.pinned (OpenSpec.upto fnExactChoicesSpec)

/-- 'laws.FnExactWinnerOf', WHERE WHAT IT READS IS OF BULK AT MOST 1048576: true; the input reads as it did. -/
def fnExactWinnerOfUptoRow : OpenClaim := { program := "ytjigglnepcabmaa", sum := "a5dd7e722524c2dc3b763577622e1a00f7ca913320ff4e6af16c1dcd92ba06ae", func := "loop.example/g03010/laws.FnExactWinnerOf", spec := "fnExactWinnerOf", unfollowed := true, recurses := true, apart := false, narrowed := true }
def FnExactWinnerOfUptoSaid : Prop := fnExactWinnerOfUptoRow.holds Try.pinned (OpenSpec.upto fnExactWinnerOfSpec)

/-- 'laws.FnExactTrickPoints', WHERE WHAT IT READS IS OF BULK AT MOST 1048576: true; the input reads as it did. -/
def fnExactTrickPointsUptoRow : OpenClaim := { program := "ytjigglnepcabmaa", sum := "a5dd7e722524c2dc3b763577622e1a00f7ca913320ff4e6af16c1dcd92ba06ae", func := "loop.example/g03010/laws.FnExactTrickPoints", spec := "fnExactTrickPoints", unfollowed := true, recurses := true, apart := false, narrowed := true }
def FnExactTrickPointsUptoSaid : Prop := fnExactTrickPointsUptoRow.holds Try.pinned (OpenSpec.upto fnExactTrickPointsSpec)

/-- 'laws.FnExactCallsEnd', WHERE WHAT IT READS IS OF BULK AT MOST 1048576: true; the input reads as it did. -/
def fnExactCallsEndUptoRow : OpenClaim := { program := "ytjigglnepcabmaa", sum := "a5dd7e722524c2dc3b763577622e1a00f7ca913320ff4e6af16c1dcd92ba06ae", func := "loop.example/g03010/laws.FnExactCallsEnd", spec := "fnExactCallsEnd", apart := false, narrowed := true }
def FnExactCallsEndUptoSaid : Prop := fnExactCallsEndUptoRow.holds Try.pinned (OpenSpec.upto fnExactCallsEndSpec)

/-- 'laws.FnExactKindName', WHERE WHAT IT READS IS OF BULK AT MOST 1048576: true; the input reads as it did. -/
def fnExactKindNameUptoRow : OpenClaim := { program := "ytjigglnepcabmaa", sum := "a5dd7e722524c2dc3b763577622e1a00f7ca913320ff4e6af16c1dcd92ba06ae", func := "loop.example/g03010/laws.FnExactKindName", spec := "fnExactKindName", apart := false, narrowed := true }
def FnExactKindNameUptoSaid : Prop := fnExactKindNameUptoRow.holds Try.pinned (OpenSpec.upto fnExactKindNameSpec)

end Rows
end Go.Proofs.Ytjigglnepcabmaa
