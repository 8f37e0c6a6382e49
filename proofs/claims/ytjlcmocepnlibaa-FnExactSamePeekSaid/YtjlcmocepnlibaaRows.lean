/-
  No cell of these rows narrows 'for every input' (looked for: loops, veiled, ifaces, maps, wideKeys, modest, calm, conditions, laid).
  DERIVED. THE GIVEN ROWS OF THIS SEAT. 13 by the template 'for every input the law returns true; each argument reads behind the call as it read before'; 0 by the template 'total and deterministic' (their statements: YtjlcmocepnlibaaTotals.lean).
  GIVEN WITH THE SEED: the statements are not yours to turn. If you find one false, say at which input.
  Laid BY PROGRAM, IN A SANDBOX (cutbox-rows.mjs): the forced cells as the released guide's own fill.sh prints them over the translation 33ea2ea542d2a7d3… (all of the seat's roots in one cut). By AI agents, Wed Nov 11 2026. No macro, syntax, notation, axiom, sorry.
-/
import Derived.Test.YtjlcmocepnlibaaChecked
import GoSem.Claim
import GoSem.ClaimJoined
import GoSem.ClaimMapViews
import Derived.JoinedTies
import Derived.KernelRfl
namespace Go.Proofs.Ytjlcmocepnlibaa
/- THE CELL 'sum', in the pinned program and in every row, IS THE sha256 OF THE DUMP (.gsa) THAT YtjlcmocepnlibaaProg.lean LOADS. Nothing in Lean hashes anything: it is a label: what it is worth is what the hold of that sum in a sandbox is worth. -/
noncomputable def Try.pinned : Pinned := { name := "ytjlcmocepnlibaa", sum := "33ea2ea542d2a7d372033aed118c7852e393b5285201f339d60ffb85f16f5c9d", checked := Try.checked }
namespace Rows
def none {H : Type} : Left H := { results := [], args := [] }

/-- 'laws.FnExactFirstApart': WHATEVER THE INPUT: true; the input reads as it did. -/
def fnExactFirstApartSpec : ChangeSpec := { name := "fnExactFirstApart", fn := fun _ => fun
  | [d1, d2] => { results := [.lit (.bool true)], args := [d1, d2] }
  | _ => none }
def fnExactFirstApartRow : OpenClaim := { program := "ytjlcmocepnlibaa", sum := "33ea2ea542d2a7d372033aed118c7852e393b5285201f339d60ffb85f16f5c9d", func := "loop.example/g03010/laws.FnExactFirstApart", spec := "fnExactFirstApart", apart := false }
def FnExactFirstApartSaid : Prop := fnExactFirstApartRow.holds Try.pinned (OpenSpec.ofChange fnExactFirstApartSpec)

/-- ITS FALSE NEIGHBOUR: 'it returns false'. Refute it at one input. -/
def fnExactFirstApartWrong : ChangeSpec := { name := "fnExactFirstApart", fn := fun _ => fun
  | [d1, d2] => { results := [.lit (.bool false)], args := [d1, d2] }
  | _ => none }
def FnExactFirstApartWrongFalsely : Prop := fnExactFirstApartRow.holds Try.pinned (OpenSpec.ofChange fnExactFirstApartWrong)

/-- 'laws.FnExactHiddenCount': WHATEVER THE INPUT: true; the input reads as it did. -/
def fnExactHiddenCountSpec : ChangeSpec := { name := "fnExactHiddenCount", fn := fun _ => fun
  | [d] => { results := [.lit (.bool true)], args := [d] }
  | _ => none }
def fnExactHiddenCountRow : OpenClaim := { program := "ytjlcmocepnlibaa", sum := "33ea2ea542d2a7d372033aed118c7852e393b5285201f339d60ffb85f16f5c9d", func := "loop.example/g03010/laws.FnExactHiddenCount", spec := "fnExactHiddenCount", apart := false }
def FnExactHiddenCountSaid : Prop := fnExactHiddenCountRow.holds Try.pinned (OpenSpec.ofChange fnExactHiddenCountSpec)

/-- ITS FALSE NEIGHBOUR: 'it returns false'. Refute it at one input. -/
def fnExactHiddenCountWrong : ChangeSpec := { name := "fnExactHiddenCount", fn := fun _ => fun
  | [d] => { results := [.lit (.bool false)], args := [d] }
  | _ => none }
def FnExactHiddenCountWrongFalsely : Prop := fnExactHiddenCountRow.holds Try.pinned (OpenSpec.ofChange fnExactHiddenCountWrong)

/-- 'laws.FnExactMayHold': WHATEVER THE INPUT: true; the input reads as it did. -/
def fnExactMayHoldSpec : ChangeSpec := { name := "fnExactMayHold", fn := fun _ => fun
  | [d1, d2] => { results := [.lit (.bool true)], args := [d1, d2] }
  | _ => none }
def fnExactMayHoldRow : OpenClaim := { program := "ytjlcmocepnlibaa", sum := "33ea2ea542d2a7d372033aed118c7852e393b5285201f339d60ffb85f16f5c9d", func := "loop.example/g03010/laws.FnExactMayHold", spec := "fnExactMayHold", apart := false }
def FnExactMayHoldSaid : Prop := fnExactMayHoldRow.holds Try.pinned (OpenSpec.ofChange fnExactMayHoldSpec)

/-- ITS FALSE NEIGHBOUR: 'it returns false'. Refute it at one input. -/
def fnExactMayHoldWrong : ChangeSpec := { name := "fnExactMayHold", fn := fun _ => fun
  | [d1, d2] => { results := [.lit (.bool false)], args := [d1, d2] }
  | _ => none }
def FnExactMayHoldWrongFalsely : Prop := fnExactMayHoldRow.holds Try.pinned (OpenSpec.ofChange fnExactMayHoldWrong)

/-- 'laws.FnExactSamePeek': WHATEVER THE INPUT: true; the input reads as it did. -/
def fnExactSamePeekSpec : ChangeSpec := { name := "fnExactSamePeek", fn := fun _ => fun
  | [d1, d2] => { results := [.lit (.bool true)], args := [d1, d2] }
  | _ => none }
def fnExactSamePeekRow : OpenClaim := { program := "ytjlcmocepnlibaa", sum := "33ea2ea542d2a7d372033aed118c7852e393b5285201f339d60ffb85f16f5c9d", func := "loop.example/g03010/laws.FnExactSamePeek", spec := "fnExactSamePeek", apart := false }
def FnExactSamePeekSaid : Prop := fnExactSamePeekRow.holds Try.pinned (OpenSpec.ofChange fnExactSamePeekSpec)

/-- ITS FALSE NEIGHBOUR: 'it returns false'. Refute it at one input. -/
def fnExactSamePeekWrong : ChangeSpec := { name := "fnExactSamePeek", fn := fun _ => fun
  | [d1, d2] => { results := [.lit (.bool false)], args := [d1, d2] }
  | _ => none }
def FnExactSamePeekWrongFalsely : Prop := fnExactSamePeekRow.holds Try.pinned (OpenSpec.ofChange fnExactSamePeekWrong)

/-- 'laws.FnExactAverageMoves': WHATEVER THE INPUT: true; the input reads as it did. -/
def fnExactAverageMovesSpec : ChangeSpec := { name := "fnExactAverageMoves", fn := fun _ => fun
  | [d] => { results := [.lit (.bool true)], args := [d] }
  | _ => none }
def fnExactAverageMovesRow : OpenClaim := { program := "ytjlcmocepnlibaa", sum := "33ea2ea542d2a7d372033aed118c7852e393b5285201f339d60ffb85f16f5c9d", func := "loop.example/g03010/laws.FnExactAverageMoves", spec := "fnExactAverageMoves", unfollowed := true, recurses := true, apart := false }
def FnExactAverageMovesSaid : Prop := fnExactAverageMovesRow.holds Try.pinned (OpenSpec.ofChange fnExactAverageMovesSpec)

/-- ITS FALSE NEIGHBOUR: 'it returns false'. Refute it at one input. -/
def fnExactAverageMovesWrong : ChangeSpec := { name := "fnExactAverageMoves", fn := fun _ => fun
  | [d] => { results := [.lit (.bool false)], args := [d] }
  | _ => none }
def FnExactAverageMovesWrongFalsely : Prop := fnExactAverageMovesRow.holds Try.pinned (OpenSpec.ofChange fnExactAverageMovesWrong)

/-- 'laws.FnExactCountTakes': WHATEVER THE INPUT: true; the input reads as it did. -/
def fnExactCountTakesSpec : ChangeSpec := { name := "fnExactCountTakes", fn := fun _ => fun
  | [d] => { results := [.lit (.bool true)], args := [d] }
  | _ => none }
def fnExactCountTakesRow : OpenClaim := { program := "ytjlcmocepnlibaa", sum := "33ea2ea542d2a7d372033aed118c7852e393b5285201f339d60ffb85f16f5c9d", func := "loop.example/g03010/laws.FnExactCountTakes", spec := "fnExactCountTakes", apart := false }
def FnExactCountTakesSaid : Prop := fnExactCountTakesRow.holds Try.pinned (OpenSpec.ofChange fnExactCountTakesSpec)

/-- ITS FALSE NEIGHBOUR: 'it returns false'. Refute it at one input. -/
def fnExactCountTakesWrong : ChangeSpec := { name := "fnExactCountTakes", fn := fun _ => fun
  | [d] => { results := [.lit (.bool false)], args := [d] }
  | _ => none }
def FnExactCountTakesWrongFalsely : Prop := fnExactCountTakesRow.holds Try.pinned (OpenSpec.ofChange fnExactCountTakesWrong)

/-- 'laws.FnExactCardsPlayed': WHATEVER THE INPUT: true; the input reads as it did. -/
def fnExactCardsPlayedSpec : ChangeSpec := { name := "fnExactCardsPlayed", fn := fun _ => fun
  | [d] => { results := [.lit (.bool true)], args := [d] }
  | _ => none }
def fnExactCardsPlayedRow : OpenClaim := { program := "ytjlcmocepnlibaa", sum := "33ea2ea542d2a7d372033aed118c7852e393b5285201f339d60ffb85f16f5c9d", func := "loop.example/g03010/laws.FnExactCardsPlayed", spec := "fnExactCardsPlayed", unfollowed := true, recurses := true, apart := false }
def FnExactCardsPlayedSaid : Prop := fnExactCardsPlayedRow.holds Try.pinned (OpenSpec.ofChange fnExactCardsPlayedSpec)

/-- ITS FALSE NEIGHBOUR: 'it returns false'. Refute it at one input. -/
def fnExactCardsPlayedWrong : ChangeSpec := { name := "fnExactCardsPlayed", fn := fun _ => fun
  | [d] => { results := [.lit (.bool false)], args := [d] }
  | _ => none }
def FnExactCardsPlayedWrongFalsely : Prop := fnExactCardsPlayedRow.holds Try.pinned (OpenSpec.ofChange fnExactCardsPlayedWrong)

/-- 'laws.FnExactLongestPlays': WHATEVER THE INPUT: true; the input reads as it did. -/
def fnExactLongestPlaysSpec : ChangeSpec := { name := "fnExactLongestPlays", fn := fun _ => fun
  | [d] => { results := [.lit (.bool true)], args := [d] }
  | _ => none }
def fnExactLongestPlaysRow : OpenClaim := { program := "ytjlcmocepnlibaa", sum := "33ea2ea542d2a7d372033aed118c7852e393b5285201f339d60ffb85f16f5c9d", func := "loop.example/g03010/laws.FnExactLongestPlays", spec := "fnExactLongestPlays", apart := false }
def FnExactLongestPlaysSaid : Prop := fnExactLongestPlaysRow.holds Try.pinned (OpenSpec.ofChange fnExactLongestPlaysSpec)

/-- ITS FALSE NEIGHBOUR: 'it returns false'. Refute it at one input. -/
def fnExactLongestPlaysWrong : ChangeSpec := { name := "fnExactLongestPlays", fn := fun _ => fun
  | [d] => { results := [.lit (.bool false)], args := [d] }
  | _ => none }
def FnExactLongestPlaysWrongFalsely : Prop := fnExactLongestPlaysRow.holds Try.pinned (OpenSpec.ofChange fnExactLongestPlaysWrong)

/-- 'laws.FnExactCountEvents': WHATEVER THE INPUT: true; the input reads as it did. -/
def fnExactCountEventsSpec : ChangeSpec := { name := "fnExactCountEvents", fn := fun _ => fun
  | [d1, d2] => { results := [.lit (.bool true)], args := [d1, d2] }
  | _ => none }
def fnExactCountEventsRow : OpenClaim := { program := "ytjlcmocepnlibaa", sum := "33ea2ea542d2a7d372033aed118c7852e393b5285201f339d60ffb85f16f5c9d", func := "loop.example/g03010/laws.FnExactCountEvents", spec := "fnExactCountEvents", unfollowed := true, recurses := true, apart := false }
def FnExactCountEventsSaid : Prop := fnExactCountEventsRow.holds Try.pinned (OpenSpec.ofChange fnExactCountEventsSpec)

/-- ITS FALSE NEIGHBOUR: 'it returns false'. Refute it at one input. -/
def fnExactCountEventsWrong : ChangeSpec := { name := "fnExactCountEvents", fn := fun _ => fun
  | [d1, d2] => { results := [.lit (.bool false)], args := [d1, d2] }
  | _ => none }
def FnExactCountEventsWrongFalsely : Prop := fnExactCountEventsRow.holds Try.pinned (OpenSpec.ofChange fnExactCountEventsWrong)

/-- 'laws.FnExactSplitWords': WHATEVER THE INPUT: true; the input reads as it did. -/
def fnExactSplitWordsSpec : ChangeSpec := { name := "fnExactSplitWords", fn := fun _ => fun
  | [d1, d2] => { results := [.lit (.bool true)], args := [d1, d2] }
  | _ => none }
def fnExactSplitWordsRow : OpenClaim := { program := "ytjlcmocepnlibaa", sum := "33ea2ea542d2a7d372033aed118c7852e393b5285201f339d60ffb85f16f5c9d", func := "loop.example/g03010/laws.FnExactSplitWords", spec := "fnExactSplitWords", inPlace := ["internal/bytealg.IndexByteString"], unfollowed := true, recurses := true, apart := false }
def FnExactSplitWordsSaid : Prop := fnExactSplitWordsRow.holds Try.pinned (OpenSpec.ofChange fnExactSplitWordsSpec)

/-- ITS FALSE NEIGHBOUR: 'it returns false'. Refute it at one input. -/
def fnExactSplitWordsWrong : ChangeSpec := { name := "fnExactSplitWords", fn := fun _ => fun
  | [d1, d2] => { results := [.lit (.bool false)], args := [d1, d2] }
  | _ => none }
def FnExactSplitWordsWrongFalsely : Prop := fnExactSplitWordsRow.holds Try.pinned (OpenSpec.ofChange fnExactSplitWordsWrong)

/-- 'laws.FnExactParseRecord': WHATEVER THE INPUT: true; the input reads as it did. -/
def fnExactParseRecordSpec : ChangeSpec := { name := "fnExactParseRecord", fn := fun _ => fun
  | [d] => { results := [.lit (.bool true)], args := [d] }
  | _ => none }
def fnExactParseRecordRow : OpenClaim := { program := "ytjlcmocepnlibaa", sum := "33ea2ea542d2a7d372033aed118c7852e393b5285201f339d60ffb85f16f5c9d", func := "loop.example/g03010/laws.FnExactParseRecord", spec := "fnExactParseRecord", inPlace := ["internal/bytealg.IndexByteString"], apart := false }
def FnExactParseRecordSaid : Prop := fnExactParseRecordRow.holds Try.pinned (OpenSpec.ofChange fnExactParseRecordSpec)

/-- ITS FALSE NEIGHBOUR: 'it returns false'. Refute it at one input. -/
def fnExactParseRecordWrong : ChangeSpec := { name := "fnExactParseRecord", fn := fun _ => fun
  | [d] => { results := [.lit (.bool false)], args := [d] }
  | _ => none }
def FnExactParseRecordWrongFalsely : Prop := fnExactParseRecordRow.holds Try.pinned (OpenSpec.ofChange fnExactParseRecordWrong)

/-- 'laws.FnExactWinsOf': WHATEVER THE INPUT: true; the input reads as it did. -/
def fnExactWinsOfSpec : ChangeSpec := { name := "fnExactWinsOf", fn := fun _ => fun
  | [d1, d2, d3] => { results := [.lit (.bool true)], args := [d1, d2, d3] }
  | _ => none }
def fnExactWinsOfRow : OpenClaim := { program := "ytjlcmocepnlibaa", sum := "33ea2ea542d2a7d372033aed118c7852e393b5285201f339d60ffb85f16f5c9d", func := "loop.example/g03010/laws.FnExactWinsOf", spec := "fnExactWinsOf", unfollowed := true, recurses := true, apart := false }
def FnExactWinsOfSaid : Prop := fnExactWinsOfRow.holds Try.pinned (OpenSpec.ofChange fnExactWinsOfSpec)

/-- ITS FALSE NEIGHBOUR: 'it returns false'. Refute it at one input. -/
def fnExactWinsOfWrong : ChangeSpec := { name := "fnExactWinsOf", fn := fun _ => fun
  | [d1, d2, d3] => { results := [.lit (.bool false)], args := [d1, d2, d3] }
  | _ => none }
def FnExactWinsOfWrongFalsely : Prop := fnExactWinsOfRow.holds Try.pinned (OpenSpec.ofChange fnExactWinsOfWrong)

/-- 'laws.FnExactGamesPlayed': WHATEVER THE INPUT: true; the input reads as it did. -/
def fnExactGamesPlayedSpec : ChangeSpec := { name := "fnExactGamesPlayed", fn := fun _ => fun
  | [d] => { results := [.lit (.bool true)], args := [d] }
  | _ => none }
def fnExactGamesPlayedRow : OpenClaim := { program := "ytjlcmocepnlibaa", sum := "33ea2ea542d2a7d372033aed118c7852e393b5285201f339d60ffb85f16f5c9d", func := "loop.example/g03010/laws.FnExactGamesPlayed", spec := "fnExactGamesPlayed", apart := false }
def FnExactGamesPlayedSaid : Prop := fnExactGamesPlayedRow.holds Try.pinned (OpenSpec.ofChange fnExactGamesPlayedSpec)

/-- ITS FALSE NEIGHBOUR: 'it returns false'. Refute it at one input. -/
def fnExactGamesPlayedWrong : ChangeSpec := { name := "fnExactGamesPlayed", fn := fun _ => fun
  | [d] => { results := [.lit (.bool false)], args := [d] }
  | _ => none }
def FnExactGamesPlayedWrongFalsely : Prop := fnExactGamesPlayedRow.holds Try.pinned (OpenSpec.ofChange fnExactGamesPlayedWrong)

/- THE SECOND FORM. 'bulk': how many values and letters a reading holds, each counted each time it is reached (what is shared counts as often as it is met; a slice's spare places count too). A statement '..UptoSaid' is the law's where the arguments, and the package variables that the reading takes, are together of bulk at most 1048576: NARROWER than '..Said'. Prove '..Said' where nothing that the law and all that it calls make is longer than what came in: it says more and counts as full. Else prove '..UptoSaid'. A law counts once. -/
mutual
def uptoBulk {H : Type} : DataW H → Nat
  | .lit (.string bytes) => bytes.length + 1
  | .lit _ => 1
  | .nil => 1
  | .ptr d => uptoBulk d + 1
  | .slice elems spare => uptoBulkAll elems + uptoBulkAll spare + 1
  | .agg parts => uptoBulkAll parts + 1
  | .iface _ d => uptoBulk d + 1
  | .map entries => uptoBulkEntries entries + 1
  | .held _ => 1
def uptoBulkAll {H : Type} : List (DataW H) → Nat
  | [] => 0
  | d :: r => uptoBulk d + uptoBulkAll r
def uptoBulkEntries {H : Type} : List (Lit × DataW H) → Nat
  | [] => 0
  | x :: r => uptoBulkEntry x + uptoBulkEntries r
def uptoBulkEntry {H : Type} : Lit × DataW H → Nat
  | (.string bytes, d) => bytes.length + uptoBulk d + 1
  | (_, d) => uptoBulk d + 1
 end
def uptoSmall : (H : Type) → List (DataW H) → Bool := fun _ ds => decide (uptoBulkAll ds ≤ 1048576)
def OpenSpec.upto (s : _root_.Go.ChangeSpec) : _root_.Go.OpenSpec := { _root_.Go.OpenSpec.ofChange s with cond := some uptoSmall }

/-- 'laws.FnExactFirstApart', WHERE WHAT IT READS IS OF BULK AT MOST 1048576: true; the input reads as it did. -/
def fnExactFirstApartUptoRow : OpenClaim := { program := "ytjlcmocepnlibaa", sum := "33ea2ea542d2a7d372033aed118c7852e393b5285201f339d60ffb85f16f5c9d", func := "loop.example/g03010/laws.FnExactFirstApart", spec := "fnExactFirstApart", apart := false, narrowed := true }
def FnExactFirstApartUptoSaid : Prop := fnExactFirstApartUptoRow.holds Try.pinned (OpenSpec.upto fnExactFirstApartSpec)

/-- 'laws.FnExactHiddenCount', WHERE WHAT IT READS IS OF BULK AT MOST 1048576: true; the input reads as it did. -/
def fnExactHiddenCountUptoRow : OpenClaim := { program := "ytjlcmocepnlibaa", sum := "33ea2ea542d2a7d372033aed118c7852e393b5285201f339d60ffb85f16f5c9d", func := "loop.example/g03010/laws.FnExactHiddenCount", spec := "fnExactHiddenCount", apart := false, narrowed := true }
def FnExactHiddenCountUptoSaid : Prop := fnExactHiddenCountUptoRow.holds Try.pinned (OpenSpec.upto fnExactHiddenCountSpec)

/-- 'laws.FnExactMayHold', WHERE WHAT IT READS IS OF BULK AT MOST 1048576: true; the input reads as it did. -/
def fnExactMayHoldUptoRow : OpenClaim := { program := "ytjlcmocepnlibaa", sum := "33ea2ea542d2a7d372033aed118c7852e393b5285201f339d60ffb85f16f5c9d", func := "loop.example/g03010/laws.FnExactMayHold", spec := "fnExactMayHold", apart := false, narrowed := true }
def FnExactMayHoldUptoSaid : Prop := fnExactMayHoldUptoRow.holds Try.pinned (OpenSpec.upto fnExactMayHoldSpec)

/-- 'laws.FnExactSamePeek', WHERE WHAT IT READS IS OF BULK AT MOST 1048576: true; the input reads as it did. -/
def fnExactSamePeekUptoRow : OpenClaim := { program := "ytjlcmocepnlibaa", sum := "33ea2ea542d2a7d372033aed118c7852e393b5285201f339d60ffb85f16f5c9d", func := "loop.example/g03010/laws.FnExactSamePeek", spec := "fnExactSamePeek", apart := false, narrowed := true }
def FnExactSamePeekUptoSaid : Prop := fnExactSamePeekUptoRow.holds Try.pinned (OpenSpec.upto fnExactSamePeekSpec)

/-- 'laws.FnExactAverageMoves', WHERE WHAT IT READS IS OF BULK AT MOST 1048576: true; the input reads as it did. -/
def fnExactAverageMovesUptoRow : OpenClaim := { program := "ytjlcmocepnlibaa", sum := "33ea2ea542d2a7d372033aed118c7852e393b5285201f339d60ffb85f16f5c9d", func := "loop.example/g03010/laws.FnExactAverageMoves", spec := "fnExactAverageMoves", unfollowed := true, recurses := true, apart := false, narrowed := true }
def FnExactAverageMovesUptoSaid : Prop := fnExactAverageMovesUptoRow.holds Try.pinned (OpenSpec.upto fnExactAverageMovesSpec)

/-- 'laws.FnExactCountTakes', WHERE WHAT IT READS IS OF BULK AT MOST 1048576: true; the input reads as it did. -/
def fnExactCountTakesUptoRow : OpenClaim := { program := "ytjlcmocepnlibaa", sum := "33ea2ea542d2a7d372033aed118c7852e393b5285201f339d60ffb85f16f5c9d", func := "loop.example/g03010/laws.FnExactCountTakes", spec := "fnExactCountTakes", apart := false, narrowed := true }
def FnExactCountTakesUptoSaid : Prop := fnExactCountTakesUptoRow.holds Try.pinned (OpenSpec.upto fnExactCountTakesSpec)

/-- 'laws.FnExactCardsPlayed', WHERE WHAT IT READS IS OF BULK AT MOST 1048576: true; the input reads as it did. -/
def fnExactCardsPlayedUptoRow : OpenClaim := { program := "ytjlcmocepnlibaa", sum := "33ea2ea542d2a7d372033aed118c7852e393b5285201f339d60ffb85f16f5c9d", func := "loop.example/g03010/laws.FnExactCardsPlayed", spec := "fnExactCardsPlayed", unfollowed := true, recurses := true, apart := false, narrowed := true }
def FnExactCardsPlayedUptoSaid : Prop := fnExactCardsPlayedUptoRow.holds Try.pinned (OpenSpec.upto fnExactCardsPlayedSpec)

/-- 'laws.FnExactLongestPlays', WHERE WHAT IT READS IS OF BULK AT MOST 1048576: true; the input reads as it did. -/
def fnExactLongestPlaysUptoRow : OpenClaim := { program := "ytjlcmocepnlibaa", sum := "33ea2ea542d2a7d372033aed118c7852e393b5285201f339d60ffb85f16f5c9d", func := "loop.example/g03010/laws.FnExactLongestPlays", spec := "fnExactLongestPlays", apart := false, narrowed := true }
def FnExactLongestPlaysUptoSaid : Prop := fnExactLongestPlaysUptoRow.holds Try.pinned (OpenSpec.upto fnExactLongestPlaysSpec)

/-- 'laws.FnExactCountEvents', WHERE WHAT IT READS IS OF BULK AT MOST 1048576: true; the input reads as it did. -/
def fnExactCountEventsUptoRow : OpenClaim := { program := "ytjlcmocepnlibaa", sum := "33ea2ea542d2a7d372033aed118c7852e393b5285201f339d60ffb85f16f5c9d", func := "loop.example/g03010/laws.FnExactCountEvents", spec := "fnExactCountEvents", unfollowed := true, recurses := true, apart := false, narrowed := true }
def FnExactCountEventsUptoSaid : Prop := fnExactCountEventsUptoRow.holds Try.pinned (OpenSpec.upto fnExactCountEventsSpec)

/-- 'laws.FnExactSplitWords', WHERE WHAT IT READS IS OF BULK AT MOST 1048576: true; the input reads as it did. -/
def fnExactSplitWordsUptoRow : OpenClaim := { program := "ytjlcmocepnlibaa", sum := "33ea2ea542d2a7d372033aed118c7852e393b5285201f339d60ffb85f16f5c9d", func := "loop.example/g03010/laws.FnExactSplitWords", spec := "fnExactSplitWords", inPlace := ["internal/bytealg.IndexByteString"], unfollowed := true, recurses := true, apart := false, narrowed := true }
def FnExactSplitWordsUptoSaid : Prop := fnExactSplitWordsUptoRow.holds Try.pinned (OpenSpec.upto fnExactSplitWordsSpec)

/-- 'laws.FnExactParseRecord', WHERE WHAT IT READS IS OF BULK AT MOST 1048576: true; the input reads as it did. -/
def fnExactParseRecordUptoRow : OpenClaim := { program := "ytjlcmocepnlibaa", sum := "33ea2ea542d2a7d372033aed118c7852e393b5285201f339d60ffb85f16f5c9d", func := "loop.example/g03010/laws.FnExactParseRecord", spec := "fnExactParseRecord", inPlace := ["internal/bytealg.IndexByteString"], apart := false, narrowed := true }
def FnExactParseRecordUptoSaid : Prop := fnExactParseRecordUptoRow.holds Try.pinned (OpenSpec.upto fnExactParseRecordSpec)

/-- 'laws.FnExactWinsOf', WHERE WHAT IT READS IS OF BULK AT MOST 1048576: true; the input reads as it did. -/
def fnExactWinsOfUptoRow : OpenClaim := { program := "ytjlcmocepnlibaa", sum := "33ea2ea542d2a7d372033aed118c7852e393b5285201f339d60ffb85f16f5c9d", func := "loop.example/g03010/laws.FnExactWinsOf", spec := "fnExactWinsOf", unfollowed := true, recurses := true, apart := false, narrowed := true }
def FnExactWinsOfUptoSaid : Prop := fnExactWinsOfUptoRow.holds Try.pinned (OpenSpec.upto fnExactWinsOfSpec)

/-- 'laws.FnExactGamesPlayed', WHERE WHAT IT READS IS OF BULK AT MOST 1048576: true; the input reads as it did. -/
def fnExactGamesPlayedUptoRow : OpenClaim := { program := "ytjlcmocepnlibaa", sum := "33ea2ea542d2a7d372033aed118c7852e393b5285201f339d60ffb85f16f5c9d", func := "loop.example/g03010/laws.FnExactGamesPlayed", spec := "fnExactGamesPlayed", apart := false, narrowed := true }
def FnExactGamesPlayedUptoSaid : Prop := fnExactGamesPlayedUptoRow.holds Try.pinned (OpenSpec.upto fnExactGamesPlayedSpec)

end Rows
end Go.Proofs.Ytjlcmocepnlibaa
