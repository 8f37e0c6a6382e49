/-
  No cell of these rows narrows 'for every input' (looked for: loops, veiled, ifaces, maps, wideKeys, modest, calm, conditions, laid).
  DERIVED. THE GIVEN ROWS OF THIS SEAT. 7 by the template 'for every input the law returns true; each argument reads behind the call as it read before'; 0 by the template 'total and deterministic' (their statements: YtchpkpajnjcnbabTotals.lean).
  GIVEN WITH THE SEED: the statements are not yours to turn. If you find one false, say at which input.
  Laid BY PROGRAM, IN A SANDBOX (cutbox-rows.mjs): the forced cells as the released guide's own fill.sh prints them over the translation 466ba80ae52f6200… (all of the seat's roots in one cut). By AI agents, Wed Nov 11 2026. No macro, syntax, notation, axiom, sorry.
-/
import Derived.Test.YtchpkpajnjcnbabChecked
import GoSem.Claim
import GoSem.ClaimJoined
import GoSem.ClaimMapViews
import Derived.JoinedTies
import Derived.KernelRfl
namespace Go.Proofs.Ytchpkpajnjcnbab
/- THE CELL 'sum', in the pinned program and in every row, IS THE sha256 OF THE DUMP (.gsa) THAT YtchpkpajnjcnbabProg.lean LOADS. Nothing in Lean hashes anything: it is a label: what it is worth is what the hold of that sum in a sandbox is worth. -/
noncomputable def Try.pinned : Pinned := { name := "ytchpkpajnjcnbab", sum := "466ba80ae52f6200981fc34a0bdf50b67a1784341d550463ff9bad951d795e4d", checked := Try.checked }
namespace Rows
def none {H : Type} : Left H := { results := [], args := [] }

/-- 'laws.FnExactFullDeck': WHATEVER THE INPUT: true; the input reads as it did. -/
def fnExactFullDeckSpec : ChangeSpec := { name := "fnExactFullDeck", fn := fun _ => fun
  | [] => { results := [.lit (.bool true)], args := [] }
  | _ => none }
def fnExactFullDeckRow : OpenClaim := { program := "ytchpkpajnjcnbab", sum := "466ba80ae52f6200981fc34a0bdf50b67a1784341d550463ff9bad951d795e4d", func := "loop.example/g03010/laws.FnExactFullDeck", spec := "fnExactFullDeck", apart := false }
def FnExactFullDeckSaid : Prop := fnExactFullDeckRow.holds Try.pinned (OpenSpec.ofChange fnExactFullDeckSpec)

/-- ITS FALSE NEIGHBOUR: 'it returns false'. Refute it at one input. -/
def fnExactFullDeckWrong : ChangeSpec := { name := "fnExactFullDeck", fn := fun _ => fun
  | [] => { results := [.lit (.bool false)], args := [] }
  | _ => none }
def FnExactFullDeckWrongFalsely : Prop := fnExactFullDeckRow.holds Try.pinned (OpenSpec.ofChange fnExactFullDeckWrong)

/-- 'laws.FnExactCut': WHATEVER THE INPUT: true; the input reads as it did. -/
def fnExactCutSpec : ChangeSpec := { name := "fnExactCut", fn := fun _ => fun
  | [d1, d2] => { results := [.lit (.bool true)], args := [d1, d2] }
  | _ => none }
def fnExactCutRow : OpenClaim := { program := "ytchpkpajnjcnbab", sum := "466ba80ae52f6200981fc34a0bdf50b67a1784341d550463ff9bad951d795e4d", func := "loop.example/g03010/laws.FnExactCut", spec := "fnExactCut", apart := false }
def FnExactCutSaid : Prop := fnExactCutRow.holds Try.pinned (OpenSpec.ofChange fnExactCutSpec)

/-- ITS FALSE NEIGHBOUR: 'it returns false'. Refute it at one input. -/
def fnExactCutWrong : ChangeSpec := { name := "fnExactCut", fn := fun _ => fun
  | [d1, d2] => { results := [.lit (.bool false)], args := [d1, d2] }
  | _ => none }
def FnExactCutWrongFalsely : Prop := fnExactCutRow.holds Try.pinned (OpenSpec.ofChange fnExactCutWrong)

/-- 'laws.FnExactRiffle': WHATEVER THE INPUT: true; the input reads as it did. -/
def fnExactRiffleSpec : ChangeSpec := { name := "fnExactRiffle", fn := fun _ => fun
  | [d1, d2] => { results := [.lit (.bool true)], args := [d1, d2] }
  | _ => none }
def fnExactRiffleRow : OpenClaim := { program := "ytchpkpajnjcnbab", sum := "466ba80ae52f6200981fc34a0bdf50b67a1784341d550463ff9bad951d795e4d", func := "loop.example/g03010/laws.FnExactRiffle", spec := "fnExactRiffle", unfollowed := true, recurses := true, apart := false }
def FnExactRiffleSaid : Prop := fnExactRiffleRow.holds Try.pinned (OpenSpec.ofChange fnExactRiffleSpec)

/-- ITS FALSE NEIGHBOUR: 'it returns false'. Refute it at one input. -/
def fnExactRiffleWrong : ChangeSpec := { name := "fnExactRiffle", fn := fun _ => fun
  | [d1, d2] => { results := [.lit (.bool false)], args := [d1, d2] }
  | _ => none }
def FnExactRiffleWrongFalsely : Prop := fnExactRiffleRow.holds Try.pinned (OpenSpec.ofChange fnExactRiffleWrong)

/-- 'laws.FnExactPlaceOf': WHATEVER THE INPUT: true; the input reads as it did. -/
def fnExactPlaceOfSpec : ChangeSpec := { name := "fnExactPlaceOf", fn := fun _ => fun
  | [d1, d2] => { results := [.lit (.bool true)], args := [d1, d2] }
  | _ => none }
def fnExactPlaceOfRow : OpenClaim := { program := "ytchpkpajnjcnbab", sum := "466ba80ae52f6200981fc34a0bdf50b67a1784341d550463ff9bad951d795e4d", func := "loop.example/g03010/laws.FnExactPlaceOf", spec := "fnExactPlaceOf", apart := false }
def FnExactPlaceOfSaid : Prop := fnExactPlaceOfRow.holds Try.pinned (OpenSpec.ofChange fnExactPlaceOfSpec)

/-- ITS FALSE NEIGHBOUR: 'it returns false'. Refute it at one input. -/
def fnExactPlaceOfWrong : ChangeSpec := { name := "fnExactPlaceOf", fn := fun _ => fun
  | [d1, d2] => { results := [.lit (.bool false)], args := [d1, d2] }
  | _ => none }
def FnExactPlaceOfWrongFalsely : Prop := fnExactPlaceOfRow.holds Try.pinned (OpenSpec.ofChange fnExactPlaceOfWrong)

/-- 'laws.FnExactBeats': WHATEVER THE INPUT: true; the input reads as it did. -/
def fnExactBeatsSpec : ChangeSpec := { name := "fnExactBeats", fn := fun _ => fun
  | [d1, d2, d3] => { results := [.lit (.bool true)], args := [d1, d2, d3] }
  | _ => none }
def fnExactBeatsRow : OpenClaim := { program := "ytchpkpajnjcnbab", sum := "466ba80ae52f6200981fc34a0bdf50b67a1784341d550463ff9bad951d795e4d", func := "loop.example/g03010/laws.FnExactBeats", spec := "fnExactBeats", apart := false }
def FnExactBeatsSaid : Prop := fnExactBeatsRow.holds Try.pinned (OpenSpec.ofChange fnExactBeatsSpec)

/-- ITS FALSE NEIGHBOUR: 'it returns false'. Refute it at one input. -/
def fnExactBeatsWrong : ChangeSpec := { name := "fnExactBeats", fn := fun _ => fun
  | [d1, d2, d3] => { results := [.lit (.bool false)], args := [d1, d2, d3] }
  | _ => none }
def FnExactBeatsWrongFalsely : Prop := fnExactBeatsRow.holds Try.pinned (OpenSpec.ofChange fnExactBeatsWrong)

/-- 'laws.FnExactValueOf': WHATEVER THE INPUT: true; the input reads as it did. -/
def fnExactValueOfSpec : ChangeSpec := { name := "fnExactValueOf", fn := fun _ => fun
  | [d] => { results := [.lit (.bool true)], args := [d] }
  | _ => none }
def fnExactValueOfRow : OpenClaim := { program := "ytchpkpajnjcnbab", sum := "466ba80ae52f6200981fc34a0bdf50b67a1784341d550463ff9bad951d795e4d", func := "loop.example/g03010/laws.FnExactValueOf", spec := "fnExactValueOf", apart := false }
def FnExactValueOfSaid : Prop := fnExactValueOfRow.holds Try.pinned (OpenSpec.ofChange fnExactValueOfSpec)

/-- ITS FALSE NEIGHBOUR: 'it returns false'. Refute it at one input. -/
def fnExactValueOfWrong : ChangeSpec := { name := "fnExactValueOf", fn := fun _ => fun
  | [d] => { results := [.lit (.bool false)], args := [d] }
  | _ => none }
def FnExactValueOfWrongFalsely : Prop := fnExactValueOfRow.holds Try.pinned (OpenSpec.ofChange fnExactValueOfWrong)

/-- 'laws.FnExactHighBid': WHATEVER THE INPUT: true; the input reads as it did. -/
def fnExactHighBidSpec : ChangeSpec := { name := "fnExactHighBid", fn := fun _ => fun
  | [d] => { results := [.lit (.bool true)], args := [d] }
  | _ => none }
def fnExactHighBidRow : OpenClaim := { program := "ytchpkpajnjcnbab", sum := "466ba80ae52f6200981fc34a0bdf50b67a1784341d550463ff9bad951d795e4d", func := "loop.example/g03010/laws.FnExactHighBid", spec := "fnExactHighBid", apart := false }
def FnExactHighBidSaid : Prop := fnExactHighBidRow.holds Try.pinned (OpenSpec.ofChange fnExactHighBidSpec)

/-- ITS FALSE NEIGHBOUR: 'it returns false'. Refute it at one input. -/
def fnExactHighBidWrong : ChangeSpec := { name := "fnExactHighBid", fn := fun _ => fun
  | [d] => { results := [.lit (.bool false)], args := [d] }
  | _ => none }
def FnExactHighBidWrongFalsely : Prop := fnExactHighBidRow.holds Try.pinned (OpenSpec.ofChange fnExactHighBidWrong)

/- THE SECOND FORM. 'bulk': how many values and letters a reading holds, each counted each time it is reached (what is shared counts as often as it is met; a slice's spare places count too). A statement '..UptoSaid' is the law's where the arguments, and the package variables that the reading takes, are together of bulk at most 1048576: NARROWER than '..Said'. Prove '..Said' where nothing that the law and all that it calls make is longer than what came in: it says more and counts as full. Else prove '..UptoSaid'. A law counts once. -/
mutual
def uptoBulk {H : Type} : DataW H → Nat
  | .lit (.string bytes) => bytes.length + 1
  | .lit _ => 1
  | .nil => 1
  | .ptr d => uptoBulk d + 1
  | .slice elems spare => uptoBulkAll elems + uptoBulkAll spare + 1
  | .agg parts => uptoBulkAll parts + 1
  | .iface _ d => uptoBulk d + 1
  | .map entries => uptoBulkEntries entries + 1
  | .held _ => 1
def uptoBulkAll {H : Type} : List (DataW H) → Nat
  | [] => 0
  | d :: r => uptoBulk d + uptoBulkAll r
def uptoBulkEntries {H : Type} : List (Lit × DataW H) → Nat
  | [] => 0
  | x :: r => uptoBulkEntry x + uptoBulkEntries r
def uptoBulkEntry {H : Type} : Lit × DataW H → Nat
  | (.string bytes, d) => bytes.length + uptoBulk d + 1
  | (_, d) => uptoBulk d + 1
 end
def uptoSmall : (H : Type) → List (DataW H) → Bool := fun _ ds => decide (uptoBulkAll ds ≤ 1048576)
def OpenSpec.upto (s : _root_.Go.ChangeSpec) : _root_.Go.OpenSpec := { _root_.Go.OpenSpec.ofChange s with cond := some uptoSmall }

/-- 'laws.FnExactFullDeck', WHERE WHAT IT READS IS OF BULK AT MOST 1048576: true; the input reads as it did. -/
def fnExactFullDeckUptoRow : OpenClaim := { program := "ytchpkpajnjcnbab", sum := "466ba80ae52f6200981fc34a0bdf50b67a1784341d550463ff9bad951d795e4d", func := "loop.example/g03010/laws.FnExactFullDeck", spec := "fnExactFullDeck", apart := false, narrowed := true }
def FnExactFullDeckUptoSaid : Prop := fnExactFullDeckUptoRow.holds Try.pinned (OpenSpec.upto fnExactFullDeckSpec)

/-- 'laws.FnExactCut', WHERE WHAT IT READS IS OF BULK AT MOST 1048576: true; the input reads as it did. -/
def fnExactCutUptoRow : OpenClaim := { program := "ytchpkpajnjcnbab", sum := "466ba80ae52f6200981fc34a0bdf50b67a1784341d550463ff9bad951d795e4d", func := "loop.example/g03010/laws.FnExactCut", spec := "fnExactCut", apart := false, narrowed := true }
def FnExactCutUptoSaid : Prop := fnExactCutUptoRow.holds Try.pinned (OpenSpec.upto fnExactCutSpec)

/-- 'laws.FnExactRiffle', WHERE WHAT IT READS IS OF BULK AT MOST 1048576: true; the input reads as it did. -/
def fnExactRiffleUptoRow : OpenClaim := { program := "ytchpkpajnjcnbab", sum := "466ba80ae52f6200981fc34a0bdf50b67a1784341d550463ff9bad951d795e4d", func := "loop.example/g03010/laws.FnExactRiffle", spec := "fnExactRiffle", unfollowed := true, recurses := true, apart := false, narrowed := true }
def FnExactRiffleUptoSaid : Prop := fnExactRiffleUptoRow.holds Try.pinned (OpenSpec.upto fnExactRiffleSpec)

/-- 'laws.FnExactPlaceOf', WHERE WHAT IT READS IS OF BULK AT MOST 1048576: true; the input reads as it did. -/
def fnExactPlaceOfUptoRow : OpenClaim := { program := "ytchpkpajnjcnbab", sum := "466ba80ae52f6200981fc34a0bdf50b67a1784341d550463ff9bad951d795e4d", func := "loop.example/g03010/laws.FnExactPlaceOf", spec := "fnExactPlaceOf", apart := false, narrowed := true }
def FnExactPlaceOfUptoSaid : Prop := fnExactPlaceOfUptoRow.holds Try.pinned (OpenSpec.upto fnExactPlaceOfSpec)

/-- 'laws.FnExactBeats', WHERE WHAT IT READS IS OF BULK AT MOST 1048576: true; the input reads as it did. -/
def fnExactBeatsUptoRow : OpenClaim := { program := "ytchpkpajnjcnbab", sum := "466ba80ae52f6200981fc34a0bdf50b67a1784341d550463ff9bad951d795e4d", func := "loop.example/g03010/laws.FnExactBeats", spec := "fnExactBeats", apart := false, narrowed := true }
def FnExactBeatsUptoSaid : Prop := fnExactBeatsUptoRow.holds Try.pinned (OpenSpec.upto fnExactBeatsSpec)

/-- 'laws.FnExactValueOf', WHERE WHAT IT READS IS OF BULK AT MOST 1048576: true; the input reads as it did. -/
def fnExactValueOfUptoRow : OpenClaim := { program := "ytchpkpajnjcnbab", sum := "466ba80ae52f6200981fc34a0bdf50b67a1784341d550463ff9bad951d795e4d", func := "loop.example/g03010/laws.FnExactValueOf", spec := "fnExactValueOf", apart := false, narrowed := true }
def FnExactValueOfUptoSaid : Prop := fnExactValueOfUptoRow.holds Try.pinned (OpenSpec.upto fnExactValueOfSpec)

/-- 'laws.FnExactHighBid', WHERE WHAT IT READS IS OF BULK AT MOST 1048576: true; the input reads as it did. -/
def fnExactHighBidUptoRow : OpenClaim := { program := "ytchpkpajnjcnbab", sum := "466ba80ae52f6200981fc34a0bdf50b67a1784341d550463ff9bad951d795e4d", func := "loop.example/g03010/laws.FnExactHighBid", spec := "fnExactHighBid", apart := false, narrowed := true }
def FnExactHighBidUptoSaid : Prop := fnExactHighBidUptoRow.holds Try.pinned (OpenSpec.upto fnExactHighBidSpec)

end Rows
end Go.Proofs.Ytchpkpajnjcnbab
