/-
  Declarer, its number behind a word of its own.
-/
import Derived.Test.YtfajdbfpacmclaaDoorBid
namespace Go.Proofs.YtfajdbfpacmclaaDoor
open Go.RowKit
def declI (p : Int) (zs : List Int) : Int := if isCallsB p zs = true ∧ endk p zs zs.length = true then decl p zs zs.length else -1
theorem declarerI_any (s : Addr) (p : Int) (v : Value) (zs : List Int) (b : Nat) (w : World) (h : RdAt .i64 w v zs b) (hl : zs.length ≤ 1048576) (hS : Sent1 s w) :
    Calls Tryd.prog 14 #[.int .i64 p, v] w fun e w' => e = .returned (.int .i64 (declI p zs)) ∧ Below w.heap.size w w' := declarer_any s p v zs b w h hl hS
theorem sDeclarerI_any (p : Int) (v : Value) (zs : List Int) (b : Nat) (w : World) (h : RdAt .i64 w v zs b) (hl : zs.length ≤ 1048576) (wp : (Lit.int .i64 p).wf = true) :
    Calls Tryd.prog 25 #[.int .i64 p, v] w fun e w' => e = .returned (.int .i64 (declI p zs)) ∧ Below w.heap.size w w' := sDeclarer_any p v zs b w h hl wp
end Go.Proofs.YtfajdbfpacmclaaDoor
