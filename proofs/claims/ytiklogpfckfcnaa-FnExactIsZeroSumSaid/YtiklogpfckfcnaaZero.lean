/-
  IsZeroSum, both sides.
-/
import Derived.Test.YtiklogpfckfcnaaSheetL
import Derived.Test.YtiklogpfckfcnaaSheetS
import Derived.Test.YtiklogpfckfcnaaNTable
namespace Go.Proofs.Ytiklogpfckfcnaa
open Go.RowKit
set_option linter.unusedVariables false

def isZeroSum (D : MTable) : Bool := isSheet D.rules.players D.sheet
set_option maxRecDepth 100000 in
theorem sIsZeroSum_any (v : Value) (D : MTable) (w : World) (h : RdTable w v D) (hf : D.Few) :
    Calls Try.prog 19 #[v] w fun e w' => e = .returned (.bool (isZeroSum D)) ∧ Below w.heap.size w w' := by
  obtain ⟨p4, p5, p8, p10, p15, p16, p19, p20, p21, p25, p26, c4, c5, c8, c10, c15, c16, c19, c20, c21, c25, c26, b8, b10, b25, hv, h0, h8, h10, h11, h25, h26⟩ := h
  obtain ⟨f0, f8, f10, f11, f25, f26, fs26⟩ := hf
  subst hv
  have B0 : ∀ o1, Below w.heap.size w (w.alloc o1) := fun o1 => (Below.refl w.heap.size w).alloc (Nat.le_refl _) o1
  have HS := Lib.hid (fun o => sIsSheet_any D.rules.players _ D.sheet _ (h26.below (B0 o)) f26 fs26 _ rfl)
  unfold isZeroSum
  clear h0 h8 h10 h11 h25 h26 f0 f8 f10 f11 f25 f26 fs26
  generalize isSheet D.rules.players D.sheet = r at *
  go_enter Try.func19, Try.ntmps19
  go_wp2_with fail
  obtain ⟨o, ho⟩ : ∃ o, o = Obj.cells #[.int .i64 D.rules.players, .int .i64 D.rules.each, .bool D.rules.sameSuit, .bool D.rules.sameRank, .slice p4 D.rules.wild.length c4, .slice p5 D.rules.skip.length c5, .int .i64 D.rules.take, .int .i64 D.rules.limit, .slice p8 D.seals.length c8, .bool D.on, .slice p10 D.deck.length c10, .int .i64 D.game.rules.players, .int .i64 D.game.rules.each, .bool D.game.rules.sameSuit, .bool D.game.rules.sameRank, .slice p15 D.game.rules.wild.length c15, .slice p16 D.game.rules.skip.length c16, .int .i64 D.game.rules.take, .int .i64 D.game.rules.limit, .slice p19 D.game.hands.length c19, .slice p20 D.game.stock.length c20, .slice p21 D.game.heap.length c21, .int .i64 D.game.turn, .int .i64 D.game.moves, .int .i64 D.game.passes, .slice p25 D.record.length c25, .slice p26 D.sheet.length c26] 43 := ⟨_, rfl⟩
  rw [← ho]
  have HO := Lib.hid ho
  clear ho
  refine (HS.out o).mono ?_
  rintro e _w ⟨rfl, rfl⟩
  go_wp2_with fail
  go_ret
  exact ⟨rfl, B0 _⟩
set_option maxRecDepth 100000 in
theorem isZeroSum_any (v : Value) (D : MTable) (w : World) (h : RdTable w v D) (hf : D.Few) :
    Calls Try.prog 21 #[v] w fun e w' => e = .returned (.bool (isZeroSum D)) ∧ Below w.heap.size w w' := by
  obtain ⟨p4, p5, p8, p10, p15, p16, p19, p20, p21, p25, p26, c4, c5, c8, c10, c15, c16, c19, c20, c21, c25, c26, b8, b10, b25, hv, h0, h8, h10, h11, h25, h26⟩ := h
  obtain ⟨f0, f8, f10, f11, f25, f26, fs26⟩ := hf
  subst hv
  have B0 : ∀ o1, Below w.heap.size w (w.alloc o1) := fun o1 => (Below.refl w.heap.size w).alloc (Nat.le_refl _) o1
  have HS := Lib.hid (fun o => isSheet_any D.rules.players _ D.sheet _ (h26.below (B0 o)) f26 fs26 _ rfl)
  unfold isZeroSum
  clear h0 h8 h10 h11 h25 h26 f0 f8 f10 f11 f25 f26 fs26
  generalize isSheet D.rules.players D.sheet = r at *
  go_enter Try.func21, Try.ntmps21
  go_wp2_with fail
  obtain ⟨o, ho⟩ : ∃ o, o = Obj.cells #[.int .i64 D.rules.players, .int .i64 D.rules.each, .bool D.rules.sameSuit, .bool D.rules.sameRank, .slice p4 D.rules.wild.length c4, .slice p5 D.rules.skip.length c5, .int .i64 D.rules.take, .int .i64 D.rules.limit, .slice p8 D.seals.length c8, .bool D.on, .slice p10 D.deck.length c10, .int .i64 D.game.rules.players, .int .i64 D.game.rules.each, .bool D.game.rules.sameSuit, .bool D.game.rules.sameRank, .slice p15 D.game.rules.wild.length c15, .slice p16 D.game.rules.skip.length c16, .int .i64 D.game.rules.take, .int .i64 D.game.rules.limit, .slice p19 D.game.hands.length c19, .slice p20 D.game.stock.length c20, .slice p21 D.game.heap.length c21, .int .i64 D.game.turn, .int .i64 D.game.moves, .int .i64 D.game.passes, .slice p25 D.record.length c25, .slice p26 D.sheet.length c26] 43 := ⟨_, rfl⟩
  rw [← ho]
  have HO := Lib.hid ho
  clear ho
  refine (HS.out o).mono ?_
  rintro e w1 ⟨rfl, B1⟩
  have B2 := (B0 o).trans (B1.mono (B0 o).size)
  go_wp2_with fail
  go_ret
  exact ⟨rfl, B2⟩
end Go.Proofs.Ytiklogpfckfcnaa
