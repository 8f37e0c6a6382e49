/-
  cardOf and the methods of card.
-/
import Derived.Test.YtmfammgdcdlceaaDoorCard
namespace Go.Proofs.YtmfammgdcdlceaaDoor
open Go.RowKit
set_option linter.unusedVariables false
set_option linter.unusedSimpArgs false

theorem made4 : (madeCells #[Value.int .i64 0] 4).toList = [.int .i64 0, .int .i64 0, .int .i64 0, .int .i64 0] := by simp [madeCells, List.range, List.range.loop]
theorem cardOf_in (c : Int) (w : World) (h : isCard c = true) :
    Calls Tryd.prog 78 #[.int .i64 c] w fun e w' => e = .returned (.tuple #[.int .u8 c, .bool true]) ∧ w = w' := by
  have HC := Lib.hid (isCard_r c w _ h)
  obtain ⟨h0, h1⟩ := isCard_t h
  have hw : IntKind.u8.wrap c = c := by rw [IntKind.wrap_u8]; omega
  clear h
  go_enter Tryd.func78, Tryd.ntmps78
  go_wp2_with fail
  refine HC.out.mono ?_
  rintro e _w ⟨rfl, rfl⟩
  go_wp2_with fail
  go_ret2
  exact ⟨rfl, rfl⟩
theorem cardOf_out (c : Int) (w : World) (h : isCard c = false) :
    Calls Tryd.prog 78 #[.int .i64 c] w fun e w' => e = .returned (.tuple #[.int .u8 0, .bool false]) ∧ w = w' := by
  have HC := Lib.hid (isCard_r c w _ h)
  clear h
  go_enter Tryd.func78, Tryd.ntmps78
  go_wp2_with fail
  refine HC.out.mono ?_
  rintro e _w ⟨rfl, rfl⟩
  go_wp2_with fail
  go_ret2
  exact ⟨rfl, rfl⟩
theorem kSuit_r (c : Int) (w : World) (h0 : 0 ≤ c) (h1 : c ≤ 51) (r : Int) (hr : c / 13 = r) :
    Calls Tryd.prog 92 #[.int .u8 c] w fun e w' => e = .returned (.int .i64 r) ∧ w = w' := by
  subst hr
  go_enter Tryd.func92, Tryd.ntmps92
  go_wp2
  go_ret
  exact ⟨rfl, rfl⟩
theorem kRank_r (c : Int) (w : World) (h0 : 0 ≤ c) (h1 : c ≤ 51) (r : Int) (hr : c % 13 = r) :
    Calls Tryd.prog 91 #[.int .u8 c] w fun e w' => e = .returned (.int .i64 r) ∧ w = w' := by
  subst hr
  go_enter Tryd.func91, Tryd.ntmps91
  go_wp2
  go_ret
  exact ⟨rfl, rfl⟩
end Go.Proofs.YtmfammgdcdlceaaDoor
