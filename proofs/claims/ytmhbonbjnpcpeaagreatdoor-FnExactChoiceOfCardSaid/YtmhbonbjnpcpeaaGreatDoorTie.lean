/-
  DERIVED. GIVEN WITH THE SEED: THE PROGRAM's TIES (one call each: nine closed facts by the kernel) AND EACH ROW's TIE, after the 31st guide's Derived/Test/Toyas{Tie, Card}.lean. No idea stands in it: it is a product of the set-up. Laid BY PROGRAM, IN A SANDBOX (cutbox-door.mjs). By AI agents, Wed Nov 11 2026. No macro, syntax, notation, axiom, sorry.
-/
import Derived.Test.YtmhbonbjnpcpeaaGreatDoorRows
import Derived.LaidByTextLater
import Derived.SevenTiedAt
import Derived.LaidSub
import Derived.LaidOnce
namespace Go.Proofs.YtmhbonbjnpcpeaaGreatDoor
open Go
set_option maxRecDepth 100000
theorem seatTie1 : Tryz.prog.laidByTextLater [("loop.example/g03010/impl.suitSigns", Rows.laid_loop_example_g03010_impl_suitSigns), ("loop.example/g03010/impl.rankSigns", Rows.laid_loop_example_g03010_impl_rankSigns), ("loop.example/g03010/impl.fromSigns", Rows.laid_loop_example_g03010_impl_fromSigns), ("loop.example/g03010/impl.redSign", Rows.laid_loop_example_g03010_impl_redSign), ("loop.example/g03010/impl.notSign", Rows.laid_loop_example_g03010_impl_notSign), ("loop.example/g03010/impl.andSign", Rows.laid_loop_example_g03010_impl_andSign), ("loop.example/g03010/impl.orSign", Rows.laid_loop_example_g03010_impl_orSign)] [.data, .data, .data, .data, .data, .data, .data] true :=
  Program.laidByTextLater_by_one 44 8 4 (by kernel_rfl) (by kernel_rfl) (by kernel_rfl) (by kernel_rfl) (by kernel_rfl) (by kernel_rfl) (fun _ _ => by kernel_rfl)
theorem noOwnUnsafe : Tryz.pinned.checked.prog.headLifts.contains "ownunsafe" = false := by kernel_rfl
theorem tie : Tryz.prog.laidByTextLater [("loop.example/g03010/impl.suitSigns", Rows.laid_loop_example_g03010_impl_suitSigns), ("loop.example/g03010/impl.rankSigns", Rows.laid_loop_example_g03010_impl_rankSigns), ("loop.example/g03010/impl.fromSigns", Rows.laid_loop_example_g03010_impl_fromSigns), ("loop.example/g03010/impl.redSign", Rows.laid_loop_example_g03010_impl_redSign), ("loop.example/g03010/impl.notSign", Rows.laid_loop_example_g03010_impl_notSign), ("loop.example/g03010/impl.andSign", Rows.laid_loop_example_g03010_impl_andSign), ("loop.example/g03010/impl.orSign", Rows.laid_loop_example_g03010_impl_orSign)] [.data, .data, .data, .data, .data, .data, .data] true :=
  Program.laidByTextLater.sub seatTie1 ["loop.example/g03010/impl.suitSigns", "loop.example/g03010/impl.rankSigns", "loop.example/g03010/impl.fromSigns", "loop.example/g03010/impl.redSign", "loop.example/g03010/impl.notSign", "loop.example/g03010/impl.andSign", "loop.example/g03010/impl.orSign"] (by kernel_rfl) (by kernel_rfl)
theorem fnExactChoiceOf_row_tie : Rows.fnExactChoiceOfRow.laidByTextAt .later Tryz.pinned [.data, .data, .data, .data, .data, .data, .data] true :=
  OpenClaim.laidByTextAt_later rfl rfl tie noOwnUnsafe
theorem fnExactChoiceOfUpto_row_tie : Rows.fnExactChoiceOfUptoRow.laidByTextAt .later Tryz.pinned [.data, .data, .data, .data, .data, .data, .data] true :=
  OpenClaim.laidByTextAt_later rfl rfl tie noOwnUnsafe
end Go.Proofs.YtmhbonbjnpcpeaaGreatDoor
