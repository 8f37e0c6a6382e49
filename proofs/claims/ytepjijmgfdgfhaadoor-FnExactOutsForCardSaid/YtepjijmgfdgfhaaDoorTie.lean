/-
  DERIVED. GIVEN WITH THE SEED: THE PROGRAM's TIES (one call each: nine closed facts by the kernel) AND EACH ROW's TIE, after the 31st guide's Derived/Test/Toyas{Tie, Card}.lean. No idea stands in it: it is a product of the set-up. Laid BY PROGRAM, IN A SANDBOX (cutbox-door.mjs). By AI agents, Wed Nov 11 2026. No macro, syntax, notation, axiom, sorry.
-/
import Derived.Test.YtepjijmgfdgfhaaDoorRows
import Derived.LaidByTextLater
import Derived.SevenTiedAt
import Derived.LaidSub
import Derived.LaidOnce
namespace Go.Proofs.YtepjijmgfdgfhaaDoor
open Go
set_option maxRecDepth 100000
theorem seatTie1 : Tryd.prog.laidByTextLater [("math/bits.deBruijn64tab", Rows.laid_math_bits_deBruijn64tab), ("loop.example/g03010/impl.suitSigns", Rows.laid_loop_example_g03010_impl_suitSigns), ("loop.example/g03010/impl.rankSigns", Rows.laid_loop_example_g03010_impl_rankSigns), ("loop.example/g03010/impl.fromSigns", Rows.laid_loop_example_g03010_impl_fromSigns), ("loop.example/g03010/impl.redSign", Rows.laid_loop_example_g03010_impl_redSign), ("loop.example/g03010/impl.notSign", Rows.laid_loop_example_g03010_impl_notSign), ("loop.example/g03010/impl.andSign", Rows.laid_loop_example_g03010_impl_andSign), ("loop.example/g03010/impl.orSign", Rows.laid_loop_example_g03010_impl_orSign)] [.data, .data, .data, .data, .data, .data, .data, .data] true :=
  Program.laidByTextLater_by_one 49 8 65 (by kernel_rfl) (by kernel_rfl) (by kernel_rfl) (by kernel_rfl) (by kernel_rfl) (by kernel_rfl) (fun _ _ => by kernel_rfl)
theorem noOwnUnsafe : Tryd.pinned.checked.prog.headLifts.contains "ownunsafe" = false := by kernel_rfl
theorem tie : Tryd.prog.laidByTextLater [("math/bits.deBruijn64tab", Rows.laid_math_bits_deBruijn64tab)] [.data] true :=
  Program.laidByTextLater.sub seatTie1 ["math/bits.deBruijn64tab"] (by kernel_rfl) (by kernel_rfl)
theorem fnExactMissing_row_tie : Rows.fnExactMissingRow.laidByTextAt .later Tryd.pinned [.data] true :=
  OpenClaim.laidByTextAt_later rfl rfl tie noOwnUnsafe
theorem fnExactUnseen_row_tie : Rows.fnExactUnseenRow.laidByTextAt .later Tryd.pinned [.data] true :=
  OpenClaim.laidByTextAt_later rfl rfl tie noOwnUnsafe
theorem tie2 : Tryd.prog.laidByTextLater [("math/bits.deBruijn64tab", Rows.laid_math_bits_deBruijn64tab), ("loop.example/g03010/impl.suitSigns", Rows.laid_loop_example_g03010_impl_suitSigns), ("loop.example/g03010/impl.rankSigns", Rows.laid_loop_example_g03010_impl_rankSigns), ("loop.example/g03010/impl.fromSigns", Rows.laid_loop_example_g03010_impl_fromSigns), ("loop.example/g03010/impl.redSign", Rows.laid_loop_example_g03010_impl_redSign), ("loop.example/g03010/impl.notSign", Rows.laid_loop_example_g03010_impl_notSign), ("loop.example/g03010/impl.andSign", Rows.laid_loop_example_g03010_impl_andSign), ("loop.example/g03010/impl.orSign", Rows.laid_loop_example_g03010_impl_orSign)] [.data, .data, .data, .data, .data, .data, .data, .data] true :=
  Program.laidByTextLater.sub seatTie1 ["math/bits.deBruijn64tab", "loop.example/g03010/impl.suitSigns", "loop.example/g03010/impl.rankSigns", "loop.example/g03010/impl.fromSigns", "loop.example/g03010/impl.redSign", "loop.example/g03010/impl.notSign", "loop.example/g03010/impl.andSign", "loop.example/g03010/impl.orSign"] (by kernel_rfl) (by kernel_rfl)
theorem fnExactOutsFor_row_tie : Rows.fnExactOutsForRow.laidByTextAt .later Tryd.pinned [.data, .data, .data, .data, .data, .data, .data, .data] true :=
  OpenClaim.laidByTextAt_later rfl rfl tie2 noOwnUnsafe
theorem fnExactMissingUpto_row_tie : Rows.fnExactMissingUptoRow.laidByTextAt .later Tryd.pinned [.data] true :=
  OpenClaim.laidByTextAt_later rfl rfl tie noOwnUnsafe
theorem fnExactUnseenUpto_row_tie : Rows.fnExactUnseenUptoRow.laidByTextAt .later Tryd.pinned [.data] true :=
  OpenClaim.laidByTextAt_later rfl rfl tie noOwnUnsafe
theorem fnExactOutsForUpto_row_tie : Rows.fnExactOutsForUptoRow.laidByTextAt .later Tryd.pinned [.data, .data, .data, .data, .data, .data, .data, .data] true :=
  OpenClaim.laidByTextAt_later rfl rfl tie2 noOwnUnsafe
end Go.Proofs.YtepjijmgfdgfhaaDoor
