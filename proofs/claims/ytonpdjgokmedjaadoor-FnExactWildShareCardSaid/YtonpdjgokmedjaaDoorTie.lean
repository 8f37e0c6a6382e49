/-
  DERIVED. GIVEN WITH THE SEED: THE PROGRAM's TIES (one call each: nine closed facts by the kernel) AND EACH ROW's TIE, after the 31st guide's Derived/Test/Toyas{Tie, Card}.lean. No idea stands in it: it is a product of the set-up. Laid BY PROGRAM, IN A SANDBOX (cutbox-door.mjs). By AI agents, Wed Nov 11 2026. No macro, syntax, notation, axiom, sorry.
-/
import Derived.Test.YtonpdjgokmedjaaDoorRows
import Derived.LaidByTextLater
import Derived.SevenTiedAt
import Derived.LaidSub
import Derived.LaidOnce
namespace Go.Proofs.YtonpdjgokmedjaaDoor
open Go
set_option maxRecDepth 100000
theorem seatTie1 : Tryd.prog.laidByTextLater [("loop.example/g03010/impl.suitSigns", Rows.laid_loop_example_g03010_impl_suitSigns), ("loop.example/g03010/impl.rankSigns", Rows.laid_loop_example_g03010_impl_rankSigns), ("loop.example/g03010/impl.fromSigns", Rows.laid_loop_example_g03010_impl_fromSigns), ("loop.example/g03010/impl.redSign", Rows.laid_loop_example_g03010_impl_redSign), ("loop.example/g03010/impl.notSign", Rows.laid_loop_example_g03010_impl_notSign), ("loop.example/g03010/impl.andSign", Rows.laid_loop_example_g03010_impl_andSign), ("loop.example/g03010/impl.orSign", Rows.laid_loop_example_g03010_impl_orSign)] [.data, .data, .data, .data, .data, .data, .data] true :=
  Program.laidByTextLater_by_one 44 8 4 (by kernel_rfl) (by kernel_rfl) (by kernel_rfl) (by kernel_rfl) (by kernel_rfl) (by kernel_rfl) (fun _ _ => by kernel_rfl)
theorem noOwnUnsafe : Tryd.pinned.checked.prog.headLifts.contains "ownunsafe" = false := by kernel_rfl
theorem tie : Tryd.prog.laidByTextLater [("loop.example/g03010/impl.suitSigns", Rows.laid_loop_example_g03010_impl_suitSigns), ("loop.example/g03010/impl.rankSigns", Rows.laid_loop_example_g03010_impl_rankSigns), ("loop.example/g03010/impl.fromSigns", Rows.laid_loop_example_g03010_impl_fromSigns), ("loop.example/g03010/impl.redSign", Rows.laid_loop_example_g03010_impl_redSign), ("loop.example/g03010/impl.notSign", Rows.laid_loop_example_g03010_impl_notSign), ("loop.example/g03010/impl.andSign", Rows.laid_loop_example_g03010_impl_andSign), ("loop.example/g03010/impl.orSign", Rows.laid_loop_example_g03010_impl_orSign)] [.data, .data, .data, .data, .data, .data, .data] true :=
  Program.laidByTextLater.sub seatTie1 ["loop.example/g03010/impl.suitSigns", "loop.example/g03010/impl.rankSigns", "loop.example/g03010/impl.fromSigns", "loop.example/g03010/impl.redSign", "loop.example/g03010/impl.notSign", "loop.example/g03010/impl.andSign", "loop.example/g03010/impl.orSign"] (by kernel_rfl) (by kernel_rfl)
theorem fnExactAlikePatterns_row_tie : Rows.fnExactAlikePatternsRow.laidByTextAt .later Tryd.pinned [.data, .data, .data, .data, .data, .data, .data] true :=
  OpenClaim.laidByTextAt_later rfl rfl tie noOwnUnsafe
theorem fnExactIsRules_row_tie : Rows.fnExactIsRulesRow.laidByTextAt .later Tryd.pinned [.data, .data, .data, .data, .data, .data, .data] true :=
  OpenClaim.laidByTextAt_later rfl rfl tie noOwnUnsafe
theorem fnExactDoesSkip_row_tie : Rows.fnExactDoesSkipRow.laidByTextAt .later Tryd.pinned [.data, .data, .data, .data, .data, .data, .data] true :=
  OpenClaim.laidByTextAt_later rfl rfl tie noOwnUnsafe
theorem fnExactFitsOn_row_tie : Rows.fnExactFitsOnRow.laidByTextAt .later Tryd.pinned [.data, .data, .data, .data, .data, .data, .data] true :=
  OpenClaim.laidByTextAt_later rfl rfl tie noOwnUnsafe
theorem fnExactFitCount_row_tie : Rows.fnExactFitCountRow.laidByTextAt .later Tryd.pinned [.data, .data, .data, .data, .data, .data, .data] true :=
  OpenClaim.laidByTextAt_later rfl rfl tie noOwnUnsafe
theorem fnExactSkipsIn_row_tie : Rows.fnExactSkipsInRow.laidByTextAt .later Tryd.pinned [.data, .data, .data, .data, .data, .data, .data] true :=
  OpenClaim.laidByTextAt_later rfl rfl tie noOwnUnsafe
theorem fnExactWildShare_row_tie : Rows.fnExactWildShareRow.laidByTextAt .later Tryd.pinned [.data, .data, .data, .data, .data, .data, .data] true :=
  OpenClaim.laidByTextAt_later rfl rfl tie noOwnUnsafe
theorem fnExactAlikePatternsUpto_row_tie : Rows.fnExactAlikePatternsUptoRow.laidByTextAt .later Tryd.pinned [.data, .data, .data, .data, .data, .data, .data] true :=
  OpenClaim.laidByTextAt_later rfl rfl tie noOwnUnsafe
theorem fnExactIsRulesUpto_row_tie : Rows.fnExactIsRulesUptoRow.laidByTextAt .later Tryd.pinned [.data, .data, .data, .data, .data, .data, .data] true :=
  OpenClaim.laidByTextAt_later rfl rfl tie noOwnUnsafe
theorem fnExactDoesSkipUpto_row_tie : Rows.fnExactDoesSkipUptoRow.laidByTextAt .later Tryd.pinned [.data, .data, .data, .data, .data, .data, .data] true :=
  OpenClaim.laidByTextAt_later rfl rfl tie noOwnUnsafe
theorem fnExactFitsOnUpto_row_tie : Rows.fnExactFitsOnUptoRow.laidByTextAt .later Tryd.pinned [.data, .data, .data, .data, .data, .data, .data] true :=
  OpenClaim.laidByTextAt_later rfl rfl tie noOwnUnsafe
theorem fnExactFitCountUpto_row_tie : Rows.fnExactFitCountUptoRow.laidByTextAt .later Tryd.pinned [.data, .data, .data, .data, .data, .data, .data] true :=
  OpenClaim.laidByTextAt_later rfl rfl tie noOwnUnsafe
theorem fnExactSkipsInUpto_row_tie : Rows.fnExactSkipsInUptoRow.laidByTextAt .later Tryd.pinned [.data, .data, .data, .data, .data, .data, .data] true :=
  OpenClaim.laidByTextAt_later rfl rfl tie noOwnUnsafe
theorem fnExactWildShareUpto_row_tie : Rows.fnExactWildShareUptoRow.laidByTextAt .later Tryd.pinned [.data, .data, .data, .data, .data, .data, .data] true :=
  OpenClaim.laidByTextAt_later rfl rfl tie noOwnUnsafe
end Go.Proofs.YtonpdjgokmedjaaDoor
