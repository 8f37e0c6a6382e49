/-
  What the listed sentinel gives: the variable holds it.
-/
import Derived.Test.YtfajdbfpacmclaaDoorTake
import Derived.LaidMore
import Derived.Stop.LaidErr
import Derived.Stop.Joined
import Derived.MakeChecks
namespace Go.Proofs.YtfajdbfpacmclaaDoor
open Go.RowKit Go.Extern.Stop Go.Stop Go.Extern

theorem star : "*" ++ "errors.errorString" = "*errors.errorString" := by decide
theorem rowES (u : TypeId) (h : Tryd.prog.typeName? 3 u = some "*errors.errorString") : u = 94 :=
  typeName_ptr_named (nm := "errors.errorString") (by rw [star]; kernel_rfl) (by kernel_rfl) (by decide) u (by rw [star]; exact h)
theorem sent1_of_laid {w : World} {r : List (String × DataW Unit)} (h : laidMet Tryd.prog (("loop.example/g03010/impl.errCannotGoOn", Rows.laid_loop_example_g03010_impl_errCannotGoOn) :: r) w) : ∃ a0, Sent1 a0 w := by
  have g0 : Tryd.prog.globalNamed "loop.example/g03010/impl.errCannotGoOn" = some 0 := by kernel_rfl
  obtain ⟨a0, s0, hv0, -⟩ := laid_sentinel h g0 (by kernel_rfl) Tryd.underlying60 rowES Tryd.underlying94 Tryd.underlying119 rfl rfl Tryd.underlying9 (by kernel_rfl) (by kernel_rfl)
  have hc : w.cell? ⟨0, 0, none⟩ = some (.iface 94 (.pointer (some a0))) := by simpa using World.var?_cell g0 hv0 0
  exact ⟨a0, hc, World.block_lt_of_cell? _ _ hc⟩
end Go.Proofs.YtfajdbfpacmclaaDoor
