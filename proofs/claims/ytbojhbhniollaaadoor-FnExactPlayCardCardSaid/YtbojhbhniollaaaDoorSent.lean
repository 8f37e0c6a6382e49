/-
  What the listed sentinels give: they lie in memory, apart, and the variables hold them.
-/
import Derived.Test.YtbojhbhniollaaaDoorArith
import Derived.LaidMore
import Derived.Stop.Joined
import Derived.MakeChecks
namespace Go.Proofs.YtbojhbhniollaaaDoor
open Go.RowKit Go.Extern.Stop Go.Stop Go.Extern

theorem star : "*" ++ "errors.errorString" = "*errors.errorString" := by decide
theorem rowES (u : TypeId) (h : Tryd.prog.typeName? 3 u = some "*errors.errorString") : u = 165 :=
  typeName_ptr_named (nm := "errors.errorString") (by rw [star]; kernel_rfl) (by kernel_rfl) (by decide) u (by rw [star]; exact h)

theorem sent_of_laid {w : World} {r : List (String × DataW Unit)} (h : laidMet Tryd.prog (("loop.example/g03010/impl.errNotDecimal", Rows.laid_loop_example_g03010_impl_errNotDecimal) :: ("loop.example/g03010/impl.errOutOfRange", Rows.laid_loop_example_g03010_impl_errOutOfRange) :: r) w) : ∃ a0 a1, Sent a0 a1 w := by
  have g0 : Tryd.prog.globalNamed "loop.example/g03010/impl.errNotDecimal" = some 0 := by kernel_rfl
  have g1 : Tryd.prog.globalNamed "loop.example/g03010/impl.errOutOfRange" = some 1 := by kernel_rfl
  obtain ⟨a0, a1, s0, s1, c0, c1, t0, t1, hv0, hv1, hc0, hs0, hz0, hc1, hs1, hz1, hne, hb0, hb1⟩ := laid_sentinels2 h g0 (by kernel_rfl) g1 (by kernel_rfl) Tryd.underlying93 rowES Tryd.underlying165 Tryd.underlying187 rfl rfl Tryd.underlying9 (by kernel_rfl) (by kernel_rfl)
  exact ⟨a0, a1, by simpa using World.var?_cell g0 hv0 0, by simpa using World.var?_cell g1 hv1 0, hne, ⟨c0, t0, hb0⟩, ⟨c1, t1, hb1⟩⟩
end Go.Proofs.YtbojhbhniollaaaDoor
