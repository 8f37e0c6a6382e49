/-
  The package's groups of signs, as the initialisers lay them.
-/
import Derived.Test.YtmfammgdcdlceaaDoorPat2
import Derived.Test.YtmfammgdcdlceaaDoorRows
import Derived.Lib.LaidU8
import Derived.LaidMore
import Derived.MakeChecks
namespace Go.Proofs.YtmfammgdcdlceaaDoor
open Go.RowKit Go.Extern
set_option linter.unusedVariables false
set_option linter.unusedSimpArgs false

theorem grp_laid {w : World} {n : String} {a c t : Int} {g : Nat} (h : Lib.VarReads Tryd.prog w n (.agg [.lit (.int .i64 a), .lit (.int .i64 c), .lit (.int .i64 t)])) (hg : Tryd.prog.globalNamed n = some g)
    (ht : (Tryd.prog.globals[g]?).map (·.type) = some 148) : grpAt w g a c t := by
  obtain ⟨g', t', cs, fuel, p, h1, h2, h3, h4⟩ := h
  obtain rfl := Option.some.inj (hg.symm.trans h1)
  obtain rfl := Option.some.inj (ht.symm.trans h2)
  have hcs := Lib.ints_of_struct (zs := [a, c, t]) Tryd.underlying148 (by
    intro i f hf
    match i with
    | 0 => simp at hf; subst hf; exact ⟨Tryd.underlying3, rfl, by kernel_rfl⟩
    | 1 => simp at hf; subst hf; exact ⟨Tryd.underlying3, rfl, by kernel_rfl⟩
    | 2 => simp at hf; subst hf; exact ⟨Tryd.underlying3, rfl, by kernel_rfl⟩
    | i + 3 => simp at hf) (by kernel_rfl) h4
  have hcell : ∀ j, w.cell? ⟨g, j, none⟩ = cs[j]? := fun j => by simpa using World.var?_cell hg h3 j
  have hc2 : ∀ j, cs[j]? = ([a, c, t].map fun z => Value.int .i64 z)[j]? := fun j => by rw [← hcs, Array.getElem?_toList]
  exact ⟨by rw [hcell, hc2]; rfl, by rw [hcell, hc2]; rfl, by rw [hcell, hc2]; rfl⟩
theorem grps_of_laid {w : World} {r : List (String × DataW Unit)} (h : laidMet Tryd.prog (("loop.example/g03010/impl.suitSigns", Rows.laid_loop_example_g03010_impl_suitSigns) :: ("loop.example/g03010/impl.rankSigns", Rows.laid_loop_example_g03010_impl_rankSigns) :: ("loop.example/g03010/impl.fromSigns", Rows.laid_loop_example_g03010_impl_fromSigns) :: ("loop.example/g03010/impl.redSign", Rows.laid_loop_example_g03010_impl_redSign) :: ("loop.example/g03010/impl.notSign", Rows.laid_loop_example_g03010_impl_notSign) :: ("loop.example/g03010/impl.andSign", Rows.laid_loop_example_g03010_impl_andSign) :: ("loop.example/g03010/impl.orSign", Rows.laid_loop_example_g03010_impl_orSign) :: r) w) : Grps w :=
  ⟨grp_laid (Lib.laidMet.reads h (.head _)) (by kernel_rfl) (by kernel_rfl),
   grp_laid (Lib.laidMet.reads h (.tail _ (.head _))) (by kernel_rfl) (by kernel_rfl),
   grp_laid (Lib.laidMet.reads h (.tail _ (.tail _ (.head _)))) (by kernel_rfl) (by kernel_rfl),
   grp_laid (Lib.laidMet.reads h (.tail _ (.tail _ (.tail _ (.head _))))) (by kernel_rfl) (by kernel_rfl),
   grp_laid (Lib.laidMet.reads h (.tail _ (.tail _ (.tail _ (.tail _ (.head _)))))) (by kernel_rfl) (by kernel_rfl),
   grp_laid (Lib.laidMet.reads h (.tail _ (.tail _ (.tail _ (.tail _ (.tail _ (.head _))))))) (by kernel_rfl) (by kernel_rfl),
   grp_laid (Lib.laidMet.reads h (.tail _ (.tail _ (.tail _ (.tail _ (.tail _ (.tail _ (.head _)))))))) (by kernel_rfl) (by kernel_rfl)⟩
end Go.Proofs.YtmfammgdcdlceaaDoor
