/-
  OutsFor, both sides.
-/
import Derived.Test.YtepjijmgfdgfhaaDoorMiss
import Derived.Test.YtepjijmgfdgfhaaDoorMissL
import Derived.Test.YtepjijmgfdgfhaaDoorPatM
import Derived.Test.YtepjijmgfdgfhaaDoorPatN
import Derived.Test.YtepjijmgfdgfhaaDoorPatG
namespace Go.Proofs.YtepjijmgfdgfhaaDoor
open Go.RowKit
set_option linter.unusedVariables false
set_option linter.unusedSimpArgs false

theorem grps_of_laid2 {w : World} {x : String × DataW Unit} {r : List (String × DataW Unit)} (h : laidMet Tryd.prog (x :: ("loop.example/g03010/impl.suitSigns", Rows.laid_loop_example_g03010_impl_suitSigns) :: ("loop.example/g03010/impl.rankSigns", Rows.laid_loop_example_g03010_impl_rankSigns) :: ("loop.example/g03010/impl.fromSigns", Rows.laid_loop_example_g03010_impl_fromSigns) :: ("loop.example/g03010/impl.redSign", Rows.laid_loop_example_g03010_impl_redSign) :: ("loop.example/g03010/impl.notSign", Rows.laid_loop_example_g03010_impl_notSign) :: ("loop.example/g03010/impl.andSign", Rows.laid_loop_example_g03010_impl_andSign) :: ("loop.example/g03010/impl.orSign", Rows.laid_loop_example_g03010_impl_orSign) :: r) w) : Grps w :=
  ⟨grp_laid (Lib.laidMet.reads h (.tail _ (.head _))) (by kernel_rfl) (by kernel_rfl),
   grp_laid (Lib.laidMet.reads h (.tail _ (.tail _ (.head _)))) (by kernel_rfl) (by kernel_rfl),
   grp_laid (Lib.laidMet.reads h (.tail _ (.tail _ (.tail _ (.head _))))) (by kernel_rfl) (by kernel_rfl),
   grp_laid (Lib.laidMet.reads h (.tail _ (.tail _ (.tail _ (.tail _ (.head _)))))) (by kernel_rfl) (by kernel_rfl),
   grp_laid (Lib.laidMet.reads h (.tail _ (.tail _ (.tail _ (.tail _ (.tail _ (.head _))))))) (by kernel_rfl) (by kernel_rfl),
   grp_laid (Lib.laidMet.reads h (.tail _ (.tail _ (.tail _ (.tail _ (.tail _ (.tail _ (.head _)))))))) (by kernel_rfl) (by kernel_rfl),
   grp_laid (Lib.laidMet.reads h (.tail _ (.tail _ (.tail _ (.tail _ (.tail _ (.tail _ (.tail _ (.head _))))))))) (by kernel_rfl) (by kernel_rfl)⟩
theorem tabz_and {w : World} {r : List (String × DataW Unit)} (h : laidMet Tryd.prog (("math/bits.deBruijn64tab", Rows.laid_math_bits_deBruijn64tab) :: r) w) : TabZ w := tabz_of_laid h
def outsFor (p zs : List Int) : Int := cntM p (missing zs)
set_option maxRecDepth 100000 in
theorem sOutsFor_any (vp vl : Value) (p zs : List Int) (bp b : Nat) (w : World) (hp : RdAt .i64 w vp p bp) (h : RdAt .i64 w vl zs b) (hpl : p.length ≤ 1048576) (hl : zs.length ≤ 1048576) :
    Calls Tryd.prog 18 #[vp, vl] w fun e w' => e = .returned (.int .i64 (outsFor p zs)) ∧ Below w.heap.size w w' := by
  have HM := Lib.hid (sMissing2_any vl zs b w h (by omega))
  have hml := missing_len zs
  have HC := Lib.hid (fun (wx : World) (v : Value) (bx : Nat) (hb : Below w.heap.size w wx) (hr : RdAt .i64 wx v (missing zs) bx) => sCountMatches_any vp v p (missing zs) bp bx wx (hp.below hb) hr hpl (by omega))
  obtain ⟨p0, c0, rfl, -⟩ := id hp
  obtain ⟨p1, c1, rfl, -⟩ := id h
  clear hp h hml
  unfold outsFor
  go_enter Tryd.func18, Tryd.ntmps18
  go_wp2_with fail
  refine HM.out.mono ?_
  rintro e w1 ⟨v1, b1, rfl, hb1, hw1, B1⟩
  have HC1 := Lib.hid (HC.out w1 v1 b1 B1 hw1.rd)
  clear hw1
  go_wp2_with fail
  refine HC1.out.mono ?_
  rintro e w2 ⟨rfl, B2⟩
  have B3 := B1.trans (B2.mono B1.size)
  go_wp2_with fail
  go_ret
  exact ⟨rfl, B3⟩
set_option maxRecDepth 100000 in
theorem outsFor_any (vp vl : Value) (p zs : List Int) (bp b : Nat) (w : World) (hp : RdAt .i64 w vp p bp) (h : RdAt .i64 w vl zs b) (hpl : p.length ≤ 1048576) (hl : zs.length ≤ 1048576) (hG : Grps w) (hZ : TabZ w) :
    Calls Tryd.prog 19 #[vp, vl] w fun e w' => e = .returned (.int .i64 (outsFor p zs)) ∧ Below w.heap.size w w' := by
  have HM := Lib.hid (missing_any vl zs b w h (by omega) hZ)
  have hml := missing_len zs
  have HC := Lib.hid (fun (wx : World) (v : Value) (bx : Nat) (hb : Below w.heap.size w wx) (hr : RdAt .i64 wx v (missing zs) bx) => countMatches_any vp v p (missing zs) bp bx wx (hp.below hb) hr hpl (by omega) (hG.below hb))
  obtain ⟨p0, c0, rfl, -⟩ := id hp
  obtain ⟨p1, c1, rfl, -⟩ := id h
  clear hp h hml hZ hG
  unfold outsFor
  go_enter Tryd.func19, Tryd.ntmps19
  go_wp2_with fail
  refine HM.out.mono ?_
  rintro e w1 ⟨v1, b1, rfl, hb1, hw1, B1⟩
  have HC1 := Lib.hid (HC.out w1 v1 b1 B1 hw1.rd)
  clear hw1
  go_wp2_with fail
  refine HC1.out.mono ?_
  rintro e w2 ⟨rfl, B2⟩
  have B3 := B1.trans (B2.mono B1.size)
  go_wp2_with fail
  go_ret
  exact ⟨rfl, B3⟩
end Go.Proofs.YtepjijmgfdgfhaaDoor
