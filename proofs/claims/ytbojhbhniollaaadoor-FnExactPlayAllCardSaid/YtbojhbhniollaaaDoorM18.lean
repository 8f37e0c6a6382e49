/-
  Several texts in one: What the listed sentinels give: they lie in memory, apart, and the variables hold them. A struct of one-cell fields that comes in by value: its fields, each with what its type says of it.
-/
import Derived.Test.YtbojhbhniollaaaDoorM7
import Derived.LaidMore
import Derived.Stop.Joined
import Derived.MakeChecks
import Derived.Test.YtbojhbhniollaaaDoorM4
import Derived.Lib.SmallJoins
namespace Go.Proofs.YtbojhbhniollaaaDoor
open Go.RowKit Go.Extern.Stop Go.Stop Go.Extern

theorem star : "*" ++ "errors.errorString" = "*errors.errorString" := by decide
theorem rowES (u : TypeId) (h : Tryd.prog.typeName? 3 u = some "*errors.errorString") : u = 165 :=
  typeName_ptr_named (nm := "errors.errorString") (by rw [star]; kernel_rfl) (by kernel_rfl) (by decide) u (by rw [star]; exact h)

theorem sent_of_laid {w : World} {r : List (String × DataW Unit)} (h : laidMet Tryd.prog (("loop.example/g03010/impl.errNotDecimal", Rows.laid_loop_example_g03010_impl_errNotDecimal) :: ("loop.example/g03010/impl.errOutOfRange", Rows.laid_loop_example_g03010_impl_errOutOfRange) :: r) w) : ∃ a0 a1, Sent a0 a1 w := by
  have g0 : Tryd.prog.globalNamed "loop.example/g03010/impl.errNotDecimal" = some 0 := by kernel_rfl
  have g1 : Tryd.prog.globalNamed "loop.example/g03010/impl.errOutOfRange" = some 1 := by kernel_rfl
  obtain ⟨a0, a1, s0, s1, c0, c1, t0, t1, hv0, hv1, hc0, hs0, hz0, hc1, hs1, hz1, hne, hb0, hb1⟩ := laid_sentinels2 h g0 (by kernel_rfl) g1 (by kernel_rfl) Tryd.underlying93 rowES Tryd.underlying165 Tryd.underlying187 rfl rfl Tryd.underlying9 (by kernel_rfl) (by kernel_rfl)
  exact ⟨a0, a1, by simpa using World.var?_cell g0 hv0 0, by simpa using World.var?_cell g1 hv1 0, hne, ⟨c0, t0, hb0⟩, ⟨c1, t1, hb1⟩⟩
end Go.Proofs.YtbojhbhniollaaaDoor
namespace Go.Proofs.YtbojhbhniollaaaDoor
open Go.Joins Go.ChangeShapes Go.WideShapes Go.RowKit Go.Deep

theorem open_fields {H : Type} {enc : TypeId × Value → H} {P : Program} {w : World} {base : Nat} {spare : Nat → Bool} {held : Bool} {r : Reach} {b0 : Nat} {t : TypeId} {fs : Array Field} {v : Value} {d : DataW H} {p : List MemPlace}
    (hs : P.underlying t = some (.struct fs)) (hone : oneCellFields P fs = true) (hC : P.cellsOf t = fs.size) (hv : Value.okWide P w r b0 t v) (h : DataW.Trod enc P w base spare held t v d p) :
    ∃ (cs : List Value) (n : Nat), v = .agg ⟨cs⟩ ∧ cs.length = fs.size ∧ ∀ (j : Nat) (f : Field) (c : Value), fs[j]? = some f → cs[j]? = some c → ∃ y, DataW.trod enc P w base spare held n f.type [c] = some y := by
  obtain ⟨⟨cs⟩, rfl, hsz⟩ := okWide_struct hs hv
  obtain ⟨fuel, hf⟩ := h
  obtain ⟨xs, n, _, _, _, hlen, hg⟩ := DataW.trod_struct hs hf
  have hl : cs.length = fs.size := hsz.trans hC
  refine ⟨cs, n, rfl, hl, fun j f c hj hc => ?_⟩
  obtain ⟨ho, hk⟩ := hone_of hone j f hj
  have h1 := hg j f hj
  rw [ho, hk] at h1
  have hjl : j < cs.length := (List.getElem?_eq_some_iff.1 hc).1
  have e : ((Value.agg ⟨cs⟩).cells.toList.drop j).take 1 = [c] := by
    have e2 : cs[j] = c := (List.getElem?_eq_some_iff.1 hc).2
    simp only [Value.cells, List.drop_eq_getElem_cons hjl, List.take_succ_cons, List.take_zero, e2]
  rw [e] at h1
  have hx : j < xs.length := by rw [hlen]; exact (Array.getElem?_eq_some_iff.1 hj).1
  exact ⟨xs[j], h1.trans (List.getElem?_eq_getElem hx)⟩
end Go.Proofs.YtbojhbhniollaaaDoor
namespace Go.Proofs.YtbojhbhniollaaaDoor
open Go.Joins Go.ChangeShapes Go.WideShapes Go.RowKit Go.Deep
/-- A struct's cells: each field's, whatever it is. -/
theorem open_cells {H : Type} {enc : TypeId × Value → H} {P : Program} {w : World} {base : Nat} {spare : Nat → Bool} {held : Bool} {n : Nat} {t : TypeId} {fs : Array Field} {cs : List Value} {x : DataW H × List MemPlace}
    (hs : P.underlying t = some (.struct fs)) (h : DataW.trod enc P w base spare held n t cs = some x) :
    ∃ m, cs.length = P.cellsOf t ∧ ∀ (j : Nat) (f : Field), fs[j]? = some f → ∃ y, DataW.trod enc P w base spare held m f.type ((cs.drop f.offset).take (P.cellsOf f.type)) = some y := by
  obtain ⟨xs, m, _, _, hl, hlen, hg⟩ := DataW.trod_struct hs h
  refine ⟨m, hl, fun j f hj => ?_⟩
  have hx : j < xs.length := by rw [hlen]; exact (Array.getElem?_eq_some_iff.1 hj).1
  exact ⟨xs[j], (hg j f hj).trans (List.getElem?_eq_getElem hx)⟩
end Go.Proofs.YtbojhbhniollaaaDoor
