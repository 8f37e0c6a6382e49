/-
  The library's table out of the row's cell 'laid'.
-/
import Derived.Test.YtepjijmgfdgfhaaDoorMiss
import Derived.Test.YtepjijmgfdgfhaaDoorRows
import Derived.LaidMore
import Derived.MakeChecks
import Derived.Lib.LaidU8
namespace Go.Proofs.YtepjijmgfdgfhaaDoor
open Go.RowKit
theorem tabz_of_laid {w : World} {r : List (String × DataW Unit)} (h : laidMet Tryd.prog (("math/bits.deBruijn64tab", Rows.laid_math_bits_deBruijn64tab) :: r) w) : TabZ w := by
  have h' : laidMet Tryd.prog (("math/bits.deBruijn64tab", Lib.tabData .u8 (Lib.deBruijn64tab.map (fun (n : Nat) => (n : Int)))) :: r) w := h
  have ht := Lib.tabIs_of_head (g := 0) (t := 52) (e := 5) (n := 64) (by kernel_rfl) (by kernel_rfl) Tryd.underlying52 Tryd.underlying5 (by kernel_rfl) (by kernel_rfl) h'
  intro j hj
  have hc := ht.cell (g := 0) (by kernel_rfl) j (by simpa using hj)
  have e : (Lib.deBruijn64tab.map (fun (n : Nat) => (n : Int))).getD j 0 = ((Lib.deBruijn64tab.getD j 0 : Nat) : Int) := by
    rw [List.getD_eq_getElem?_getD, List.getD_eq_getElem?_getD, List.getElem?_map, List.getElem?_eq_getElem hj]; rfl
  rw [hc, e]
end Go.Proofs.YtepjijmgfdgfhaaDoor
