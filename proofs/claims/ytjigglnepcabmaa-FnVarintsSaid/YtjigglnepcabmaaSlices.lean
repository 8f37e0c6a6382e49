/-
  A slice of integers that came in, as the frame hands it to a walk.
-/
import Derived.Test.YtjigglnepcabmaaCur
import Derived.Test.YtjigglnepcabmaaSl
namespace Go.Proofs.Ytjigglnepcabmaa
open Go.RowKit

theorem IsRow.bytes {w : World} {a : Option Addr} {len cap : Nat} {zs : List Int} (h : IsRow .u8 w a len cap zs) : BytesB w.heap.size w a len := by
  rcases h with ⟨rfl, rfl, rfl, rfl⟩ | ⟨x, rfl, h1, h2, h3, h4, h5⟩
  · exact .inl rfl
  · by_cases h0 : len = 0
    · exact .inl h0
    · obtain ⟨b, off, spot⟩ := x
      have hc := h4 0 (by omega)
      have hspot : spot = none := by simpa [Addr.add] using World.cell?_spot hc
      subst hspot
      have hlt : b < w.heap.size := by
        have := World.block_lt_of_cell? _ _ hc
        simpa [Addr.add] using this
      refine .inr ⟨b, off, hlt, rfl, fun j hj => ?_⟩
      have hj' : j < zs.length := by omega
      have hcj := h4 j hj'
      have hw := h5 (zs.getD j 0) (by simp [List.getD, hj'])
      have hb := bounds_u8 hw
      refine ⟨zs.getD j 0, hb.1, hb.2, ?_⟩
      have e : (⟨b, off, none⟩ : Addr).add j = ⟨b, off + j, none⟩ := by simp [Addr.add]
      rw [← e]; exact hcj
end Go.Proofs.Ytjigglnepcabmaa
