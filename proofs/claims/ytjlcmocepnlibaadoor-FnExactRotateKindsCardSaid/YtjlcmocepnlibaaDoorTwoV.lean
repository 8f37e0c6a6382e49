/-
  Slices of slices of values, for Concat of two.
-/
import Derived.Test.YtjlcmocepnlibaaDoorCatI
namespace Go.Proofs.YtjlcmocepnlibaaDoor
open Go.RowKit

theorem two_c0 (w : World) (a b : Value) (t : TypeId) : (w.drew.alloc (.cells #[a, b] t)).cell? ⟨w.heap.size, 0, none⟩ = some a := by
  have h : (w.drew.alloc (.cells #[a, b] t)).heap[w.heap.size]? = some (.cells #[a, b] t (0, 0)) := heap_alloc_new w.drew _
  simp only [World.cell?, h]; rfl
theorem two_c1 (w : World) (a b : Value) (t : TypeId) : (w.drew.alloc (.cells #[a, b] t)).cell? ⟨w.heap.size, 0 + 1, none⟩ = some b := by
  have h : (w.drew.alloc (.cells #[a, b] t)).heap[w.heap.size]? = some (.cells #[a, b] t (0, 0)) := heap_alloc_new w.drew _
  simp only [World.cell?, h]; rfl
theorem own_baseC {w : World} {B B' : Nat} {E : TypeId} {n : Nat} {v : Value} {xs : List Value} (h : w.ownsRow B E 1 v n xs) (hb : B' ≤ B) : w.ownsRow B' E 1 v n xs := by
  refine ⟨h.1, ?_⟩
  rcases h.2 with h2 | ⟨g, cap, cur, h2, h3, h4⟩
  · exact .inl h2
  · exact .inr ⟨g, cap, cur, h2, Nat.le_trans hb h3, h4⟩
theorem vals_none (w : World) : RdVals w (.slice none 0 0) [] := ⟨none, 0, rfl, ⟨Nat.le_refl _, Nat.zero_le _, fun _ => rfl⟩, .inl rfl⟩
theorem vals_empty (w : World) (a : Addr) (c : Nat) (h : c ≤ maxLen) : RdVals w (.slice (some a) 0 c) [] := ⟨some a, c, rfl, ⟨Nat.zero_le _, h, fun h => by cases h⟩, .inl rfl⟩
theorem vals_drop {w : World} {b off cap : Nat} {zs : List Int} (hcap : zs.length ≤ cap ∧ cap ≤ maxLen) (h : Cells .i64 w b off zs) (k : Nat) (hk : k ≤ zs.length) : RdVals w (.slice (some ⟨b, off + k, none⟩) (zs.length - k) (cap - k)) ((zs.drop k).map (.int .i64)) := by
  refine ⟨some ⟨b, off + k, none⟩, cap - k, by simp, ⟨by simp; omega, by omega, fun h => by cases h⟩, .inr ⟨b, off + k, rfl, fun j hj => ?_⟩⟩
  simp only [List.length_map, List.length_drop] at hj
  have := h (k + j) (by omega)
  rw [show off + k + j = off + (k + j) by omega, this]
  simp
theorem vals_take {w : World} {b off cap : Nat} {zs : List Int} (hcap : zs.length ≤ cap ∧ cap ≤ maxLen) (h : Cells .i64 w b off zs) (k : Nat) (hk : k ≤ zs.length) : RdVals w (.slice (some ⟨b, off, none⟩) k cap) ((zs.take k).map (.int .i64)) := by
  refine ⟨_, _, by simp; omega, ⟨by simp; omega, hcap.2, fun h => by cases h⟩, .inr ⟨b, off, rfl, fun j hj => ?_⟩⟩
  simp only [List.length_map, List.length_take] at hj
  have := h j (by omega)
  rw [this]
  simp

end Go.Proofs.YtjlcmocepnlibaaDoor
