/-
  HasCard, EqualInts (the program's, by the library's contracts), EqualInts (the model's).
-/
import Derived.Test.YtoeobpdgfhgpiaaModel05
import Derived.Test.YtoeobpdgfhgpiaaShelf
namespace Go.Proofs.Ytoeobpdgfhgpiaa
open Go.RowKit

theorem cells_getD {k : IntKind} {w : World} {b off : Nat} {zs : List Int} (h : Cells k w b off zs) : ∀ j, j < zs.length → w.cell? ⟨b, off + j, none⟩ = some (.int k (zs.getD j 0)) := by
  intro j hj
  rw [h j hj]
  simp [List.getD, hj]
theorem contains_has (zs : List Int) (c : Int) : zs.contains c = hasI zs c := by
  unfold hasI
  by_cases h : c ∈ zs
  · simp [h]
  · simp [h]

theorem hasCard_any (v : Value) (zs : List Int) (b : Nat) (c : Int) (w : World) (h : RdAt .i64 w v zs b) (hl : zs.length ≤ 1099511627776) :
    Calls Try.prog 45 #[v, .int .i64 c] w fun e w' => e = .returned (.bool (hasI zs c)) ∧ w = w' := by
  have hlib : Calls Try.prog 55 #[v, .int .i64 c] w fun e w' => e = .returned (.bool (hasI zs c)) ∧ w = w' := by
    rcases h.open with ⟨rfl, a, cap, rfl, hcm, hnil⟩ | ⟨hz, off, cap, rfl, hcap, hc⟩
    · exact (Try.slices_Contains_int_empty a cap c w).mono fun e w' ⟨h1, h2⟩ => ⟨by rw [h1]; rfl, h2.symm⟩
    · refine (Try.slices_Contains_int b off zs.length cap zs c w (Nat.le_refl _) (by omega) (cells_getD hc)).mono ?_
      rintro e w' ⟨rfl, h2⟩
      exact ⟨by rw [List.take_length, contains_has], h2.symm⟩
  have Hlib := Lib.hid hlib
  clear hlib
  obtain ⟨p0, cap0, rfl, -⟩ := id h
  go_enter Try.func45, Try.ntmps45
  go_wp2_with fail
  refine Hlib.out.mono ?_
  rintro e _w ⟨rfl, rfl⟩
  go_wp2_with fail
  go_ret
  exact ⟨rfl, rfl⟩

end Go.Proofs.Ytoeobpdgfhgpiaa
