/-
  The hands of five, the program's: the library's sort of the ranks.
-/
import Derived.Test.YtcafbnddbddijaaFiveC
import Derived.Test.YtcafbnddbddijaaSortL
import Derived.Shelf.SlSortCmp.Kit1
import Derived.Shelf.SlSortCmp.Whole1
namespace Go.Proofs.Ytcafbnddbddijaa
open Go.RowKit Go.Sort Go.Shelf
set_option linter.unusedVariables false
set_option linter.unusedSimpArgs false

def encR (r : Fin 13) : Value := .int .i64 (r.val : Nat)
def cfR (n : Nat → Nat) (x y : Fin 13) : Int := orI (Lib.compareInt (n y) (n x)) (Lib.compareInt (y.val : Nat) (x.val : Nat))
theorem cmpI (x y : Int) : (Lib.compareInt x y < 0 ↔ x < y) ∧ (Lib.compareInt x y = 0 ↔ x = y) := by
  unfold Lib.compareInt
  split
  · constructor <;> constructor <;> intro h <;> omega
  · split
    · constructor <;> constructor <;> intro h <;> omega
    · constructor <;> constructor <;> intro h <;> omega
theorem ltR (n : Nat → Nat) (x y : Fin 13) : ltOf (cfR n) x y = decide (keyR n y < keyR n x) := by
  unfold ltOf cfR orI
  have h1 := cmpI (n y) (n x)
  have h2 := cmpI (y.val : Nat) (x.val : Nat)
  have hx := x.isLt
  have hy := y.isLt
  rw [Bool.eq_iff_iff, decide_eq_true_iff, decide_eq_true_iff]
  unfold keyR
  split
  · rename_i h
    have := h1.2.1 h
    rw [h2.1]; omega
  · rename_i h
    have : ¬ ((n y : Int) = (n x : Int)) := fun e => h (h1.2.2 e)
    rw [h1.1]; omega
theorem swoR (n : Nat → Nat) : SWO (ltOf (cfR n)) where
  irrefl x := by rw [ltR]; simp
  trans x y z h1 h2 := by rw [ltR] at *; simp at *; omega
  ntrans x y z h1 h2 := by rw [ltR] at *; simp at *; omega

theorem sortR_any (blk g cap : Nat) (d : Array (Fin 13)) (n : Nat → Nat) (w : World) (hH : Holds encR w blk 0 d) (hblk : blk < w.heap.size) (hg : g < w.heap.size) (hne : g ≠ blk)
    (hc : ∀ r, r < 13 → w.cell? ⟨g, r, none⟩ = some (.int .i64 (n r : Nat))) (hsz : d.size < 100) :
    Calls Try.prog 72 #[.slice (some ⟨blk, 0, none⟩) d.size cap, .func (.func 73) #[] #[.pointer (some ⟨g, 0, none⟩)]] w fun e w' =>
      e = .returned (.tuple #[]) ∧ ∃ d' : Array (Fin 13), d'.size = d.size ∧ d'.toList.Perm d.toList ∧ d'.toList.Pairwise (fun (x y : Fin 13) => keyR n y.val ≤ keyR n x.val) ∧ ∃ m os, w' = sortWorld encR w blk 0 m d' os := by
  have eg : ∀ args w, (callFunc 73 args).run Try.prog w = .ok (.enter 73 args) w := enters_of Try.func73 (by kernel_rfl) rfl
  have hcmp : CmpLays1 Try.prog 73 #[.pointer (some ⟨g, 0, none⟩)] encR (cfR n) blk 0 d.size w := by
    intro m os dk hdk x y
    refine (ranksCmp_any x.val y.val g n _ x.isLt y.isLt ?_).mono fun _ _ h => h
    intro r hr
    show (grow ((putRow encR (Sort.ahead w m) blk 0 dk)) os).cell? _ = _
    rw [cell?_grow _ _ _ (by rw [size_putRow]; exact hg), cell?_putRow_other _ _ _ _ _ _ (.inl hne)]
    exact hc r hr
  have h := Any.slices_SortFunc Try.sortL encR (fun _ => rfl) (cfR n) (swoR n) 73 #[.pointer (some ⟨g, 0, none⟩)] blk 0 cap d w eg hcmp hH hblk (by omega)
  refine (show Calls Try.prog 72 _ _ _ from h).mono ?_
  rintro e w' ⟨he, d', m, os, hp, hs, hw⟩
  obtain ⟨hz, -, hperm⟩ := hp
  rw [show d'.extract 0 d.size = d' by rw [← hz]; exact Array.extract_size, Array.extract_size] at hperm
  refine ⟨he, d', hz, hperm, ?_, m, os, hw⟩
  rw [List.pairwise_iff_getElem]
  intro i j hi hj hij
  have hi' : i < d'.size := by simpa using hi
  have hj' : j < d'.size := by simpa using hj
  have := hs i j (Nat.zero_le _) hij (by omega)
  rw [getElem!_pos d' j hj', getElem!_pos d' i hi', ltR, decide_eq_false_iff_not] at this
  simpa using this
end Go.Proofs.Ytcafbnddbddijaa
