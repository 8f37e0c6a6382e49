/-
  Sorted, the program's, by the library's contract.
-/
import Derived.Test.YtbojhbhniollaaaDoorCopyI
import Derived.Test.YtbojhbhniollaaaDoorShelf
import Derived.Sort.OwnSortedInts
import Derived.Lib.OwnBridge
namespace Go.Proofs.YtbojhbhniollaaaDoor
open Go.RowKit Go.Sort

def sortI (zs : List Int) : List Int := zs.mergeSort fun x y => decide (x ≤ y)
theorem sortI_len (zs : List Int) : (sortI zs).length = zs.length := List.length_mergeSort zs
theorem sortI_perm (zs : List Int) : (sortI zs).Perm zs := List.mergeSort_perm zs _
theorem sortI_wf {k : IntKind} (zs : List Int) (h : ∀ x ∈ zs, (Lit.int k x).wf = true) : ∀ x ∈ sortI zs, (Lit.int k x).wf = true := fun x hx => h x ((sortI_perm zs).mem_iff.1 hx)
theorem sortI_sorted (zs : List Int) : (sortI zs).Pairwise (fun a b => a ≤ b) := by
  have := List.pairwise_mergeSort (le := fun x y : Int => decide (x ≤ y)) (fun _ _ _ h1 h2 => by simp at *; omega) (fun _ _ => by simp; omega) zs
  exact this.imp (fun h => by simpa using h)
theorem sortI_unique {zs S : List Int} (hp : S.Perm zs) (hs : S.Pairwise (fun a b => a ≤ b)) : S = sortI zs :=
  List.Perm.eq_of_pairwise (fun _ _ _ _ h1 h2 => Int.le_antisymm h1 h2) hs (sortI_sorted zs) (hp.trans (sortI_perm zs).symm)

theorem sort_own (B : Nat) (v : Value) (zs : List Int) (w : World) (hown : w.ownsRow B 3 1 v zs.length (zs.map (Value.int .i64))) (hB : B ≤ w.heap.size) (hl : zs.length ≤ 1099511627776) :
    Calls Tryd.prog 65 #[v] w fun e w' => e = .returned (.tuple #[]) ∧ w'.ownsRow B 3 1 v zs.length ((sortI zs).map (Value.int .i64)) ∧ Below B w w' := by
  by_cases hnn : v = .slice none 0 0
  · subst hnn
    have h0 : zs.length = 0 := by
      rcases hown.2 with ⟨_, h0⟩ | ⟨g, cap, cur, hv, _⟩
      · exact h0
      · cases hv
    have hz : zs = [] := List.length_eq_zero_iff.1 h0
    subst hz
    refine (Tryd.slices_Sort_int_none none 0 w).mono ?_
    rintro e w' ⟨rfl, rfl⟩
    exact ⟨rfl, by have e : sortI [] = [] := by simp [sortI]
                   rw [e]; exact hown, Below.refl _ _⟩
  · obtain ⟨g0, cap0, hv, hbg, hgl, hncap, hcm, hlen, hH⟩ := Lib.holds_of_ownsRow hown hnn
    rcases hown.2 with ⟨h0, _⟩ | ⟨g', cap', cur, hv', hbase, hb, h1, h2, h3, h4⟩
    · exact absurd h0 hnn
    subst hv
    simp only [Value.slice.injEq, Option.some.injEq, Addr.mk.injEq, and_true, true_and] at hv'
    obtain ⟨rfl, rfl⟩ := hv'
    refine (Tryd.slices_Sort_int g0 0 cap0 zs w hH hgl (by omega)).mono ?_
    rintro e w' ⟨rfl, nn, os, rfl⟩
    exact ⟨rfl, ownsRow_sortedI (n := nn) (os := os) (ts := sortI zs) (sortI_len zs) hbase hb h1 h2 h3, (Below.refl _ _).grown (grownBy_sortedI _) hB (fun j hj => by cases hj; exact hbase)⟩
set_option maxRecDepth 100000 in
theorem sorted_own (v : Value) (zs : List Int) (b : Nat) (w : World) (h : RdAt .i64 w v zs b) (hl : zs.length ≤ 1099511627776) :
    Calls Tryd.prog 39 #[v] w fun e w' => ∃ v', e = .returned v' ∧ w'.ownsRow w.heap.size 3 1 v' (sortI zs).length ((sortI zs).map (Value.int .i64)) ∧ Below w.heap.size w w' := by
  have HL := Lib.hid (sortI_len zs)
  go_enter Tryd.func39, Tryd.ntmps39
  go_wp2_with fail
  refine (copyInts_own v zs b w h hl).mono ?_
  rintro e w1 ⟨v1, rfl, hown, hb1⟩
  go_wp2_with fail
  refine (sort_own w.heap.size v1 zs w1 hown hb1.size hl).mono ?_
  rintro e w2 ⟨rfl, hown2, hb2⟩
  have hb3 := hb1.trans hb2
  clear hown hb1 hb2
  go_wp2_with fail
  go_ret
  exact ⟨_, rfl, by rw [HL.out]; exact hown2, hb3⟩
theorem sorted_any (v : Value) (zs : List Int) (b : Nat) (w : World) (h : RdAt .i64 w v zs b) (hl : zs.length ≤ 1099511627776) :
    Calls Tryd.prog 39 #[v] w fun e w' => ∃ v' b', e = .returned v' ∧ w.heap.size ≤ b' ∧ WrAt .i64 w' v' (sortI zs) b' ∧ Below w.heap.size w w' := by
  refine (sorted_own v zs b w h hl).mono ?_
  rintro e w' ⟨v', rfl, hown, hb⟩
  obtain ⟨b', hb', hw'⟩ := own_wr hown (sortI_wf zs h.wf)
  exact ⟨v', b', rfl, hb', hw', hb⟩
end Go.Proofs.YtbojhbhniollaaaDoor
