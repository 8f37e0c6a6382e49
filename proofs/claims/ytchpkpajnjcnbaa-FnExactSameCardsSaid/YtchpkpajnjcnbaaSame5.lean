/-
  SameCards, both sides.
-/
import Derived.Test.YtchpkpajnjcnbaaSortS
import Derived.Test.YtchpkpajnjcnbaaHas
namespace Go.Proofs.Ytchpkpajnjcnbaa
open Go.RowKit

set_option maxRecDepth 100000 in
set_option maxHeartbeats 400000 in
theorem sameCards_any (va vb : Value) (za zb : List Int) (ba bb : Nat) (w : World) (ha : RdAt .i64 w va za ba) (hb : RdAt .i64 w vb zb bb) (hl : za.length ≤ 1048576) (hl2 : zb.length ≤ 1048576) :
    Calls Try.prog 33 #[va, vb] w fun e w' => e = .returned (.bool (decide (sortI za = sortI zb))) ∧ Below w.heap.size w w' := by
  go_enter Try.func33, Try.ntmps33
  go_wp2_with fail
  refine (sorted_any va za ba w ha (by omega)).mono ?_
  rintro e w1 ⟨v1, b1, rfl, -, hw1, B1⟩
  go_wp2_with fail
  refine (sorted_any vb zb bb w1 (hb.below B1) (by omega)).mono ?_
  rintro e w2 ⟨v2, b2, rfl, -, hw2, B2⟩
  have h1 := (hw1.below B2).rd
  have h2 := hw2.rd
  have B := B1.trans (B2.mono B1.size)
  clear hw1 hw2 B1 B2
  go_wp2_with fail
  refine (equalInts_any v1 v2 _ _ b1 b2 w2 h1 h2 (by rw [sortI_len]; omega) (by rw [sortI_len]; omega)).mono ?_
  rintro e w3 ⟨rfl, B3⟩
  have B4 := B.trans (B3.mono B.size)
  clear B B3 h1 h2
  go_wp2_with fail
  go_ret
  exact ⟨rfl, B4⟩
set_option maxRecDepth 100000 in
set_option maxHeartbeats 400000 in
theorem sSameCards_any (va vb : Value) (za zb : List Int) (ba bb : Nat) (w : World) (ha : RdAt .i64 w va za ba) (hb : RdAt .i64 w vb zb bb) (hl : za.length ≤ 1048576) (hl2 : zb.length ≤ 1048576) :
    Calls Try.prog 32 #[va, vb] w fun e w' => e = .returned (.bool (decide (sortI za = sortI zb))) ∧ Below w.heap.size w w' := by
  go_enter Try.func32, Try.ntmps32
  go_wp2_with fail
  refine (sSorted_any va za ba w ha hl).mono ?_
  rintro e w1 ⟨v1, b1, rfl, -, hw1, B1⟩
  go_wp2_with fail
  refine (sSorted_any vb zb bb w1 (hb.below B1) hl2).mono ?_
  rintro e w2 ⟨v2, b2, rfl, -, hw2, B2⟩
  have h1 := (hw1.below B2).rd
  have h2 := hw2.rd
  have B := B1.trans (B2.mono B1.size)
  clear hw1 hw2 B1 B2
  go_wp2_with fail
  refine (sEqualInts_any v1 v2 _ _ b1 b2 w2 h1 h2 (by rw [sortI_len]; omega) (by rw [sortI_len]; omega)).mono ?_
  rintro e w3 ⟨rfl, B3⟩
  have B4 := B.trans (B3.mono B.size)
  clear B B3 h1 h2
  go_wp2_with fail
  go_ret
  exact ⟨rfl, B4⟩
end Go.Proofs.Ytchpkpajnjcnbaa
