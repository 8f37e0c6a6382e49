/-
  The walk of the law FnExactParseHand, out of the contracts of both sides.
-/
import Derived.Test.YtcafbnddbddijaaHandP
namespace Go.Proofs.Ytcafbnddbddijaa
open Go.RowKit

set_option linter.unusedVariables false in
set_option maxRecDepth 100000 in
set_option maxHeartbeats 4000000 in
theorem fnExactParseHand_walk (a0 : ByteArray) (w : World) (wf0 : a0.size ≤ maxLen)  :
    Calls Try.prog 3 #[.string a0] w fun e w' => e = .returned (.bool true) ∧ Below w.heap.size w w' := by
  by_cases hbig0 : 1048576 < a0.size
  · skip
    go_enter Try.func3, Try.ntmps3
    go_wp2_with fail
    go_ret
    exact ⟨rfl, by first | exact Below.refl _ _ | exact (Below.refl _ _).alloc (Nat.le_refl _) _ | exact ((Below.refl _ _).alloc (Nat.le_refl _) _).alloc (by simp) _⟩
  have hl0 : a0.size ≤ 1048576 := by omega
  clear hbig0
  have hF0 : Hid ((hF a0.data.toList).length ≤ 1099511627776) := Lib.hid (by exact hF_le a0 hl0)
  go_enter Try.func3, Try.ntmps3
  have B : Below w.heap.size w w := Below.refl _ _
  go_wp2_with fail
  refine (sParseHand_w a0 _ hl0).mono ?_
  rintro e w1 ⟨sv0, sr0, rfl, sq0, s0, bw1⟩
  have qw1 := bw1.size
  replace B := B.trans (bw1.mono B.size)
  clear bw1
  have su0 : Hid ((hF a0.data.toList) ≠ [] → sr0 < w1.heap.size) := Lib.hid s0.rd.lt
  go_wp2_with fail
  refine (parseHand_w a0 _ hl0).mono ?_
  rintro e w2 ⟨gv0, gr0, rfl, gq0, g0, bw2⟩
  replace s0 := s0.below bw2
  have qw2 := bw2.size
  replace B := B.trans (bw2.mono B.size)
  clear bw2
  have gu0 : Hid ((hF a0.data.toList) ≠ [] → gr0 < w2.heap.size) := Lib.hid g0.rd.lt
  go_wp2_with fail
  refine (eqIntS_t _ _ _ _ _ _ g0.rd s0.rd hF0.out).mono ?_
  rintro e w3 ⟨rfl, bw3⟩
  replace s0 := s0.below bw3
  replace g0 := g0.below bw3
  have qw3 := bw3.size
  replace B := B.trans (bw3.mono B.size)
  clear bw3
  have hG0w4 := hF0.out
  go_wp2_with fail
  refine (markIntS_any _ _ _ _ _ g0 hF0.out (by omega) (by omega)).mono ?_
  rintro e w4 ⟨rfl, k0, gw4_, gw4_s⟩
  clear g0
  replace s0 := s0.apart gw4_ (fun hz => by have := su0.out hz; omega)
  have qw4 : w3.heap.size ≤ w4.heap.size := gw4_.size
  replace B := below_touch B gw4_ (by omega)
  clear gw4_ gw4_s
  go_wp2_with fail
  refine (heldIntS_any _ _ _ _ _ k0.rd hF0.out (by omega) (by omega)).mono ?_
  rintro e _w ⟨rfl, rfl⟩
  go_wp2_with fail
  refine (parseHand_w a0 _ hl0).mono ?_
  rintro e w5 ⟨tv0, tr0, rfl, tq0, t0, bw5⟩
  replace s0 := s0.below bw5
  replace k0 := k0.below bw5
  have qw5 := bw5.size
  replace B := B.trans (bw5.mono B.size)
  clear bw5
  have tu0 : Hid ((hF a0.data.toList) ≠ [] → tr0 < w5.heap.size) := Lib.hid t0.rd.lt
  go_wp2_with fail
  refine (eqIntS_t _ _ _ _ _ _ t0.rd s0.rd hF0.out).mono ?_
  rintro e w6 ⟨rfl, bw6⟩
  replace s0 := s0.below bw6
  replace k0 := k0.below bw6
  replace t0 := t0.below bw6
  have qw6 := bw6.size
  replace B := B.trans (bw6.mono B.size)
  clear bw6
  clear t0
  clear s0
  go_wp2_with fail
  refine (heldIntS_any _ _ _ _ _ k0.rd hF0.out (by omega) (by omega)).mono ?_
  rintro e _w ⟨rfl, rfl⟩
  go_wp2_with fail
  go_ret
  exact ⟨rfl, B⟩

end Go.Proofs.Ytcafbnddbddijaa
