/-
  The walk of the law FnExactEasyRules, out of the contracts of both sides.
-/
import Derived.Test.YtoeobpdgfhgpiaaEasy
import Derived.Test.YtoeobpdgfhgpiaaFrX
import Derived.Test.YtoeobpdgfhgpiaaNRules
namespace Go.Proofs.Ytoeobpdgfhgpiaa
open Go.RowKit
set_option linter.unusedVariables false
set_option linter.unusedSimpArgs false

theorem aggRulesX {w : World} {v : Value} {D : MRules} (h : RdRules w v D) : ∃ A : Array Value, (A.size = 8 ∧ A.all (·.oneCell') = true) ∧ v = .agg A := by
  obtain ⟨p4, p5, c4, c5, hv⟩ := h.shape
  exact ⟨_, ⟨rfl, by simp [Value.oneCell']⟩, hv⟩
set_option linter.unusedVariables false in
set_option maxRecDepth 100000 in
set_option maxHeartbeats 4000000 in
theorem fnExactEasyRules_walk  (w : World)   :
    Calls Try.prog 3 #[] w fun e w' => e = .returned (.bool true) ∧ Below w.heap.size w w' := by
  have B : Below w.heap.size w w := Below.refl _ _
  go_enter Try.func3, Try.ntmps3
  have hF0 : Hid ((easyM).Few) := Lib.hid (by exact ⟨by decide, by decide⟩)
  have tF0 := MRules.total_le hF0.out
  go_wp2_with fail
  refine (sEasyRules_any _).mono ?_
  rintro e w1 ⟨sv0, rfl, s0, bw1⟩
  have qw1 := bw1.size
  replace B := B.trans (bw1.mono B.size)
  clear bw1
  skip
  obtain ⟨As0, hAs0, hvs0⟩ := aggRulesX s0.rd
  subst hvs0
  have HAs0 := Lib.hid hAs0
  clear hAs0
  have HF := freshX w1 #[.int .i64 0, .int .i64 0, .bool false, .bool false, .slice none 0 0, .slice none 0 0, .int .i64 0, .int .i64 0] As0 24
  have HF2 := Lib.hid HF
  clear HF
  go_wp2_with (first | (refine wpList_store_row rfl 24 _ _ rfl w1.heap.size As0 rfl rfl 24 _ (heap_alloc_new _ _) (by rw [HAs0.out.1]; kernel_rfl) (by rw [HAs0.out.1]; rfl) HAs0.out.2 ?_) | (refine wpList_load_rowG (by rfl) 24 _ rfl (w1.heap.size) rfl As0 (loadRowX HF2.out.1 Try.underlying24 rfl (by rw [HAs0.out.1]; kernel_rfl)) ?_) | fail)
  have HF := HF2.out
  clear HF2
  generalize (World.setRow (World.alloc w1 (.cells #[.int .i64 0, .int .i64 0, .bool false, .bool false, .slice none 0 0, .slice none 0 0, .int .i64 0, .int .i64 0] 24)) w1.heap.size As0) = w2 at HF ⊢
  obtain ⟨gs0, bxs0, ls0⟩ := HF
  replace s0 := s0.below bxs0
  have qw2 := bxs0.size
  replace B := B.trans (bxs0.mono B.size)
  clear bxs0
  have qxw2 := ls0
  refine (easyRules_any _).mono ?_
  rintro e w3 ⟨gv0, rfl, g0, bw3⟩
  replace gs0 := (bw3.block _ ls0).trans gs0
  replace ls0 := Nat.lt_of_lt_of_le ls0 bw3.size
  replace s0 := s0.below bw3
  have qw3 := bw3.size
  replace B := B.trans (bw3.mono B.size)
  clear bw3
  skip
  obtain ⟨Ag0, hAg0, hvg0⟩ := aggRulesX g0.rd
  subst hvg0
  have HAg0 := Lib.hid hAg0
  clear hAg0
  have HF := freshX w3 #[.int .i64 0, .int .i64 0, .bool false, .bool false, .slice none 0 0, .slice none 0 0, .int .i64 0, .int .i64 0] Ag0 24
  have Gs0 := ((HF.2.1.block _ ls0).trans gs0)
  have HF2 := Lib.hid HF
  clear HF
  go_wp2_with (first | (refine wpList_store_row rfl 24 _ _ rfl w3.heap.size Ag0 rfl rfl 24 _ (heap_alloc_new _ _) (by rw [HAg0.out.1]; kernel_rfl) (by rw [HAg0.out.1]; rfl) HAg0.out.2 ?_) | (refine wpList_load_rowG (by rfl) 24 _ rfl (w1.heap.size) rfl As0 (loadRowX gs0 Try.underlying24 rfl (by rw [HAs0.out.1]; kernel_rfl)) ?_) | (refine wpList_load_rowG (by rfl) 24 _ rfl (w1.heap.size) rfl As0 (loadRowX Gs0 Try.underlying24 rfl (by rw [HAs0.out.1]; kernel_rfl)) ?_) | (refine wpList_load_rowG (by rfl) 24 _ rfl (w3.heap.size) rfl Ag0 (loadRowX HF2.out.1 Try.underlying24 rfl (by rw [HAg0.out.1]; kernel_rfl)) ?_) | fail)
  clear Gs0
  have HF := HF2.out
  clear HF2
  generalize (World.setRow (World.alloc w3 (.cells #[.int .i64 0, .int .i64 0, .bool false, .bool false, .slice none 0 0, .slice none 0 0, .int .i64 0, .int .i64 0] 24)) w3.heap.size Ag0) = w4 at HF ⊢
  obtain ⟨gg0, bxg0, lg0⟩ := HF
  replace gs0 := (bxg0.block _ ls0).trans gs0
  replace ls0 := Nat.lt_of_lt_of_le ls0 bxg0.size
  replace s0 := s0.below bxg0
  replace g0 := g0.below bxg0
  have qw4 := bxg0.size
  replace B := B.trans (bxg0.mono B.size)
  clear bxg0
  have qxw4 := lg0
  refine (eqRules_t _ _ _ _ g0.rd s0.rd hF0.out).mono ?_
  rintro e w5 ⟨rfl, bw5⟩
  replace gs0 := (bw5.block _ ls0).trans gs0
  replace ls0 := Nat.lt_of_lt_of_le ls0 bw5.size
  replace gg0 := (bw5.block _ lg0).trans gg0
  replace lg0 := Nat.lt_of_lt_of_le lg0 bw5.size
  replace s0 := s0.below bw5
  replace g0 := g0.below bw5
  have qw5 := bw5.size
  replace B := B.trans (bw5.mono B.size)
  clear bw5
  go_wp2_with (first | (refine wpList_load_rowG (by rfl) 24 _ rfl (w1.heap.size) rfl As0 (loadRowX gs0 Try.underlying24 rfl (by rw [HAs0.out.1]; kernel_rfl)) ?_) | (refine wpList_load_rowG (by rfl) 24 _ rfl (w3.heap.size) rfl Ag0 (loadRowX gg0 Try.underlying24 rfl (by rw [HAg0.out.1]; kernel_rfl)) ?_) | fail)
  refine (markRules_any _ (easyM) (1) _ g0 hF0.out (by omega) (by omega) (fun b hb => by have := hb.1; have := hb.2; omega)).mono ?_
  rintro e w6 ⟨rfl, kg0, tw6⟩
  replace gs0 := touch_heap tw6 gs0 (fun hb => by have := hb.1; have := hb.2; omega)
  replace ls0 := Nat.lt_of_lt_of_le ls0 tw6.size
  replace gg0 := touch_heap tw6 gg0 (fun hb => by have := hb.1; have := hb.2; omega)
  replace lg0 := Nat.lt_of_lt_of_le lg0 tw6.size
  replace s0 := s0.touch tw6 (fun b h1 h2 => by have := h1.1; have := h1.2; have := h2.1; have := h2.2; omega)
  have qw6 : w5.heap.size ≤ w6.heap.size := tw6.size
  replace B := Below.thenTouch B tw6 (by omega) (fun b hb => by have := hb.1; have := hb.2; omega)
  clear tw6 g0
  go_wp2_with (first | (refine wpList_load_rowG (by rfl) 24 _ rfl (w1.heap.size) rfl As0 (loadRowX gs0 Try.underlying24 rfl (by rw [HAs0.out.1]; kernel_rfl)) ?_) | (refine wpList_load_rowG (by rfl) 24 _ rfl (w3.heap.size) rfl Ag0 (loadRowX gg0 Try.underlying24 rfl (by rw [HAg0.out.1]; kernel_rfl)) ?_) | fail)
  refine (heldRules_any _ (easyM) (1) _ kg0.rd hF0.out (by omega) (by omega)).mono ?_
  rintro e w7 ⟨rfl, bw7⟩
  replace gs0 := (bw7.block _ ls0).trans gs0
  replace ls0 := Nat.lt_of_lt_of_le ls0 bw7.size
  replace gg0 := (bw7.block _ lg0).trans gg0
  replace lg0 := Nat.lt_of_lt_of_le lg0 bw7.size
  replace s0 := s0.below bw7
  replace kg0 := kg0.below bw7
  have qw7 := bw7.size
  replace B := B.trans (bw7.mono B.size)
  clear bw7
  go_wp2_with (first | (refine wpList_load_rowG (by rfl) 24 _ rfl (w1.heap.size) rfl As0 (loadRowX gs0 Try.underlying24 rfl (by rw [HAs0.out.1]; kernel_rfl)) ?_) | (refine wpList_load_rowG (by rfl) 24 _ rfl (w3.heap.size) rfl Ag0 (loadRowX gg0 Try.underlying24 rfl (by rw [HAg0.out.1]; kernel_rfl)) ?_) | fail)
  refine (easyRules_any _).mono ?_
  rintro e w8 ⟨tv0, rfl, t0, bw8⟩
  replace gs0 := (bw8.block _ ls0).trans gs0
  replace ls0 := Nat.lt_of_lt_of_le ls0 bw8.size
  replace gg0 := (bw8.block _ lg0).trans gg0
  replace lg0 := Nat.lt_of_lt_of_le lg0 bw8.size
  replace s0 := s0.below bw8
  replace kg0 := kg0.below bw8
  have qw8 := bw8.size
  replace B := B.trans (bw8.mono B.size)
  clear bw8
  skip
  obtain ⟨At0, hAt0, hvt0⟩ := aggRulesX t0.rd
  subst hvt0
  have HAt0 := Lib.hid hAt0
  clear hAt0
  have HF := freshX w8 #[.int .i64 0, .int .i64 0, .bool false, .bool false, .slice none 0 0, .slice none 0 0, .int .i64 0, .int .i64 0] At0 24
  have Gs0 := ((HF.2.1.block _ ls0).trans gs0)
  have Gg0 := ((HF.2.1.block _ lg0).trans gg0)
  have HF2 := Lib.hid HF
  clear HF
  go_wp2_with (first | (refine wpList_store_row rfl 24 _ _ rfl w8.heap.size At0 rfl rfl 24 _ (heap_alloc_new _ _) (by rw [HAt0.out.1]; kernel_rfl) (by rw [HAt0.out.1]; rfl) HAt0.out.2 ?_) | (refine wpList_load_rowG (by rfl) 24 _ rfl (w1.heap.size) rfl As0 (loadRowX gs0 Try.underlying24 rfl (by rw [HAs0.out.1]; kernel_rfl)) ?_) | (refine wpList_load_rowG (by rfl) 24 _ rfl (w3.heap.size) rfl Ag0 (loadRowX gg0 Try.underlying24 rfl (by rw [HAg0.out.1]; kernel_rfl)) ?_) | (refine wpList_load_rowG (by rfl) 24 _ rfl (w1.heap.size) rfl As0 (loadRowX Gs0 Try.underlying24 rfl (by rw [HAs0.out.1]; kernel_rfl)) ?_) | (refine wpList_load_rowG (by rfl) 24 _ rfl (w3.heap.size) rfl Ag0 (loadRowX Gg0 Try.underlying24 rfl (by rw [HAg0.out.1]; kernel_rfl)) ?_) | (refine wpList_load_rowG (by rfl) 24 _ rfl (w8.heap.size) rfl At0 (loadRowX HF2.out.1 Try.underlying24 rfl (by rw [HAt0.out.1]; kernel_rfl)) ?_) | fail)
  clear Gs0 Gg0
  have HF := HF2.out
  clear HF2
  generalize (World.setRow (World.alloc w8 (.cells #[.int .i64 0, .int .i64 0, .bool false, .bool false, .slice none 0 0, .slice none 0 0, .int .i64 0, .int .i64 0] 24)) w8.heap.size At0) = w9 at HF ⊢
  obtain ⟨gt0, bxt0, lt0⟩ := HF
  replace gs0 := (bxt0.block _ ls0).trans gs0
  replace ls0 := Nat.lt_of_lt_of_le ls0 bxt0.size
  replace gg0 := (bxt0.block _ lg0).trans gg0
  replace lg0 := Nat.lt_of_lt_of_le lg0 bxt0.size
  replace s0 := s0.below bxt0
  replace kg0 := kg0.below bxt0
  replace t0 := t0.below bxt0
  have qw9 := bxt0.size
  replace B := B.trans (bxt0.mono B.size)
  clear bxt0
  have qxw9 := lt0
  refine (eqRules_t _ _ _ _ t0.rd s0.rd hF0.out).mono ?_
  rintro e w10 ⟨rfl, bw10⟩
  replace gs0 := (bw10.block _ ls0).trans gs0
  replace ls0 := Nat.lt_of_lt_of_le ls0 bw10.size
  replace gg0 := (bw10.block _ lg0).trans gg0
  replace lg0 := Nat.lt_of_lt_of_le lg0 bw10.size
  replace gt0 := (bw10.block _ lt0).trans gt0
  replace lt0 := Nat.lt_of_lt_of_le lt0 bw10.size
  replace s0 := s0.below bw10
  replace kg0 := kg0.below bw10
  replace t0 := t0.below bw10
  have qw10 := bw10.size
  replace B := B.trans (bw10.mono B.size)
  clear bw10
  clear t0
  clear s0
  go_wp2_with (first | (refine wpList_load_rowG (by rfl) 24 _ rfl (w1.heap.size) rfl As0 (loadRowX gs0 Try.underlying24 rfl (by rw [HAs0.out.1]; kernel_rfl)) ?_) | (refine wpList_load_rowG (by rfl) 24 _ rfl (w3.heap.size) rfl Ag0 (loadRowX gg0 Try.underlying24 rfl (by rw [HAg0.out.1]; kernel_rfl)) ?_) | (refine wpList_load_rowG (by rfl) 24 _ rfl (w8.heap.size) rfl At0 (loadRowX gt0 Try.underlying24 rfl (by rw [HAt0.out.1]; kernel_rfl)) ?_) | fail)
  refine (heldRules_any _ (easyM) (1) _ kg0.rd hF0.out (by omega) (by omega)).mono ?_
  rintro e w11 ⟨rfl, bw11⟩
  replace gs0 := (bw11.block _ ls0).trans gs0
  replace ls0 := Nat.lt_of_lt_of_le ls0 bw11.size
  replace gg0 := (bw11.block _ lg0).trans gg0
  replace lg0 := Nat.lt_of_lt_of_le lg0 bw11.size
  replace gt0 := (bw11.block _ lt0).trans gt0
  replace lt0 := Nat.lt_of_lt_of_le lt0 bw11.size
  replace kg0 := kg0.below bw11
  have qw11 := bw11.size
  replace B := B.trans (bw11.mono B.size)
  clear bw11
  go_wp2_with (first | (refine wpList_load_rowG (by rfl) 24 _ rfl (w1.heap.size) rfl As0 (loadRowX gs0 Try.underlying24 rfl (by rw [HAs0.out.1]; kernel_rfl)) ?_) | (refine wpList_load_rowG (by rfl) 24 _ rfl (w3.heap.size) rfl Ag0 (loadRowX gg0 Try.underlying24 rfl (by rw [HAg0.out.1]; kernel_rfl)) ?_) | (refine wpList_load_rowG (by rfl) 24 _ rfl (w8.heap.size) rfl At0 (loadRowX gt0 Try.underlying24 rfl (by rw [HAt0.out.1]; kernel_rfl)) ?_) | fail)
  go_ret
  exact ⟨rfl, B⟩

end Go.Proofs.Ytoeobpdgfhgpiaa
