/-
  The walk of the law FnExactNewDeal, out of the contracts of both sides.
-/
import Derived.Test.YtcfjpffdkmleiaaDoorNewDeal
import Derived.Test.YtcfjpffdkmleiaaDoorFrX
import Derived.Test.YtcfjpffdkmleiaaDoorNDeal
namespace Go.Proofs.YtcfjpffdkmleiaaDoor
open Go.RowKit
set_option linter.unusedVariables false
set_option linter.unusedSimpArgs false

theorem aggDealX {w : World} {v : Value} {D : MDeal} (h : RdDeal w v D) : ∃ A : Array Value, (A.size = 7 ∧ A.all (·.oneCell') = true) ∧ v = .agg A := by
  obtain ⟨p0, p3, p4, p5, c0, c3, c4, c5, hv⟩ := h.shape
  exact ⟨_, ⟨rfl, by simp [Value.oneCell']⟩, hv⟩
set_option linter.unusedVariables false in
set_option maxRecDepth 100000 in
set_option maxHeartbeats 4000000 in
theorem fnExactNewDeal_walk (v0 : Value) (z0 : List (List Int)) (a1 : Int) (a2 : Int) (w : World) (h0 : RdRows .i64 w v0 z0) (wf1 : (Lit.int .i64 a1).wf = true) (wf2 : (Lit.int .i64 a2).wf = true) (sa sb : Addr) (hS : Sent sa sb w) :
    Calls Tryd.prog 4 #[v0, .int .i64 a1, .int .i64 a2] w fun e w' => e = .returned (.bool true) ∧ Below w.heap.size w w' := by
  obtain ⟨p0, cap0, hv0, -⟩ := id h0
  subst hv0
  have B : Below w.heap.size w w := Below.refl _ _
  go_enter Tryd.func4, Tryd.ntmps4
  go_wp2_with fail
  refine (szIntSS_any _ z0 1048576 _ (h0.below B) (by omega) (by omega)).mono ?_
  rintro e _w ⟨⟨r0, rfl, rn0, rm0, hr0⟩, rfl⟩
  by_cases hneg0 : r0 < 0
  · go_wp2_with fail
    go_ret
    exact ⟨rfl, B⟩
  have hl0 : z0.length ≤ 1048576 := by have := hr0 (by omega); omega
  have hm0 : sumLen z0 ≤ 1048576 := by have := hr0 (by omega); omega
  clear hr0
  have hF0 : Hid ((newD z0 a1 a2).Few) := Lib.hid (by exact newD_few hl0 hm0)
  have tF0 := MDeal.total_le hF0.out
  go_wp2_with fail
  refine (toIntSS_any _ z0 _ (h0.below B) hl0 hm0).mono ?_
  rintro e w1 ⟨m0v, rfl, m0, bw1⟩
  replace m0 := m0.ss
  have qw1 := bw1.size
  replace B := B.trans (bw1.mono B.size)
  clear bw1
  go_wp2_with fail
  refine (sNewDeal_any _ z0 a1 a2 _ m0.rd hl0 hm0 wf1 wf2).mono ?_
  rintro e w2 ⟨sv0, rfl, s0, bw2⟩
  replace m0 := m0.below bw2
  have qw2 := bw2.size
  replace B := B.trans (bw2.mono B.size)
  clear bw2
  clear m0
  obtain ⟨As0, hAs0, hvs0⟩ := aggDealX s0.rd
  subst hvs0
  have HAs0 := Lib.hid hAs0
  clear hAs0
  have HF := freshX w2 #[.slice none 0 0, .int .i64 0, .int .i64 0, .slice none 0 0, .slice none 0 0, .slice none 0 0, .int .i64 0] As0 31
  have HF2 := Lib.hid HF
  clear HF
  go_wp2_with (first | (refine wpList_store_row rfl 31 _ _ rfl w2.heap.size As0 rfl rfl 31 _ (heap_alloc_new _ _) (by rw [HAs0.out.1]; kernel_rfl) (by rw [HAs0.out.1]; rfl) HAs0.out.2 ?_) | (refine wpList_load_rowG (by rfl) 31 _ rfl (w2.heap.size) rfl As0 (loadRowX HF2.out.1 Tryd.underlying31 rfl (by rw [HAs0.out.1]; kernel_rfl)) ?_) | fail)
  have HF := HF2.out
  clear HF2
  generalize (World.setRow (World.alloc w2 (.cells #[.slice none 0 0, .int .i64 0, .int .i64 0, .slice none 0 0, .slice none 0 0, .slice none 0 0, .int .i64 0] 31)) w2.heap.size As0) = w3 at HF ⊢
  obtain ⟨gs0, bxs0, ls0⟩ := HF
  replace s0 := s0.below bxs0
  have qw3 := bxs0.size
  replace B := B.trans (bxs0.mono B.size)
  clear bxs0
  have qxw3 := ls0
  refine (toIntSS_any _ z0 _ (h0.below B) hl0 hm0).mono ?_
  rintro e w4 ⟨x0v, rfl, x0, bw4⟩
  replace x0 := x0.ss
  replace gs0 := (bw4.block _ ls0).trans gs0
  replace ls0 := Nat.lt_of_lt_of_le ls0 bw4.size
  replace s0 := s0.below bw4
  have qw4 := bw4.size
  replace B := B.trans (bw4.mono B.size)
  clear bw4
  go_wp2_with (first | (refine wpList_load_rowG (by rfl) 31 _ rfl (w2.heap.size) rfl As0 (loadRowX gs0 Tryd.underlying31 rfl (by rw [HAs0.out.1]; kernel_rfl)) ?_) | fail)
  refine (newDeal_any sa sb _ z0 a1 a2 _ x0.rd hl0 hm0 wf1 wf2 (hS.below B (Nat.le_refl _))).mono ?_
  rintro e w5 ⟨gv0, rfl, g0, bw5⟩
  replace gs0 := (bw5.block _ ls0).trans gs0
  replace ls0 := Nat.lt_of_lt_of_le ls0 bw5.size
  replace s0 := s0.below bw5
  replace x0 := x0.below bw5
  have qw5 := bw5.size
  replace B := B.trans (bw5.mono B.size)
  clear bw5
  skip
  obtain ⟨Ag0, hAg0, hvg0⟩ := aggDealX g0.rd
  subst hvg0
  have HAg0 := Lib.hid hAg0
  clear hAg0
  have HF := freshX w5 #[.slice none 0 0, .int .i64 0, .int .i64 0, .slice none 0 0, .slice none 0 0, .slice none 0 0, .int .i64 0] Ag0 31
  have Gs0 := ((HF.2.1.block _ ls0).trans gs0)
  have HF2 := Lib.hid HF
  clear HF
  go_wp2_with (first | (refine wpList_store_row rfl 31 _ _ rfl w5.heap.size Ag0 rfl rfl 31 _ (heap_alloc_new _ _) (by rw [HAg0.out.1]; kernel_rfl) (by rw [HAg0.out.1]; rfl) HAg0.out.2 ?_) | (refine wpList_load_rowG (by rfl) 31 _ rfl (w2.heap.size) rfl As0 (loadRowX gs0 Tryd.underlying31 rfl (by rw [HAs0.out.1]; kernel_rfl)) ?_) | (refine wpList_load_rowG (by rfl) 31 _ rfl (w2.heap.size) rfl As0 (loadRowX Gs0 Tryd.underlying31 rfl (by rw [HAs0.out.1]; kernel_rfl)) ?_) | (refine wpList_load_rowG (by rfl) 31 _ rfl (w5.heap.size) rfl Ag0 (loadRowX HF2.out.1 Tryd.underlying31 rfl (by rw [HAg0.out.1]; kernel_rfl)) ?_) | fail)
  clear Gs0
  have HF := HF2.out
  clear HF2
  generalize (World.setRow (World.alloc w5 (.cells #[.slice none 0 0, .int .i64 0, .int .i64 0, .slice none 0 0, .slice none 0 0, .slice none 0 0, .int .i64 0] 31)) w5.heap.size Ag0) = w6 at HF ⊢
  obtain ⟨gg0, bxg0, lg0⟩ := HF
  replace gs0 := (bxg0.block _ ls0).trans gs0
  replace ls0 := Nat.lt_of_lt_of_le ls0 bxg0.size
  replace s0 := s0.below bxg0
  replace x0 := x0.below bxg0
  replace g0 := g0.below bxg0
  have qw6 := bxg0.size
  replace B := B.trans (bxg0.mono B.size)
  clear bxg0
  have qxw6 := lg0
  refine (eqDeal_t _ _ _ _ g0.rd s0.rd hF0.out).mono ?_
  rintro e w7 ⟨rfl, bw7⟩
  replace gs0 := (bw7.block _ ls0).trans gs0
  replace ls0 := Nat.lt_of_lt_of_le ls0 bw7.size
  replace gg0 := (bw7.block _ lg0).trans gg0
  replace lg0 := Nat.lt_of_lt_of_le lg0 bw7.size
  replace s0 := s0.below bw7
  replace x0 := x0.below bw7
  replace g0 := g0.below bw7
  have qw7 := bw7.size
  replace B := B.trans (bw7.mono B.size)
  clear bw7
  go_wp2_with (first | (refine wpList_load_rowG (by rfl) 31 _ rfl (w2.heap.size) rfl As0 (loadRowX gs0 Tryd.underlying31 rfl (by rw [HAs0.out.1]; kernel_rfl)) ?_) | (refine wpList_load_rowG (by rfl) 31 _ rfl (w5.heap.size) rfl Ag0 (loadRowX gg0 Tryd.underlying31 rfl (by rw [HAg0.out.1]; kernel_rfl)) ?_) | fail)
  refine (toIntSS_any _ z0 _ (h0.below B) hl0 hm0).mono ?_
  rintro e w8 ⟨y0v, rfl, y0, bw8⟩
  replace y0 := y0.ss
  replace gs0 := (bw8.block _ ls0).trans gs0
  replace ls0 := Nat.lt_of_lt_of_le ls0 bw8.size
  replace gg0 := (bw8.block _ lg0).trans gg0
  replace lg0 := Nat.lt_of_lt_of_le lg0 bw8.size
  replace s0 := s0.below bw8
  replace x0 := x0.below bw8
  replace g0 := g0.below bw8
  have qw8 := bw8.size
  replace B := B.trans (bw8.mono B.size)
  clear bw8
  go_wp2_with (first | (refine wpList_load_rowG (by rfl) 31 _ rfl (w2.heap.size) rfl As0 (loadRowX gs0 Tryd.underlying31 rfl (by rw [HAs0.out.1]; kernel_rfl)) ?_) | (refine wpList_load_rowG (by rfl) 31 _ rfl (w5.heap.size) rfl Ag0 (loadRowX gg0 Tryd.underlying31 rfl (by rw [HAg0.out.1]; kernel_rfl)) ?_) | fail)
  refine (eqIntSS_t _ _ _ _ x0.rd y0.rd hl0 hm0).mono ?_
  rintro e w9 ⟨rfl, bw9⟩
  replace gs0 := (bw9.block _ ls0).trans gs0
  replace ls0 := Nat.lt_of_lt_of_le ls0 bw9.size
  replace gg0 := (bw9.block _ lg0).trans gg0
  replace lg0 := Nat.lt_of_lt_of_le lg0 bw9.size
  replace s0 := s0.below bw9
  replace x0 := x0.below bw9
  replace g0 := g0.below bw9
  replace y0 := y0.below bw9
  have qw9 := bw9.size
  replace B := B.trans (bw9.mono B.size)
  clear bw9
  clear y0
  go_wp2_with (first | (refine wpList_load_rowG (by rfl) 31 _ rfl (w2.heap.size) rfl As0 (loadRowX gs0 Tryd.underlying31 rfl (by rw [HAs0.out.1]; kernel_rfl)) ?_) | (refine wpList_load_rowG (by rfl) 31 _ rfl (w5.heap.size) rfl Ag0 (loadRowX gg0 Tryd.underlying31 rfl (by rw [HAg0.out.1]; kernel_rfl)) ?_) | fail)
  refine (markIntSS_any _ (z0) (1) _ x0 hl0 hm0 (by omega) (by omega)).mono ?_
  rintro e w10 ⟨rfl, kx0, tw10, -⟩
  replace gs0 := touch_heap tw10 gs0 (fun hb => by have := hb.1; have := hb.2; omega)
  replace ls0 := Nat.lt_of_lt_of_le ls0 tw10.size
  replace gg0 := touch_heap tw10 gg0 (fun hb => by have := hb.1; have := hb.2; omega)
  replace lg0 := Nat.lt_of_lt_of_le lg0 tw10.size
  replace s0 := s0.touch tw10 (fun b h1 h2 => by have := h1.1; have := h1.2; have := h2.1; have := h2.2; omega)
  replace g0 := g0.touch tw10 (fun b h1 h2 => by have := h1.1; have := h1.2; have := h2.1; have := h2.2; omega)
  have qw10 : w9.heap.size ≤ w10.heap.size := tw10.size
  replace B := Below.thenTouch B tw10 (by omega) (fun b hb => by have := hb.1; have := hb.2; omega)
  clear tw10 x0
  clear kx0
  go_wp2_with (first | (refine wpList_load_rowG (by rfl) 31 _ rfl (w2.heap.size) rfl As0 (loadRowX gs0 Tryd.underlying31 rfl (by rw [HAs0.out.1]; kernel_rfl)) ?_) | (refine wpList_load_rowG (by rfl) 31 _ rfl (w5.heap.size) rfl Ag0 (loadRowX gg0 Tryd.underlying31 rfl (by rw [HAg0.out.1]; kernel_rfl)) ?_) | fail)
  refine (eqDeal_t _ _ _ _ g0.rd s0.rd hF0.out).mono ?_
  rintro e w11 ⟨rfl, bw11⟩
  replace gs0 := (bw11.block _ ls0).trans gs0
  replace ls0 := Nat.lt_of_lt_of_le ls0 bw11.size
  replace gg0 := (bw11.block _ lg0).trans gg0
  replace lg0 := Nat.lt_of_lt_of_le lg0 bw11.size
  replace s0 := s0.below bw11
  replace g0 := g0.below bw11
  have qw11 := bw11.size
  replace B := B.trans (bw11.mono B.size)
  clear bw11
  go_wp2_with (first | (refine wpList_load_rowG (by rfl) 31 _ rfl (w2.heap.size) rfl As0 (loadRowX gs0 Tryd.underlying31 rfl (by rw [HAs0.out.1]; kernel_rfl)) ?_) | (refine wpList_load_rowG (by rfl) 31 _ rfl (w5.heap.size) rfl Ag0 (loadRowX gg0 Tryd.underlying31 rfl (by rw [HAg0.out.1]; kernel_rfl)) ?_) | fail)
  refine (markDeal_any _ (newD z0 a1 a2) (1) _ g0 hF0.out (by omega) (by omega) (fun b hb => by have := hb.1; have := hb.2; omega)).mono ?_
  rintro e w12 ⟨rfl, kg0, tw12⟩
  replace gs0 := touch_heap tw12 gs0 (fun hb => by have := hb.1; have := hb.2; omega)
  replace ls0 := Nat.lt_of_lt_of_le ls0 tw12.size
  replace gg0 := touch_heap tw12 gg0 (fun hb => by have := hb.1; have := hb.2; omega)
  replace lg0 := Nat.lt_of_lt_of_le lg0 tw12.size
  replace s0 := s0.touch tw12 (fun b h1 h2 => by have := h1.1; have := h1.2; have := h2.1; have := h2.2; omega)
  have qw12 : w11.heap.size ≤ w12.heap.size := tw12.size
  replace B := Below.thenTouch B tw12 (by omega) (fun b hb => by have := hb.1; have := hb.2; omega)
  clear tw12 g0
  go_wp2_with (first | (refine wpList_load_rowG (by rfl) 31 _ rfl (w2.heap.size) rfl As0 (loadRowX gs0 Tryd.underlying31 rfl (by rw [HAs0.out.1]; kernel_rfl)) ?_) | (refine wpList_load_rowG (by rfl) 31 _ rfl (w5.heap.size) rfl Ag0 (loadRowX gg0 Tryd.underlying31 rfl (by rw [HAg0.out.1]; kernel_rfl)) ?_) | fail)
  refine (heldDeal_any _ (newD z0 a1 a2) (1) _ kg0.rd hF0.out (by omega) (by omega)).mono ?_
  rintro e w13 ⟨rfl, bw13⟩
  replace gs0 := (bw13.block _ ls0).trans gs0
  replace ls0 := Nat.lt_of_lt_of_le ls0 bw13.size
  replace gg0 := (bw13.block _ lg0).trans gg0
  replace lg0 := Nat.lt_of_lt_of_le lg0 bw13.size
  replace s0 := s0.below bw13
  replace kg0 := kg0.below bw13
  have qw13 := bw13.size
  replace B := B.trans (bw13.mono B.size)
  clear bw13
  go_wp2_with (first | (refine wpList_load_rowG (by rfl) 31 _ rfl (w2.heap.size) rfl As0 (loadRowX gs0 Tryd.underlying31 rfl (by rw [HAs0.out.1]; kernel_rfl)) ?_) | (refine wpList_load_rowG (by rfl) 31 _ rfl (w5.heap.size) rfl Ag0 (loadRowX gg0 Tryd.underlying31 rfl (by rw [HAg0.out.1]; kernel_rfl)) ?_) | fail)
  refine (toIntSS_any _ z0 _ (h0.below B) hl0 hm0).mono ?_
  rintro e w14 ⟨c0v, rfl, c0, bw14⟩
  replace c0 := c0.ss
  replace gs0 := (bw14.block _ ls0).trans gs0
  replace ls0 := Nat.lt_of_lt_of_le ls0 bw14.size
  replace gg0 := (bw14.block _ lg0).trans gg0
  replace lg0 := Nat.lt_of_lt_of_le lg0 bw14.size
  replace s0 := s0.below bw14
  replace kg0 := kg0.below bw14
  have qw14 := bw14.size
  replace B := B.trans (bw14.mono B.size)
  clear bw14
  go_wp2_with (first | (refine wpList_load_rowG (by rfl) 31 _ rfl (w2.heap.size) rfl As0 (loadRowX gs0 Tryd.underlying31 rfl (by rw [HAs0.out.1]; kernel_rfl)) ?_) | (refine wpList_load_rowG (by rfl) 31 _ rfl (w5.heap.size) rfl Ag0 (loadRowX gg0 Tryd.underlying31 rfl (by rw [HAg0.out.1]; kernel_rfl)) ?_) | fail)
  refine (newDeal_any sa sb _ z0 a1 a2 _ c0.rd hl0 hm0 wf1 wf2 (hS.below B (Nat.le_refl _))).mono ?_
  rintro e w15 ⟨tv0, rfl, t0, bw15⟩
  replace gs0 := (bw15.block _ ls0).trans gs0
  replace ls0 := Nat.lt_of_lt_of_le ls0 bw15.size
  replace gg0 := (bw15.block _ lg0).trans gg0
  replace lg0 := Nat.lt_of_lt_of_le lg0 bw15.size
  replace s0 := s0.below bw15
  replace kg0 := kg0.below bw15
  replace c0 := c0.below bw15
  have qw15 := bw15.size
  replace B := B.trans (bw15.mono B.size)
  clear bw15
  clear c0
  obtain ⟨At0, hAt0, hvt0⟩ := aggDealX t0.rd
  subst hvt0
  have HAt0 := Lib.hid hAt0
  clear hAt0
  have HF := freshX w15 #[.slice none 0 0, .int .i64 0, .int .i64 0, .slice none 0 0, .slice none 0 0, .slice none 0 0, .int .i64 0] At0 31
  have Gs0 := ((HF.2.1.block _ ls0).trans gs0)
  have Gg0 := ((HF.2.1.block _ lg0).trans gg0)
  have HF2 := Lib.hid HF
  clear HF
  go_wp2_with (first | (refine wpList_store_row rfl 31 _ _ rfl w15.heap.size At0 rfl rfl 31 _ (heap_alloc_new _ _) (by rw [HAt0.out.1]; kernel_rfl) (by rw [HAt0.out.1]; rfl) HAt0.out.2 ?_) | (refine wpList_load_rowG (by rfl) 31 _ rfl (w2.heap.size) rfl As0 (loadRowX gs0 Tryd.underlying31 rfl (by rw [HAs0.out.1]; kernel_rfl)) ?_) | (refine wpList_load_rowG (by rfl) 31 _ rfl (w5.heap.size) rfl Ag0 (loadRowX gg0 Tryd.underlying31 rfl (by rw [HAg0.out.1]; kernel_rfl)) ?_) | (refine wpList_load_rowG (by rfl) 31 _ rfl (w2.heap.size) rfl As0 (loadRowX Gs0 Tryd.underlying31 rfl (by rw [HAs0.out.1]; kernel_rfl)) ?_) | (refine wpList_load_rowG (by rfl) 31 _ rfl (w5.heap.size) rfl Ag0 (loadRowX Gg0 Tryd.underlying31 rfl (by rw [HAg0.out.1]; kernel_rfl)) ?_) | (refine wpList_load_rowG (by rfl) 31 _ rfl (w15.heap.size) rfl At0 (loadRowX HF2.out.1 Tryd.underlying31 rfl (by rw [HAt0.out.1]; kernel_rfl)) ?_) | fail)
  clear Gs0 Gg0
  have HF := HF2.out
  clear HF2
  generalize (World.setRow (World.alloc w15 (.cells #[.slice none 0 0, .int .i64 0, .int .i64 0, .slice none 0 0, .slice none 0 0, .slice none 0 0, .int .i64 0] 31)) w15.heap.size At0) = w16 at HF ⊢
  obtain ⟨gt0, bxt0, lt0⟩ := HF
  replace gs0 := (bxt0.block _ ls0).trans gs0
  replace ls0 := Nat.lt_of_lt_of_le ls0 bxt0.size
  replace gg0 := (bxt0.block _ lg0).trans gg0
  replace lg0 := Nat.lt_of_lt_of_le lg0 bxt0.size
  replace s0 := s0.below bxt0
  replace kg0 := kg0.below bxt0
  replace t0 := t0.below bxt0
  have qw16 := bxt0.size
  replace B := B.trans (bxt0.mono B.size)
  clear bxt0
  have qxw16 := lt0
  refine (eqDeal_t _ _ _ _ t0.rd s0.rd hF0.out).mono ?_
  rintro e w17 ⟨rfl, bw17⟩
  replace gs0 := (bw17.block _ ls0).trans gs0
  replace ls0 := Nat.lt_of_lt_of_le ls0 bw17.size
  replace gg0 := (bw17.block _ lg0).trans gg0
  replace lg0 := Nat.lt_of_lt_of_le lg0 bw17.size
  replace gt0 := (bw17.block _ lt0).trans gt0
  replace lt0 := Nat.lt_of_lt_of_le lt0 bw17.size
  replace s0 := s0.below bw17
  replace kg0 := kg0.below bw17
  replace t0 := t0.below bw17
  have qw17 := bw17.size
  replace B := B.trans (bw17.mono B.size)
  clear bw17
  clear t0
  clear s0
  go_wp2_with (first | (refine wpList_load_rowG (by rfl) 31 _ rfl (w2.heap.size) rfl As0 (loadRowX gs0 Tryd.underlying31 rfl (by rw [HAs0.out.1]; kernel_rfl)) ?_) | (refine wpList_load_rowG (by rfl) 31 _ rfl (w5.heap.size) rfl Ag0 (loadRowX gg0 Tryd.underlying31 rfl (by rw [HAg0.out.1]; kernel_rfl)) ?_) | (refine wpList_load_rowG (by rfl) 31 _ rfl (w15.heap.size) rfl At0 (loadRowX gt0 Tryd.underlying31 rfl (by rw [HAt0.out.1]; kernel_rfl)) ?_) | fail)
  refine (heldDeal_any _ (newD z0 a1 a2) (1) _ kg0.rd hF0.out (by omega) (by omega)).mono ?_
  rintro e w18 ⟨rfl, bw18⟩
  replace gs0 := (bw18.block _ ls0).trans gs0
  replace ls0 := Nat.lt_of_lt_of_le ls0 bw18.size
  replace gg0 := (bw18.block _ lg0).trans gg0
  replace lg0 := Nat.lt_of_lt_of_le lg0 bw18.size
  replace gt0 := (bw18.block _ lt0).trans gt0
  replace lt0 := Nat.lt_of_lt_of_le lt0 bw18.size
  replace kg0 := kg0.below bw18
  have qw18 := bw18.size
  replace B := B.trans (bw18.mono B.size)
  clear bw18
  go_wp2_with (first | (refine wpList_load_rowG (by rfl) 31 _ rfl (w2.heap.size) rfl As0 (loadRowX gs0 Tryd.underlying31 rfl (by rw [HAs0.out.1]; kernel_rfl)) ?_) | (refine wpList_load_rowG (by rfl) 31 _ rfl (w5.heap.size) rfl Ag0 (loadRowX gg0 Tryd.underlying31 rfl (by rw [HAg0.out.1]; kernel_rfl)) ?_) | (refine wpList_load_rowG (by rfl) 31 _ rfl (w15.heap.size) rfl At0 (loadRowX gt0 Tryd.underlying31 rfl (by rw [HAt0.out.1]; kernel_rfl)) ?_) | fail)
  go_ret
  exact ⟨rfl, B⟩

end Go.Proofs.YtcfjpffdkmleiaaDoor
