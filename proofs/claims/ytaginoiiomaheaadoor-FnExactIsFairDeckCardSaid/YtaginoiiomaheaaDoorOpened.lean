/-
  IsOpened, both sides.
-/
import Derived.Test.YtaginoiiomaheaaDoorSeal
import Derived.Test.YtaginoiiomaheaaDoorIn
import Derived.StillTailTactics
import Derived.Laws.Rows
import Derived.Deep.RegionHeld3
namespace Go.Proofs.YtaginoiiomaheaaDoor
open Go.RowKit
set_option linter.unusedVariables false

def okSeed (n : Int) : Bool := decide (0 ≤ n ∧ n ≤ 1000000)
theorem okSeed_t {n : Int} (h : okSeed n = true) : 0 ≤ n ∧ n ≤ 1000000 := of_decide_eq_true h
theorem okSeed_f {n : Int} (h : okSeed n = false) : ¬ (0 ≤ n ∧ n ≤ 1000000) := of_decide_eq_false h
def openB (who seed salt sl : Int) : Bool := okSeed seed && (okSeed salt && decide (sealI who seed salt = sl))
theorem open_0 {who seed salt sl : Int} (h : okSeed seed = false) : openB who seed salt sl = false := by simp [openB, h]
theorem open_1 {who seed salt sl : Int} (h : okSeed salt = false) : openB who seed salt sl = false := by simp [openB, h]
theorem open_2 {who seed salt sl : Int} (h : okSeed seed = true) (h1 : okSeed salt = true) : openB who seed salt sl = decide (sealI who seed salt = sl) := by simp [openB, h, h1]
theorem wrap_same {n : Int} (h : okSeed n = true) : n % 1000001 = n := by have := okSeed_t h; omega
theorem wrap_other {n : Int} (h : okSeed n = false) : ¬ n % 1000001 = n := by have := okSeed_f h; omega

set_option maxRecDepth 100000 in
theorem sIsOpened_r (who seed salt sl : Int) (w : World) (wa : (Lit.int .i64 who).wf = true) (wb : (Lit.int .i64 seed).wf = true) (wc : (Lit.int .i64 salt).wf = true) (r : Bool) (hr : openB who seed salt sl = r) :
    Calls Tryd.prog 35 #[.int .i64 who, .int .i64 seed, .int .i64 salt, .int .i64 sl] w fun e w' => e = .returned (.bool r) ∧ Below w.heap.size w w' := by
  cases h1 : okSeed seed with
  | false =>
    have H1 := Lib.hid (fun wx => inM_any seed 0 1000000 wx false (by simp only [decide_eq_false (okSeed_f h1)]))
    obtain rfl : r = false := by rw [← hr]; exact open_0 h1
    clear hr h1
    go_enter Tryd.func35, Tryd.ntmps35
    go_wp2_with fail
    refine (H1.out _).mono ?_
    rintro e _w ⟨rfl, rfl⟩
    go_wp2_with fail
    go_ret
    exact ⟨rfl, Below.refl _ _⟩
  | true =>
    have H1 := Lib.hid (fun wx => inM_any seed 0 1000000 wx true (by simpa using okSeed_t h1))
    cases h2 : okSeed salt with
    | false =>
      have H2 := Lib.hid (fun wx => inM_any salt 0 1000000 wx false (by simp only [decide_eq_false (okSeed_f h2)]))
      obtain rfl : r = false := by rw [← hr]; exact open_1 h2
      clear hr h1 h2
      go_enter Tryd.func35, Tryd.ntmps35
      go_wp2_with fail
      refine (H1.out _).mono ?_
      rintro e _w ⟨rfl, rfl⟩
      go_wp2_with fail
      refine (H2.out _).mono ?_
      rintro e _w ⟨rfl, rfl⟩
      go_wp2_with fail
      go_ret
      exact ⟨rfl, Below.refl _ _⟩
    | true =>
      have H2 := Lib.hid (fun wx => inM_any salt 0 1000000 wx true (by simpa using okSeed_t h2))
      have HS := Lib.hid (fun wx => sSeedSeal_any who seed salt wx wa wb wc)
      rw [open_2 h1 h2] at hr
      generalize sealI who seed salt = t at *
      by_cases e : t = sl
      · have hq : (t == sl) = true := by simpa using e
        obtain rfl : r = true := by rw [← hr]; simpa using e
        clear hr h1 h2 e
        go_enter Tryd.func35, Tryd.ntmps35
        go_wp2_with fail
        refine (H1.out _).mono ?_
        rintro e _w ⟨rfl, rfl⟩
        go_wp2_with fail
        refine (H2.out _).mono ?_
        rintro e _w ⟨rfl, rfl⟩
        go_wp2_with fail
        refine (HS.out _).mono ?_
        rintro e w1 ⟨rfl, b1⟩
        go_wp2_with fail
        go_ret
        exact ⟨rfl, b1⟩
      · have hq : (t == sl) = false := by simpa using e
        obtain rfl : r = false := by rw [← hr]; simpa using e
        clear hr h1 h2 e
        go_enter Tryd.func35, Tryd.ntmps35
        go_wp2_with fail
        refine (H1.out _).mono ?_
        rintro e _w ⟨rfl, rfl⟩
        go_wp2_with fail
        refine (H2.out _).mono ?_
        rintro e _w ⟨rfl, rfl⟩
        go_wp2_with fail
        refine (HS.out _).mono ?_
        rintro e w1 ⟨rfl, b1⟩
        go_wp2_with fail
        go_ret
        exact ⟨rfl, b1⟩
theorem cells2 {w : World} {b : Nat} {a0 a1 : Value} {t : TypeId} {fr : Nat × Nat} (h : w.heap[b]? = some (.cells #[a0, a1] t fr)) : w.cell? ⟨b, 0, none⟩ = some a0 ∧ w.cell? ⟨b, 1, none⟩ = some a1 := by
  simp [World.cell?, h]
set_option maxRecDepth 100000 in
set_option maxHeartbeats 1000000 in
theorem wrapped_any (a0 a1 : Addr) (x y : Int) (w : World) (wx : (Lit.int .i64 x).wf = true) (wy : (Lit.int .i64 y).wf = true) (hS : Sent a0 a1 w) :
    Calls Tryd.prog 47 #[.agg #[.int .i64 x, .int .i64 y]] w fun e w' => e = .returned (.agg #[.int .i64 (x % 1000001), .int .i64 (y % 1000001)]) ∧ Below w.heap.size w w' := by
  have HX := Lib.hid (fun wz hw => wrapSeed_any a0 a1 x wz wx (hS.below (w' := wz) hw (Nat.le_refl _)))
  have HY := Lib.hid (fun wz hw => wrapSeed_any a0 a1 y wz wy (hS.below (w' := wz) hw (Nat.le_refl _)))
  have B0 : ∀ o1 o2, Below w.heap.size w ((w.alloc o1).alloc o2) := fun o1 o2 => ((Below.refl w.heap.size w).alloc (Nat.le_refl _) o1).alloc (by simp) o2
  generalize x % 1000001 = p at *
  generalize y % 1000001 = q at *
  clear wx wy hS
  obtain ⟨W0, hW0⟩ : ∃ W, W = (w.alloc (.cells #[.int .i64 x, .int .i64 y] 71)).alloc (.cells #[.int .i64 0, .int .i64 0] 71) := ⟨_, rfl⟩
  have B : Below w.heap.size w W0 := by rw [hW0]; exact B0 _ _
  have G1 : W0.heap[w.heap.size]? = some (.cells #[.int .i64 x, .int .i64 y] 71 (0, 0)) := by
    rw [hW0]; show ((w.heap.push _).push _)[w.heap.size]? = _
    rw [Array.getElem?_push, if_neg (by simp)]; simp
  have G2 : W0.heap[w.heap.size + 1]? = some (.cells #[.int .i64 0, .int .i64 0] 71 (0, 0)) := by
    rw [hW0]; show ((w.heap.push _).push _)[w.heap.size + 1]? = _
    rw [Array.getElem?_push, if_pos (by simp)]
  have HW0 := Lib.hid hW0
  obtain ⟨k0, k1⟩ := cells2 G1
  obtain ⟨m0, m1⟩ := cells2 G2
  have z0 : W0.frozen? ⟨w.heap.size + 1, 0, none⟩ = false := by simp [World.frozen?, G2]
  have z1 : W0.frozen? ⟨w.heap.size + 1, 1, none⟩ = false := by simp [World.frozen?, G2]
  clear hW0 B0
  go_enter Tryd.func47, Tryd.ntmps47
  go_wp2_with fail
  rw [← HW0.out]
  refine wp_region_still_tail 7 (by kernel_rfl) (by kernel_rfl) ?_
  simp only [List.take_succ_cons, List.take_zero, List.drop_succ_cons, List.drop_zero]
  still_step
  still_step
  still_call (flip_same (HX.out _ B.drew) rfl)
  still_step
  still_step
  still_call (flip_same (HY.out _ B.drew) rfl)
  still_step
  refine wpStill_nil ?_
  go_wp2_with fail
  have N2 : (((W0.setCell ⟨w.heap.size + 1, 0, none⟩ (.int .i64 p)).setCell ⟨w.heap.size + 1, 1, none⟩ (.int .i64 q)).drew).heap[w.heap.size + 1]? = some (.cells #[.int .i64 p, .int .i64 q] 71 (0, 0)) := by
    show ((W0.setCell ⟨w.heap.size + 1, 0, none⟩ (.int .i64 p)).setCell ⟨w.heap.size + 1, 1, none⟩ (.int .i64 q)).heap[w.heap.size + 1]? = _
    simp [World.setCell, Array.getElem?_modify, G2]
  exact bodyPost_ret (results_cell_row rfl _ _ (w.heap.size + 1) _ _ _ _ rfl N2 Tryd.underlying71 rfl (by kernel_rfl)) rfl ⟨rfl, ((B.setCell (by simp) _).setCell (by simp) _).drew⟩
set_option maxRecDepth 100000 in
set_option maxHeartbeats 2000000 in
theorem isOpened_r (a0 a1 : Addr) (who seed salt sl : Int) (w : World) (wa : (Lit.int .i64 who).wf = true) (wb : (Lit.int .i64 seed).wf = true) (wc : (Lit.int .i64 salt).wf = true) (hS : Sent a0 a1 w) (r : Bool) (hr : openB who seed salt sl = r) :
    Calls Tryd.prog 41 #[.int .i64 who, .int .i64 seed, .int .i64 salt, .int .i64 sl] w fun e w' => e = .returned (.bool r) ∧ Below w.heap.size w w' := by
  have HP := Lib.hid (fun wx hw => wrapped_any a0 a1 seed salt wx wb wc (hS.below (w' := wx) hw (Nat.le_refl _)))
  have HN := Lib.hid (fun wx hw => seedSeal_any a0 a1 who seed salt wx wa wb wc (hS.below (w' := wx) hw (Nat.le_refl _)))
  obtain ⟨W0, hW0⟩ : ∃ W, W = w.alloc (.cells #[.int .i64 seed, .int .i64 salt] 71) := ⟨_, rfl⟩
  have B : Below w.heap.size w W0 := by rw [hW0]; exact (Below.refl _ _).alloc (Nat.le_refl _) _
  have G : W0.heap[w.heap.size]? = some (.cells #[.int .i64 seed, .int .i64 salt] 71 (0, 0)) := by rw [hW0]; exact heap_alloc_new _ _
  have lG : w.heap.size < W0.heap.size := (Array.getElem?_eq_some_iff.1 G).1
  have HG : Hid (∀ wx, Below W0.heap.size W0 wx → wx.cell? ⟨w.heap.size, 0, none⟩ = some (.int .i64 seed) ∧ wx.cell? ⟨w.heap.size, 1, none⟩ = some (.int .i64 salt)) := Lib.hid (fun wx hb => cells2 ((hb.block _ lG).trans G))
  obtain ⟨k0, k1⟩ := cells2 G
  have HW0 := Lib.hid hW0
  have HB := Lib.hid B
  cases h1 : okSeed seed with
  | false =>
    obtain rfl : r = false := by rw [← hr]; exact open_0 h1
    have hq : (seed == seed % 1000001) = false := by have := wrap_other h1; simp; omega
    generalize seed % 1000001 = p at *
    generalize salt % 1000001 = q at *
    clear h1 hr hS G lG B hW0 wa wb wc
    go_enter Tryd.func41, Tryd.ntmps41
    go_wp2_with fail
    rw [← HW0.out]
    refine wp_region_held_drew (S := (fun w' => w'.cell? ⟨w.heap.size, 0, none⟩ = some (.int .i64 seed) ∧ w'.cell? ⟨w.heap.size, 1, none⟩ = some (.int .i64 salt))) (by kernel_rfl) ⟨k0, k1⟩ (fun hHeld => ?_)
    refine wpAnyH_take (i := 0) (oi := { dst := some 13, op := Go.Op.load 71 (Go.Operand.tmp 9), type := 71, pos := "l21_seal.go:31", after := #[], guard := none }) (v := .agg #[.int .i64 seed, .int .i64 salt]) rfl (by kernel_rfl) (by kernel_rfl) (by kernel_rfl) (fun _ _ _ h => h) (Or.inl ⟨by rfl, ?_⟩) hHeld ?_
    · intro wq hSw; obtain ⟨s0, s1⟩ := hSw; go_simp
    try simp only [Act.put, List.setIfInBounds_toArray, List.set_cons_zero, List.set_cons_succ]
    refine wpAnyH_take (i := 1) (oi := { dst := some 14, op := Go.Op.load 71 (Go.Operand.tmp 9), type := 71, pos := "l21_seal.go:31", after := #[], guard := none }) (v := .agg #[.int .i64 seed, .int .i64 salt]) rfl (by kernel_rfl) (by kernel_rfl) (by kernel_rfl) (fun _ _ _ h => h) (Or.inl ⟨by rfl, ?_⟩) hHeld ?_
    · intro wq hSw; obtain ⟨s0, s1⟩ := hSw; go_simp
    try simp only [Act.put, List.setIfInBounds_toArray, List.set_cons_zero, List.set_cons_succ]
    refine wpAnyH_ready (rs := [2]) (by kernel_rfl) (by simp) ?_
    refine AllReadyH.cons (o := { dst := some 15, op := Go.Op.call { callee := Go.Callee.value (Go.Operand.func 47), args := #[Go.Operand.tmp 14], argTypes := #[71] }, type := 71, pos := "l21_seal.go:31", after := #[{ on := 1, ground := Go.Ground.data }], guard := none }) rfl (fun K hK => ?_) AllReadyH.nil
    go_simp
    refine (HP.out _ HB.out.drew).mono ?_
    rintro e wy ⟨rfl, By⟩
    obtain ⟨y0, y1⟩ := HG.out wy ((Below.refl _ _).drew.trans By)
    go_wp2_with fail
    refine hK.out _ _ ⟨y0, y1⟩ (fun hHeld => ?_)
    clear hK K
    try simp only [Act.put, List.setIfInBounds_toArray, List.set_cons_zero, List.set_cons_succ]
    refine wpAnyH_take (i := 3) (oi := { dst := some 16, op := Go.Op.binOp Go.BinOp.eql 71 (Go.Operand.tmp 13) (Go.Operand.tmp 15) 71, type := 4, pos := "l21_seal.go:31", after := #[{ on := 0, ground := Go.Ground.data }, { on := 2, ground := Go.Ground.data }], guard := none }) (v := .bool false) rfl (by kernel_rfl) (by kernel_rfl) (by kernel_rfl) (fun _ _ _ h => h) (Or.inl ⟨by rfl, ?_⟩) hHeld ?_
    · intro wq hSw; obtain ⟨s0, s1⟩ := hSw; go_simp
    try simp only [Act.put, List.setIfInBounds_toArray, List.set_cons_zero, List.set_cons_succ]
    refine wpAnyH_take (i := 4) (oi := { dst := some 17, op := Go.Op.move (Go.Operand.tmp 16), type := 4, pos := "l21_seal.go:31", after := #[{ on := 3, ground := Go.Ground.data }, { on := 2, ground := Go.Ground.chain }], guard := none }) (v := .bool false) rfl (by kernel_rfl) (by kernel_rfl) (by kernel_rfl) (fun _ _ _ h => h) (Or.inl ⟨by rfl, ?_⟩) hHeld ?_
    · intro wq hSw; obtain ⟨s0, s1⟩ := hSw; go_simp
    try simp only [Act.put, List.setIfInBounds_toArray, List.set_cons_zero, List.set_cons_succ]
    refine wpAnyH_take (i := 5) (oi := { dst := some 18, op := Go.Op.move (Go.Operand.tmp 0), type := 3, pos := "l21_seal.go:31", after := #[{ on := 4, ground := Go.Ground.guard }], guard := some (4, true) }) (v := undef) rfl (by kernel_rfl) (by kernel_rfl) (by kernel_rfl) (fun _ _ _ h => h) (Or.inr ⟨by rfl, rfl⟩) hHeld ?_
    try simp only [Act.put, List.setIfInBounds_toArray, List.set_cons_zero, List.set_cons_succ]
    refine wpAnyH_take (i := 6) (oi := { dst := some 19, op := Go.Op.move (Go.Operand.tmp 1), type := 3, pos := "l21_seal.go:31", after := #[{ on := 4, ground := Go.Ground.guard }], guard := some (4, true) }) (v := undef) rfl (by kernel_rfl) (by kernel_rfl) (by kernel_rfl) (fun _ _ _ h => h) (Or.inr ⟨by rfl, rfl⟩) hHeld ?_
    try simp only [Act.put, List.setIfInBounds_toArray, List.set_cons_zero, List.set_cons_succ]
    refine wpAnyH_take (i := 7) (oi := { dst := some 20, op := Go.Op.move (Go.Operand.tmp 2), type := 3, pos := "l21_seal.go:31", after := #[{ on := 4, ground := Go.Ground.guard }], guard := some (4, true) }) (v := undef) rfl (by kernel_rfl) (by kernel_rfl) (by kernel_rfl) (fun _ _ _ h => h) (Or.inr ⟨by rfl, rfl⟩) hHeld ?_
    try simp only [Act.put, List.setIfInBounds_toArray, List.set_cons_zero, List.set_cons_succ]
    refine wpAnyH_take (i := 8) (oi := { dst := some 21, op := Go.Op.call { callee := Go.Callee.value (Go.Operand.func 48), args := #[Go.Operand.tmp 18, Go.Operand.tmp 19, Go.Operand.tmp 20], argTypes := #[3, 3, 3] }, type := 3, pos := "l21_seal.go:31", after := #[{ on := 5, ground := Go.Ground.data }, { on := 6, ground := Go.Ground.data }, { on := 7, ground := Go.Ground.data }, { on := 4, ground := Go.Ground.chain }, { on := 4, ground := Go.Ground.guard }], guard := some (4, true) }) (v := undef) rfl (by kernel_rfl) (by kernel_rfl) (by kernel_rfl) (fun _ _ _ h => h) (Or.inr ⟨by rfl, rfl⟩) hHeld ?_
    try simp only [Act.put, List.setIfInBounds_toArray, List.set_cons_zero, List.set_cons_succ]
    refine wpAnyH_take (i := 9) (oi := { dst := some 22, op := Go.Op.move (Go.Operand.tmp 3), type := 3, pos := "l21_seal.go:31", after := #[{ on := 4, ground := Go.Ground.guard }], guard := some (4, true) }) (v := undef) rfl (by kernel_rfl) (by kernel_rfl) (by kernel_rfl) (fun _ _ _ h => h) (Or.inr ⟨by rfl, rfl⟩) hHeld ?_
    try simp only [Act.put, List.setIfInBounds_toArray, List.set_cons_zero, List.set_cons_succ]
    refine wpAnyH_take (i := 10) (oi := { dst := some 23, op := Go.Op.binOp Go.BinOp.eql 3 (Go.Operand.tmp 21) (Go.Operand.tmp 22) 3, type := 4, pos := "l21_seal.go:31", after := #[{ on := 8, ground := Go.Ground.data }, { on := 9, ground := Go.Ground.data }, { on := 4, ground := Go.Ground.guard }], guard := some (4, true) }) (v := undef) rfl (by kernel_rfl) (by kernel_rfl) (by kernel_rfl) (fun _ _ _ h => h) (Or.inr ⟨by rfl, rfl⟩) hHeld ?_
    try simp only [Act.put, List.setIfInBounds_toArray, List.set_cons_zero, List.set_cons_succ]
    refine wpAnyH_take (i := 11) (oi := { dst := some 24, op := Go.Op.pick (Go.Operand.tmp 17) (Go.Operand.tmp 23) (Go.Operand.const (Go.Value.bool false)), type := 4, pos := "l21_seal.go:31", after := #[{ on := 4, ground := Go.Ground.data }, { on := 10, ground := Go.Ground.data }], guard := none }) (v := .bool false) rfl (by kernel_rfl) (by kernel_rfl) (by kernel_rfl) (fun _ _ _ h => h) (Or.inl ⟨by rfl, ?_⟩) hHeld ?_
    · intro wq hSw; obtain ⟨s0, s1⟩ := hSw; go_simp
    try simp only [Act.put, List.setIfInBounds_toArray, List.set_cons_zero, List.set_cons_succ]
    refine wpAnyH_take (i := 12) (oi := { dst := some 8, op := Go.Op.assign (Go.Operand.tmp 24), type := 4, pos := "l21_seal.go:31", after := #[{ on := 11, ground := Go.Ground.data }, { on := 8, ground := Go.Ground.chain }, { on := 0, ground := Go.Ground.phase }, { on := 1, ground := Go.Ground.phase }, { on := 2, ground := Go.Ground.phase }, { on := 3, ground := Go.Ground.phase }, { on := 4, ground := Go.Ground.phase }, { on := 5, ground := Go.Ground.phase }, { on := 6, ground := Go.Ground.phase }, { on := 7, ground := Go.Ground.phase }, { on := 8, ground := Go.Ground.phase }, { on := 9, ground := Go.Ground.phase }, { on := 10, ground := Go.Ground.phase }, { on := 11, ground := Go.Ground.phase }], guard := none }) (v := .bool false) rfl (by kernel_rfl) (by kernel_rfl) (by kernel_rfl) (fun _ _ _ h => h) (Or.inl ⟨by rfl, ?_⟩) hHeld ?_
    · intro wq hSw; obtain ⟨s0, s1⟩ := hSw; go_simp
    try simp only [Act.put, List.setIfInBounds_toArray, List.set_cons_zero, List.set_cons_succ]
    refine wpAnyH_done (by kernel_rfl) ?_ _
    go_wp2_with fail
    go_ret
    exact ⟨rfl, HB.out.drew.trans (By.mono HB.out.drew.size)⟩
  | true =>
    have e1 := wrap_same h1
    cases h2 : okSeed salt with
    | false =>
      obtain rfl : r = false := by rw [← hr]; exact open_1 h2
      have hq : (salt == salt % 1000001) = false := by have := wrap_other h2; simp; omega
      rw [e1] at HP
      generalize salt % 1000001 = q at *
      clear h1 h2 hr hS G lG B hW0 wa wb wc e1
      go_enter Tryd.func41, Tryd.ntmps41
      go_wp2_with fail
      rw [← HW0.out]
      refine wp_region_held_drew (S := (fun w' => w'.cell? ⟨w.heap.size, 0, none⟩ = some (.int .i64 seed) ∧ w'.cell? ⟨w.heap.size, 1, none⟩ = some (.int .i64 salt))) (by kernel_rfl) ⟨k0, k1⟩ (fun hHeld => ?_)
      refine wpAnyH_take (i := 0) (oi := { dst := some 13, op := Go.Op.load 71 (Go.Operand.tmp 9), type := 71, pos := "l21_seal.go:31", after := #[], guard := none }) (v := .agg #[.int .i64 seed, .int .i64 salt]) rfl (by kernel_rfl) (by kernel_rfl) (by kernel_rfl) (fun _ _ _ h => h) (Or.inl ⟨by rfl, ?_⟩) hHeld ?_
      · intro wq hSw; obtain ⟨s0, s1⟩ := hSw; go_simp
      try simp only [Act.put, List.setIfInBounds_toArray, List.set_cons_zero, List.set_cons_succ]
      refine wpAnyH_take (i := 1) (oi := { dst := some 14, op := Go.Op.load 71 (Go.Operand.tmp 9), type := 71, pos := "l21_seal.go:31", after := #[], guard := none }) (v := .agg #[.int .i64 seed, .int .i64 salt]) rfl (by kernel_rfl) (by kernel_rfl) (by kernel_rfl) (fun _ _ _ h => h) (Or.inl ⟨by rfl, ?_⟩) hHeld ?_
      · intro wq hSw; obtain ⟨s0, s1⟩ := hSw; go_simp
      try simp only [Act.put, List.setIfInBounds_toArray, List.set_cons_zero, List.set_cons_succ]
      refine wpAnyH_ready (rs := [2]) (by kernel_rfl) (by simp) ?_
      refine AllReadyH.cons (o := { dst := some 15, op := Go.Op.call { callee := Go.Callee.value (Go.Operand.func 47), args := #[Go.Operand.tmp 14], argTypes := #[71] }, type := 71, pos := "l21_seal.go:31", after := #[{ on := 1, ground := Go.Ground.data }], guard := none }) rfl (fun K hK => ?_) AllReadyH.nil
      go_simp
      refine (HP.out _ HB.out.drew).mono ?_
      rintro e wy ⟨rfl, By⟩
      obtain ⟨y0, y1⟩ := HG.out wy ((Below.refl _ _).drew.trans By)
      go_wp2_with fail
      refine hK.out _ _ ⟨y0, y1⟩ (fun hHeld => ?_)
      clear hK K
      try simp only [Act.put, List.setIfInBounds_toArray, List.set_cons_zero, List.set_cons_succ]
      refine wpAnyH_take (i := 3) (oi := { dst := some 16, op := Go.Op.binOp Go.BinOp.eql 71 (Go.Operand.tmp 13) (Go.Operand.tmp 15) 71, type := 4, pos := "l21_seal.go:31", after := #[{ on := 0, ground := Go.Ground.data }, { on := 2, ground := Go.Ground.data }], guard := none }) (v := .bool false) rfl (by kernel_rfl) (by kernel_rfl) (by kernel_rfl) (fun _ _ _ h => h) (Or.inl ⟨by rfl, ?_⟩) hHeld ?_
      · intro wq hSw; obtain ⟨s0, s1⟩ := hSw; go_simp
      try simp only [Act.put, List.setIfInBounds_toArray, List.set_cons_zero, List.set_cons_succ]
      refine wpAnyH_take (i := 4) (oi := { dst := some 17, op := Go.Op.move (Go.Operand.tmp 16), type := 4, pos := "l21_seal.go:31", after := #[{ on := 3, ground := Go.Ground.data }, { on := 2, ground := Go.Ground.chain }], guard := none }) (v := .bool false) rfl (by kernel_rfl) (by kernel_rfl) (by kernel_rfl) (fun _ _ _ h => h) (Or.inl ⟨by rfl, ?_⟩) hHeld ?_
      · intro wq hSw; obtain ⟨s0, s1⟩ := hSw; go_simp
      try simp only [Act.put, List.setIfInBounds_toArray, List.set_cons_zero, List.set_cons_succ]
      refine wpAnyH_take (i := 5) (oi := { dst := some 18, op := Go.Op.move (Go.Operand.tmp 0), type := 3, pos := "l21_seal.go:31", after := #[{ on := 4, ground := Go.Ground.guard }], guard := some (4, true) }) (v := undef) rfl (by kernel_rfl) (by kernel_rfl) (by kernel_rfl) (fun _ _ _ h => h) (Or.inr ⟨by rfl, rfl⟩) hHeld ?_
      try simp only [Act.put, List.setIfInBounds_toArray, List.set_cons_zero, List.set_cons_succ]
      refine wpAnyH_take (i := 6) (oi := { dst := some 19, op := Go.Op.move (Go.Operand.tmp 1), type := 3, pos := "l21_seal.go:31", after := #[{ on := 4, ground := Go.Ground.guard }], guard := some (4, true) }) (v := undef) rfl (by kernel_rfl) (by kernel_rfl) (by kernel_rfl) (fun _ _ _ h => h) (Or.inr ⟨by rfl, rfl⟩) hHeld ?_
      try simp only [Act.put, List.setIfInBounds_toArray, List.set_cons_zero, List.set_cons_succ]
      refine wpAnyH_take (i := 7) (oi := { dst := some 20, op := Go.Op.move (Go.Operand.tmp 2), type := 3, pos := "l21_seal.go:31", after := #[{ on := 4, ground := Go.Ground.guard }], guard := some (4, true) }) (v := undef) rfl (by kernel_rfl) (by kernel_rfl) (by kernel_rfl) (fun _ _ _ h => h) (Or.inr ⟨by rfl, rfl⟩) hHeld ?_
      try simp only [Act.put, List.setIfInBounds_toArray, List.set_cons_zero, List.set_cons_succ]
      refine wpAnyH_take (i := 8) (oi := { dst := some 21, op := Go.Op.call { callee := Go.Callee.value (Go.Operand.func 48), args := #[Go.Operand.tmp 18, Go.Operand.tmp 19, Go.Operand.tmp 20], argTypes := #[3, 3, 3] }, type := 3, pos := "l21_seal.go:31", after := #[{ on := 5, ground := Go.Ground.data }, { on := 6, ground := Go.Ground.data }, { on := 7, ground := Go.Ground.data }, { on := 4, ground := Go.Ground.chain }, { on := 4, ground := Go.Ground.guard }], guard := some (4, true) }) (v := undef) rfl (by kernel_rfl) (by kernel_rfl) (by kernel_rfl) (fun _ _ _ h => h) (Or.inr ⟨by rfl, rfl⟩) hHeld ?_
      try simp only [Act.put, List.setIfInBounds_toArray, List.set_cons_zero, List.set_cons_succ]
      refine wpAnyH_take (i := 9) (oi := { dst := some 22, op := Go.Op.move (Go.Operand.tmp 3), type := 3, pos := "l21_seal.go:31", after := #[{ on := 4, ground := Go.Ground.guard }], guard := some (4, true) }) (v := undef) rfl (by kernel_rfl) (by kernel_rfl) (by kernel_rfl) (fun _ _ _ h => h) (Or.inr ⟨by rfl, rfl⟩) hHeld ?_
      try simp only [Act.put, List.setIfInBounds_toArray, List.set_cons_zero, List.set_cons_succ]
      refine wpAnyH_take (i := 10) (oi := { dst := some 23, op := Go.Op.binOp Go.BinOp.eql 3 (Go.Operand.tmp 21) (Go.Operand.tmp 22) 3, type := 4, pos := "l21_seal.go:31", after := #[{ on := 8, ground := Go.Ground.data }, { on := 9, ground := Go.Ground.data }, { on := 4, ground := Go.Ground.guard }], guard := some (4, true) }) (v := undef) rfl (by kernel_rfl) (by kernel_rfl) (by kernel_rfl) (fun _ _ _ h => h) (Or.inr ⟨by rfl, rfl⟩) hHeld ?_
      try simp only [Act.put, List.setIfInBounds_toArray, List.set_cons_zero, List.set_cons_succ]
      refine wpAnyH_take (i := 11) (oi := { dst := some 24, op := Go.Op.pick (Go.Operand.tmp 17) (Go.Operand.tmp 23) (Go.Operand.const (Go.Value.bool false)), type := 4, pos := "l21_seal.go:31", after := #[{ on := 4, ground := Go.Ground.data }, { on := 10, ground := Go.Ground.data }], guard := none }) (v := .bool false) rfl (by kernel_rfl) (by kernel_rfl) (by kernel_rfl) (fun _ _ _ h => h) (Or.inl ⟨by rfl, ?_⟩) hHeld ?_
      · intro wq hSw; obtain ⟨s0, s1⟩ := hSw; go_simp
      try simp only [Act.put, List.setIfInBounds_toArray, List.set_cons_zero, List.set_cons_succ]
      refine wpAnyH_take (i := 12) (oi := { dst := some 8, op := Go.Op.assign (Go.Operand.tmp 24), type := 4, pos := "l21_seal.go:31", after := #[{ on := 11, ground := Go.Ground.data }, { on := 8, ground := Go.Ground.chain }, { on := 0, ground := Go.Ground.phase }, { on := 1, ground := Go.Ground.phase }, { on := 2, ground := Go.Ground.phase }, { on := 3, ground := Go.Ground.phase }, { on := 4, ground := Go.Ground.phase }, { on := 5, ground := Go.Ground.phase }, { on := 6, ground := Go.Ground.phase }, { on := 7, ground := Go.Ground.phase }, { on := 8, ground := Go.Ground.phase }, { on := 9, ground := Go.Ground.phase }, { on := 10, ground := Go.Ground.phase }, { on := 11, ground := Go.Ground.phase }], guard := none }) (v := .bool false) rfl (by kernel_rfl) (by kernel_rfl) (by kernel_rfl) (fun _ _ _ h => h) (Or.inl ⟨by rfl, ?_⟩) hHeld ?_
      · intro wq hSw; obtain ⟨s0, s1⟩ := hSw; go_simp
      try simp only [Act.put, List.setIfInBounds_toArray, List.set_cons_zero, List.set_cons_succ]
      refine wpAnyH_done (by kernel_rfl) ?_ _
      go_wp2_with fail
      go_ret
      exact ⟨rfl, HB.out.drew.trans (By.mono HB.out.drew.size)⟩
    | true =>
      have e2 := wrap_same h2
      rw [e1, e2] at HP
      rw [open_2 h1 h2] at hr
      generalize sealI who seed salt = t at *
      by_cases e : t = sl
      · have hq : (t == sl) = true := by simpa using e
        obtain rfl : r = true := by rw [← hr]; simpa using e
        clear h1 h2 hr hS G lG B hW0 wa wb wc e1 e2 e
        go_enter Tryd.func41, Tryd.ntmps41
        go_wp2_with fail
        rw [← HW0.out]
        go_region_held3 (fun w' => w'.cell? ⟨w.heap.size, 0, none⟩ = some (.int .i64 seed) ∧ w'.cell? ⟨w.heap.size, 1, none⟩ = some (.int .i64 salt)) (go_keep) (first
          | (go_at_call 47; refine (HP.out _ HB.out.drew).mono ?_; rintro e wy ⟨rfl, By⟩; obtain ⟨y0, y1⟩ := HG.out wy ((Below.refl _ _).drew.trans By))
          | (go_at_call 48; refine (HN.out _ (HB.out.drew.trans (By.mono HB.out.drew.size))).mono ?_; rintro e wz ⟨rfl, Bz⟩; obtain ⟨z0, z1⟩ := HG.out wz (((Below.refl _ _).drew.trans By).trans (Bz.mono By.size))))
        all_goals
          go_wp2_with fail
          go_ret
          exact ⟨rfl, (HB.out.drew.trans (By.mono HB.out.drew.size)).trans (Bz.mono (Nat.le_trans HB.out.drew.size By.size))⟩
      · have hq : (t == sl) = false := by simpa using e
        obtain rfl : r = false := by rw [← hr]; simpa using e
        clear h1 h2 hr hS G lG B hW0 wa wb wc e1 e2 e
        go_enter Tryd.func41, Tryd.ntmps41
        go_wp2_with fail
        rw [← HW0.out]
        go_region_held3 (fun w' => w'.cell? ⟨w.heap.size, 0, none⟩ = some (.int .i64 seed) ∧ w'.cell? ⟨w.heap.size, 1, none⟩ = some (.int .i64 salt)) (go_keep) (first
          | (go_at_call 47; refine (HP.out _ HB.out.drew).mono ?_; rintro e wy ⟨rfl, By⟩; obtain ⟨y0, y1⟩ := HG.out wy ((Below.refl _ _).drew.trans By))
          | (go_at_call 48; refine (HN.out _ (HB.out.drew.trans (By.mono HB.out.drew.size))).mono ?_; rintro e wz ⟨rfl, Bz⟩; obtain ⟨z0, z1⟩ := HG.out wz (((Below.refl _ _).drew.trans By).trans (Bz.mono By.size))))
        all_goals
          go_wp2_with fail
          go_ret
          exact ⟨rfl, (HB.out.drew.trans (By.mono HB.out.drew.size)).trans (Bz.mono (Nat.le_trans HB.out.drew.size By.size))⟩
end Go.Proofs.YtaginoiiomaheaaDoor
