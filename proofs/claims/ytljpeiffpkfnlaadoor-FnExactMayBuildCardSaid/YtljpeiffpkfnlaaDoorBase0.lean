/-
  Foundations: IsBase, both sides.
-/
import Derived.Test.YtljpeiffpkfnlaaDoorIn
import Derived.LoopN
namespace Go.Proofs.YtljpeiffpkfnlaaDoor
open Go.RowKit
set_option linter.unusedVariables false

def in13 (n : Int) : Bool := decide (0 ≤ n ∧ n ≤ 13)
def isBase (zs : List Int) : Bool := decide (zs.length = 4) && zs.all in13
theorem base_bad {zs : List Int} (k : Nat) (h : k < zs.length) (hb : ¬ (0 ≤ zs[k] ∧ zs[k] ≤ 13)) : isBase zs = false := by
  have e : zs.all in13 = false := by
    rw [List.all_eq_false]
    exact ⟨zs[k], List.getElem_mem _, by unfold in13; simpa using hb⟩
  unfold isBase; rw [e]; simp
theorem base_n {zs : List Int} (h : ¬ zs.length = 4) : isBase zs = false := by
  unfold isBase; rw [decide_eq_false h]; rfl
theorem base_ok {zs : List Int} (hn : zs.length = 4) (ha : ∀ j (hj : j < zs.length), 0 ≤ zs[j] ∧ zs[j] ≤ 13) : isBase zs = true := by
  have e : zs.all in13 = true := by
    rw [List.all_eq_true]
    intro x hx
    obtain ⟨j, hj, rfl⟩ := List.getElem_of_mem hx
    unfold in13; simpa using ha j hj
  unfold isBase; rw [decide_eq_true hn, e]; rfl
theorem base_t {zs : List Int} (h : isBase zs = true) : ∃ a b c d, zs = [a, b, c, d] ∧ 0 ≤ a ∧ a ≤ 13 ∧ 0 ≤ b ∧ b ≤ 13 ∧ 0 ≤ c ∧ c ≤ 13 ∧ 0 ≤ d ∧ d ≤ 13 := by
  unfold isBase at h
  simp only [Bool.and_eq_true, decide_eq_true_eq, List.all_eq_true] at h
  obtain ⟨hl, ha⟩ := h
  match zs, hl with
  | [a, b, c, d], _ =>
    have h1 := ha a (by simp)
    have h2 := ha b (by simp)
    have h3 := ha c (by simp)
    have h4 := ha d (by simp)
    unfold in13 at h1 h2 h3 h4
    simp only [decide_eq_true_eq] at h1 h2 h3 h4
    exact ⟨a, b, c, d, rfl, h1.1, h1.2, h2.1, h2.2, h3.1, h3.2, h4.1, h4.2⟩
theorem base_getD {zs : List Int} (h : isBase zs = true) (j : Nat) (hj : j < 4) : 0 ≤ zs.getD j 0 ∧ zs.getD j 0 ≤ 13 := by
  obtain ⟨a, b, c, d, rfl, h1⟩ := base_t h
  match j, hj with
  | 0, _ => exact ⟨h1.1, h1.2.1⟩
  | 1, _ => exact ⟨h1.2.2.1, h1.2.2.2.1⟩
  | 2, _ => exact ⟨h1.2.2.2.2.1, h1.2.2.2.2.2.1⟩
  | 3, _ => exact ⟨h1.2.2.2.2.2.2.1, h1.2.2.2.2.2.2.2⟩
theorem base_len {zs : List Int} (h : isBase zs = true) : zs.length = 4 := by
  obtain ⟨a, b, c, d, rfl, -⟩ := base_t h; rfl
theorem base_cell {zs : List Int} {w : World} {b off j : Nat} (h : Cells .i64 w b off zs) (hj : j < zs.length) : w.cell? ⟨b, off + j, none⟩ = some (.int .i64 (zs.getD j 0)) := by
  rw [h j hj]; simp [List.getD, hj]

set_option maxRecDepth 100000 in
set_option maxHeartbeats 1000000 in
theorem sIsBase_r (v : Value) (zs : List Int) (b : Nat) (w : World) (h : RdAt .i64 w v zs b) (hl : zs.length ≤ 1099511627776) (r : Bool) (hr : isBase zs = r) :
    Calls Tryd.prog 33 #[v] w fun e w' => e = .returned (.bool r) ∧ w = w' := by
  obtain ⟨a, cap, rfl, -, -, hcell⟩ := h
  obtain ⟨n, hn⟩ : ∃ n, n = zs.length := ⟨_, rfl⟩
  have Hn := Lib.hid hn
  have Hr : Hid (r = isBase zs) := Lib.hid hr.symm
  rw [← hn] at hl ⊢
  clear hr hn
  go_enter Tryd.func33, Tryd.ntmps33
  go_wp2_with fail
  go_loop [3] (fun i => ∃ (k : Nat), k ≤ n ∧ i = .int .i64 k ∧ Hid (∀ j (hj : j < zs.length), j < k → 0 ≤ zs[j] ∧ zs[j] ≤ 13)) (fun i => n - (intOf i).toNat)
  case atStart => exact ⟨0, Nat.zero_le _, rfl, Lib.hid (fun j _ h => by omega)⟩
  case round =>
    obtain ⟨k, hk, rfl, hall⟩ := hrel
    by_cases hlt : k < n
    · have hz : k < zs.length := by rw [← Hn.out]; exact hlt
      rcases hcell with h0 | ⟨off, rfl, hc⟩
      · subst h0; simp at hz
      obtain ⟨y, hy⟩ : ∃ y, Hid (y = zs[k]) := ⟨_, Lib.hid rfl⟩
      have h1 : w.cell? ⟨b, off + k, none⟩ = some (.int .i64 y) := by rw [hc k hz, hy.out]
      clear hc
      by_cases hyr : 0 ≤ y ∧ y ≤ 13
      · have HJ := Lib.hid (fun wx => inM_any y 0 13 wx true (by simpa using hyr))
        have hall2 : Hid (∀ j (hj : j < zs.length), j < k + 1 → 0 ≤ zs[j] ∧ zs[j] ≤ 13) := Lib.hid (fun j hj hjk => by
          by_cases e : j = k
          · subst e; rw [← hy.out]; exact hyr
          · exact hall.out j hj (by omega))
        clear hyr
        go_wp2_with fail
        refine (HJ.out _).mono ?_
        rintro e _w ⟨rfl, rfl⟩
        go_wp2_with fail
        go_round
        case rel => exact ⟨k + 1, by omega, by go_num, hall2⟩
        case measure => simp [intOf]; omega
      · have HJ := Lib.hid (fun wx => inM_any y 0 13 wx false (by simp only [decide_eq_false hyr]))
        have Hf : Hid (r = false) := Lib.hid (by rw [Hr.out]; exact base_bad k hz (by rw [← hy.out]; exact hyr))
        clear hyr
        go_wp2_with fail
        refine (HJ.out _).mono ?_
        rintro e _w ⟨rfl, rfl⟩
        go_wp2_with fail
        go_ret
        exact ⟨by rw [Hf.out]; rfl, rfl⟩
    · obtain rfl : k = n := by omega
      by_cases hn4 : k = 4
      · have hq : ((k : Int) == 4) = true := by simp; omega
        have Hf : Hid (r = true) := Lib.hid (by
          rw [Hr.out, base_ok (by rw [← Hn.out]; exact hn4) (fun j hj => hall.out j hj (by rw [Hn.out]; exact hj))])
        clear hn4
        go_wp2_with fail
        go_ret
        exact ⟨by rw [Hf.out]; rfl, rfl⟩
      · have hq : ((k : Int) == 4) = false := by simp; omega
        have Hf : Hid (r = false) := Lib.hid (by rw [Hr.out]; exact base_n (by rw [← Hn.out]; exact hn4))
        clear hn4
        go_wp2_with fail
        go_ret
        exact ⟨by rw [Hf.out]; rfl, rfl⟩
def agg4 (a b c d : Int) : Value := .agg #[.int .i64 a, .int .i64 b, .int .i64 c, .int .i64 d]
theorem below_two (w : World) (o1 o2 : Obj) : Below w.heap.size w ((w.alloc o1).alloc o2) := ((Below.refl w.heap.size w).alloc (Nat.le_refl _) o1).alloc (by simp) o2
set_option maxRecDepth 100000 in
set_option maxHeartbeats 2000000 in
theorem foundationOf_n (p : Option Addr) (n cap : Nat) (w : World) (hn : ¬ n = 4) (hl : n ≤ 1099511627776) :
    Calls Tryd.prog 35 #[.slice p n cap] w fun e w' => e = .returned (.tuple #[agg4 0 0 0 0, .bool false]) ∧ Below w.heap.size w w' := by
  have hq : ((n : Int) != 4) = true := by simp; omega
  go_enter Tryd.func35, Tryd.ntmps35
  go_wp2
  exact bodyPost_ret (v := .tuple #[agg4 0 0 0 0, .bool false]) (by simp [results, Tryd.results35, go_sem, agg4]) rfl ⟨rfl, below_two _ _ _⟩
set_option maxRecDepth 100000 in
set_option maxHeartbeats 2000000 in
theorem foundationOf_b0 (blk off cap : Nat) (x0 x1 x2 x3 : Int) (w : World) (h0 : w.cell? ⟨blk, off, none⟩ = some (.int .i64 x0)) (h1 : w.cell? ⟨blk, off + 1, none⟩ = some (.int .i64 x1)) (h2 : w.cell? ⟨blk, off + 2, none⟩ = some (.int .i64 x2)) (h3 : w.cell? ⟨blk, off + 3, none⟩ = some (.int .i64 x3))
    (hb : blk < w.heap.size)  (r0 : ¬ (0 ≤ x0 ∧ x0 ≤ 13)) :
    Calls Tryd.prog 35 #[.slice (some ⟨blk, off, none⟩) 4 cap] w fun e w' => e = .returned (.tuple #[agg4 0 0 0 0, .bool false]) ∧ Below w.heap.size w w' := by
  have I0 := Lib.hid (fun wx => inR_any x0 0 13 wx false (by simp only [decide_eq_false r0]))
  clear r0
  go_enter Tryd.func35, Tryd.ntmps35
  go_wp2_with fail
  refine wp_loop_rounds 5 ?_
  rw [rounds_succ]
  go_wp2_with fail
  refine (I0.out _).mono ?_
  rintro e _w ⟨rfl, rfl⟩
  go_wp2_with fail
  exact bodyPost_ret (v := .tuple #[agg4 0 0 0 0, .bool false]) (by simp [results, Tryd.results35, go_sem, agg4]) rfl ⟨rfl, below_two _ _ _⟩
set_option maxRecDepth 100000 in
set_option maxHeartbeats 2000000 in
theorem foundationOf_b1 (blk off cap : Nat) (x0 x1 x2 x3 : Int) (w : World) (h0 : w.cell? ⟨blk, off, none⟩ = some (.int .i64 x0)) (h1 : w.cell? ⟨blk, off + 1, none⟩ = some (.int .i64 x1)) (h2 : w.cell? ⟨blk, off + 2, none⟩ = some (.int .i64 x2)) (h3 : w.cell? ⟨blk, off + 3, none⟩ = some (.int .i64 x3))
    (hb : blk < w.heap.size) (r0 : 0 ≤ x0 ∧ x0 ≤ 13) (r1 : ¬ (0 ≤ x1 ∧ x1 ≤ 13)) :
    Calls Tryd.prog 35 #[.slice (some ⟨blk, off, none⟩) 4 cap] w fun e w' => e = .returned (.tuple #[agg4 0 0 0 0, .bool false]) ∧ Below w.heap.size w w' := by
  have I0 := Lib.hid (fun wx => inR_any x0 0 13 wx true (by simpa using r0))
  have I1 := Lib.hid (fun wx => inR_any x1 0 13 wx false (by simp only [decide_eq_false r1]))
  clear r0 r1
  go_enter Tryd.func35, Tryd.ntmps35
  go_wp2_with fail
  refine wp_loop_rounds 5 ?_
  rw [rounds_succ]
  go_wp2_with fail
  refine (I0.out _).mono ?_
  rintro e _w ⟨rfl, rfl⟩
  go_wp2_with fail
  rw [rounds_succ]
  go_wp2_with fail
  refine (I1.out _).mono ?_
  rintro e _w ⟨rfl, rfl⟩
  go_wp2_with fail
  exact bodyPost_ret (v := .tuple #[agg4 0 0 0 0, .bool false]) (by simp [results, Tryd.results35, go_sem, agg4]) rfl ⟨rfl, below_two _ _ _⟩
set_option maxRecDepth 100000 in
set_option maxHeartbeats 2000000 in
theorem foundationOf_b2 (blk off cap : Nat) (x0 x1 x2 x3 : Int) (w : World) (h0 : w.cell? ⟨blk, off, none⟩ = some (.int .i64 x0)) (h1 : w.cell? ⟨blk, off + 1, none⟩ = some (.int .i64 x1)) (h2 : w.cell? ⟨blk, off + 2, none⟩ = some (.int .i64 x2)) (h3 : w.cell? ⟨blk, off + 3, none⟩ = some (.int .i64 x3))
    (hb : blk < w.heap.size) (r0 : 0 ≤ x0 ∧ x0 ≤ 13) (r1 : 0 ≤ x1 ∧ x1 ≤ 13) (r2 : ¬ (0 ≤ x2 ∧ x2 ≤ 13)) :
    Calls Tryd.prog 35 #[.slice (some ⟨blk, off, none⟩) 4 cap] w fun e w' => e = .returned (.tuple #[agg4 0 0 0 0, .bool false]) ∧ Below w.heap.size w w' := by
  have I0 := Lib.hid (fun wx => inR_any x0 0 13 wx true (by simpa using r0))
  have I1 := Lib.hid (fun wx => inR_any x1 0 13 wx true (by simpa using r1))
  have I2 := Lib.hid (fun wx => inR_any x2 0 13 wx false (by simp only [decide_eq_false r2]))
  clear r0 r1 r2
  go_enter Tryd.func35, Tryd.ntmps35
  go_wp2_with fail
  refine wp_loop_rounds 5 ?_
  rw [rounds_succ]
  go_wp2_with fail
  refine (I0.out _).mono ?_
  rintro e _w ⟨rfl, rfl⟩
  go_wp2_with fail
  rw [rounds_succ]
  go_wp2_with fail
  refine (I1.out _).mono ?_
  rintro e _w ⟨rfl, rfl⟩
  go_wp2_with fail
  rw [rounds_succ]
  go_wp2_with fail
  refine (I2.out _).mono ?_
  rintro e _w ⟨rfl, rfl⟩
  go_wp2_with fail
  exact bodyPost_ret (v := .tuple #[agg4 0 0 0 0, .bool false]) (by simp [results, Tryd.results35, go_sem, agg4]) rfl ⟨rfl, below_two _ _ _⟩
set_option maxRecDepth 100000 in
set_option maxHeartbeats 2000000 in
theorem foundationOf_b3 (blk off cap : Nat) (x0 x1 x2 x3 : Int) (w : World) (h0 : w.cell? ⟨blk, off, none⟩ = some (.int .i64 x0)) (h1 : w.cell? ⟨blk, off + 1, none⟩ = some (.int .i64 x1)) (h2 : w.cell? ⟨blk, off + 2, none⟩ = some (.int .i64 x2)) (h3 : w.cell? ⟨blk, off + 3, none⟩ = some (.int .i64 x3))
    (hb : blk < w.heap.size) (r0 : 0 ≤ x0 ∧ x0 ≤ 13) (r1 : 0 ≤ x1 ∧ x1 ≤ 13) (r2 : 0 ≤ x2 ∧ x2 ≤ 13) (r3 : ¬ (0 ≤ x3 ∧ x3 ≤ 13)) :
    Calls Tryd.prog 35 #[.slice (some ⟨blk, off, none⟩) 4 cap] w fun e w' => e = .returned (.tuple #[agg4 0 0 0 0, .bool false]) ∧ Below w.heap.size w w' := by
  have I0 := Lib.hid (fun wx => inR_any x0 0 13 wx true (by simpa using r0))
  have I1 := Lib.hid (fun wx => inR_any x1 0 13 wx true (by simpa using r1))
  have I2 := Lib.hid (fun wx => inR_any x2 0 13 wx true (by simpa using r2))
  have I3 := Lib.hid (fun wx => inR_any x3 0 13 wx false (by simp only [decide_eq_false r3]))
  clear r0 r1 r2 r3
  go_enter Tryd.func35, Tryd.ntmps35
  go_wp2_with fail
  refine wp_loop_rounds 5 ?_
  rw [rounds_succ]
  go_wp2_with fail
  refine (I0.out _).mono ?_
  rintro e _w ⟨rfl, rfl⟩
  go_wp2_with fail
  rw [rounds_succ]
  go_wp2_with fail
  refine (I1.out _).mono ?_
  rintro e _w ⟨rfl, rfl⟩
  go_wp2_with fail
  rw [rounds_succ]
  go_wp2_with fail
  refine (I2.out _).mono ?_
  rintro e _w ⟨rfl, rfl⟩
  go_wp2_with fail
  rw [rounds_succ]
  go_wp2_with fail
  refine (I3.out _).mono ?_
  rintro e _w ⟨rfl, rfl⟩
  go_wp2_with fail
  exact bodyPost_ret (v := .tuple #[agg4 0 0 0 0, .bool false]) (by simp [results, Tryd.results35, go_sem, agg4]) rfl ⟨rfl, below_two _ _ _⟩
set_option maxRecDepth 100000 in
set_option maxHeartbeats 2000000 in
theorem foundationOf_y (blk off cap : Nat) (x0 x1 x2 x3 : Int) (w : World) (h0 : w.cell? ⟨blk, off, none⟩ = some (.int .i64 x0)) (h1 : w.cell? ⟨blk, off + 1, none⟩ = some (.int .i64 x1)) (h2 : w.cell? ⟨blk, off + 2, none⟩ = some (.int .i64 x2)) (h3 : w.cell? ⟨blk, off + 3, none⟩ = some (.int .i64 x3))
    (hb : blk < w.heap.size) (r0 : 0 ≤ x0 ∧ x0 ≤ 13) (r1 : 0 ≤ x1 ∧ x1 ≤ 13) (r2 : 0 ≤ x2 ∧ x2 ≤ 13) (r3 : 0 ≤ x3 ∧ x3 ≤ 13) :
    Calls Tryd.prog 35 #[.slice (some ⟨blk, off, none⟩) 4 cap] w fun e w' => e = .returned (.tuple #[agg4 x0 x1 x2 x3, .bool true]) ∧ Below w.heap.size w w' := by
  have I0 := Lib.hid (fun wx => inR_any x0 0 13 wx true (by simpa using r0))
  have I1 := Lib.hid (fun wx => inR_any x1 0 13 wx true (by simpa using r1))
  have I2 := Lib.hid (fun wx => inR_any x2 0 13 wx true (by simpa using r2))
  have I3 := Lib.hid (fun wx => inR_any x3 0 13 wx true (by simpa using r3))
  clear r0 r1 r2 r3
  go_enter Tryd.func35, Tryd.ntmps35
  go_wp2_with fail
  refine wp_loop_rounds 5 ?_
  rw [rounds_succ]
  go_wp2_with fail
  refine (I0.out _).mono ?_
  rintro e _w ⟨rfl, rfl⟩
  go_wp2_with fail
  rw [rounds_succ]
  go_wp2_with fail
  refine (I1.out _).mono ?_
  rintro e _w ⟨rfl, rfl⟩
  go_wp2_with fail
  rw [rounds_succ]
  go_wp2_with fail
  refine (I2.out _).mono ?_
  rintro e _w ⟨rfl, rfl⟩
  go_wp2_with fail
  rw [rounds_succ]
  go_wp2_with fail
  refine (I3.out _).mono ?_
  rintro e _w ⟨rfl, rfl⟩
  go_wp2_with fail
  rw [rounds_succ]
  go_wp2_with fail
  exact bodyPost_ret (v := .tuple #[agg4 x0 x1 x2 x3, .bool true]) (by simp [results, Tryd.results35, go_sem, agg4]) rfl ⟨rfl, below_two _ _ _⟩
theorem found_t (v : Value) (x0 x1 x2 x3 : Int) (b : Nat) (w : World) (h : RdAt .i64 w v [x0, x1, x2, x3] b) (hb : isBase [x0, x1, x2, x3] = true) :
    Calls Tryd.prog 35 #[v] w fun e w' => e = .returned (.tuple #[agg4 x0 x1 x2 x3, .bool true]) ∧ Below w.heap.size w w' := by
  rcases h.open with ⟨h0, -⟩ | ⟨hz, off, cap, rfl, -, hc⟩
  · cases h0
  have c0 := hc 0 (by simp)
  have c1 := hc 1 (by simp)
  have c2 := hc 2 (by simp)
  have c3 := hc 3 (by simp)
  have g0 := base_getD hb 0 (by omega)
  have g1 := base_getD hb 1 (by omega)
  have g2 := base_getD hb 2 (by omega)
  have g3 := base_getD hb 3 (by omega)
  exact foundationOf_y b off cap x0 x1 x2 x3 w c0 c1 c2 c3 (h.lt hz) g0 g1 g2 g3
theorem found_f (v : Value) (zs : List Int) (b : Nat) (w : World) (h : RdAt .i64 w v zs b) (hl : zs.length ≤ 1099511627776) (hb : isBase zs = false) :
    Calls Tryd.prog 35 #[v] w fun e w' => e = .returned (.tuple #[agg4 0 0 0 0, .bool false]) ∧ Below w.heap.size w w' := by
  by_cases hn : zs.length = 4
  · match zs, hn with
    | [x0, x1, x2, x3], _ =>
      rcases h.open with ⟨h0, -⟩ | ⟨hz, off, cap, rfl, -, hc⟩
      · cases h0
      have c0 := hc 0 (by simp)
      have c1 := hc 1 (by simp)
      have c2 := hc 2 (by simp)
      have c3 := hc 3 (by simp)
      have hlt := h.lt hz
      by_cases r0 : 0 ≤ x0 ∧ x0 ≤ 13
      case neg => exact foundationOf_b0 b off cap x0 x1 x2 x3 w c0 c1 c2 c3 hlt r0
      by_cases r1 : 0 ≤ x1 ∧ x1 ≤ 13
      case neg => exact foundationOf_b1 b off cap x0 x1 x2 x3 w c0 c1 c2 c3 hlt r0 r1
      by_cases r2 : 0 ≤ x2 ∧ x2 ≤ 13
      case neg => exact foundationOf_b2 b off cap x0 x1 x2 x3 w c0 c1 c2 c3 hlt r0 r1 r2
      by_cases r3 : 0 ≤ x3 ∧ x3 ≤ 13
      case neg => exact foundationOf_b3 b off cap x0 x1 x2 x3 w c0 c1 c2 c3 hlt r0 r1 r2 r3
      have := base_ok (zs := [x0, x1, x2, x3]) rfl (fun j hj => by
        match j, hj with
        | 0, _ => exact r0
        | 1, _ => exact r1
        | 2, _ => exact r2
        | 3, _ => exact r3)
      rw [this] at hb; cases hb
  · obtain ⟨p, cap, rfl, -⟩ := id h
    exact foundationOf_n p zs.length cap w hn hl
end Go.Proofs.YtljpeiffpkfnlaaDoor
