/-
  Tallies of a record: CountTakes, LongestPlays, both sides.
-/
import Derived.Test.YtjlcmocepnlibaaMarksI
import Derived.Test.YtjlcmocepnlibaaMinMax
import Derived.Test.YtjlcmocepnlibaaCard
import Derived.Laws.Rows
import Derived.Deep.RegionHeld3
namespace Go.Proofs.Ytjlcmocepnlibaa
open Go.RowKit
set_option linter.unusedVariables false

/-- What the moves show: how many were cards taken, how many cards stand in a row at the end, the longest row. -/
def talStep (p : Nat × Nat × Nat) (x : Int) : Nat × Nat × Nat :=
  if isCard x = true then (p.1, p.2.1 + 1, if p.2.2 < p.2.1 + 1 then p.2.1 + 1 else p.2.2) else if x = -1 then (p.1 + 1, 0, p.2.2) else (p.1, 0, p.2.2)
def tal (zs : List Int) : Nat × Nat × Nat := zs.foldl talStep (0, 0, 0)
theorem tal_take (zs : List Int) (k : Nat) (h : k < zs.length) : tal (zs.take (k + 1)) = talStep (tal (zs.take k)) (zs.getD k 0) := by
  unfold tal
  rw [List.take_succ_eq_append_getElem h, List.foldl_append]
  simp [List.getD, h]
theorem tal_card {p : Nat × Nat × Nat} {x : Int} (h : isCard x = true) : talStep p x = (p.1, p.2.1 + 1, if p.2.2 < p.2.1 + 1 then p.2.1 + 1 else p.2.2) := by unfold talStep; rw [if_pos h]
theorem tal_take1 {p : Nat × Nat × Nat} : talStep p (-1) = (p.1 + 1, 0, p.2.2) := by unfold talStep; rw [if_neg (by decide), if_pos rfl]
theorem tal_else {p : Nat × Nat × Nat} {x : Int} (h : isCard x = false) (h2 : x ≠ -1) : talStep p x = (p.1, 0, p.2.2) := by unfold talStep; rw [h, if_neg (by simp), if_neg h2]
theorem tal_le (zs : List Int) : ∀ k, k ≤ zs.length → (tal (zs.take k)).1 ≤ k ∧ (tal (zs.take k)).2.1 ≤ k ∧ (tal (zs.take k)).2.2 ≤ k := by
  intro k
  induction k with
  | zero => intro _; simp [tal]
  | succ k ih =>
    intro h
    obtain ⟨h1, h2, h3⟩ := ih (by omega)
    rw [tal_take zs k (by omega)]
    generalize tal (zs.take k) = p at *
    generalize zs.getD k 0 = x
    unfold talStep
    split
    · refine ⟨by omega, by simp; omega, ?_⟩
      simp only []
      split <;> omega
    · split
      · exact ⟨by simp; omega, by simp, by simp; omega⟩
      · exact ⟨by simp; omega, by simp, by simp; omega⟩
theorem tal_set {w : World} {b : Nat} {c : Array Value} {t : TypeId} {fr : Nat × Nat} (h : w.heap[b]? = some (.cells c t fr)) (i : Nat) (v : Value) : (w.setCell ⟨b, i, none⟩ v).heap[b]? = some (.cells (c.setIfInBounds i v) t fr) := by
  simp [World.setCell, Array.getElem?_modify, h]
theorem tal_cells {w : World} {b : Nat} {a0 a1 a2 : Value} {t : TypeId} (h : w.heap[b]? = some (.cells #[a0, a1, a2] t (0, 0))) :
    w.cell? ⟨b, 0, none⟩ = some a0 ∧ w.cell? ⟨b, 1, none⟩ = some a1 ∧ w.cell? ⟨b, 2, none⟩ = some a2 ∧ w.frozen? ⟨b, 0, none⟩ = false ∧ w.frozen? ⟨b, 1, none⟩ = false ∧ w.frozen? ⟨b, 2, none⟩ = false := by
  simp [World.cell?, World.frozen?, h]
theorem cells_at {w w1 : World} {zs : List Int} {a : Option Addr} {b : Nat} {n : Nat} (B : Below n w w1) (hb : zs ≠ [] → b < n)
    (hc : zs = [] ∨ ∃ off, a = some ⟨b, off, none⟩ ∧ ∀ j (hj : j < zs.length), w.cell? ⟨b, off + j, none⟩ = some (.int .i64 zs[j])) {k : Nat} (hk : k < zs.length) :
    ∃ off, a = some ⟨b, off, none⟩ ∧ w1.cell? ⟨b, off + k, none⟩ = some (.int .i64 (zs.getD k 0)) := by
  rcases hc with h0 | ⟨off, e, hc⟩
  · subst h0; simp at hk
  · refine ⟨off, e, ?_⟩
    rw [B.cell (hb (by intro e; subst e; simp at hk)), hc k hk]
    simp [List.getD, hk]
def tallyO (p : Nat × Nat × Nat) : Obj := .cells #[.int .i64 p.1, .int .i64 p.2.1, .int .i64 p.2.2] 84
set_option maxRecDepth 100000 in
set_option maxHeartbeats 1000000 in
theorem tallyAdd_any (b : Nat) (p : Nat × Nat × Nat) (x : Int) (w : World) (h : w.heap[b]? = some (tallyO p)) (h1 : p.1 ≤ 1099511627776) (h2 : p.2.1 ≤ 1099511627776) (h3 : p.2.2 ≤ 1099511627776) :
    Calls Try.prog 100 #[.pointer (some ⟨b, 0, none⟩), .int .i64 x] w fun e w' => e = .returned (.tuple #[]) ∧ w'.heap[b]? = some (tallyO (talStep p x)) ∧ Below b w w' := by
  obtain ⟨t, r, l⟩ := p
  unfold tallyO at h ⊢
  dsimp only at h h1 h2 h3
  obtain ⟨c0, c1, c2, z0, z1, z2⟩ := tal_cells h
  have hbl : b < w.heap.size := (Array.getElem?_eq_some_iff.1 h).1
  cases hcd : isCard x with
  | true =>
    rw [tal_card hcd]
    dsimp only
    have HC := Lib.hid (isCard_r x w _ hcd)
    have N1 := tal_set h 1 (.int .i64 ((r : Int) + 1))
    simp only [List.setIfInBounds_toArray, List.set_cons_zero, List.set_cons_succ] at N1
    have B1 : Below b w (w.setCell ⟨b, 1, none⟩ (.int .i64 ((r : Int) + 1))) := (Below.refl b w).setCell (Nat.le_refl _) _
    obtain ⟨W1, hW1⟩ : ∃ W, W = w.setCell ⟨b, 1, none⟩ (.int .i64 ((r : Int) + 1)) := ⟨_, rfl⟩
    rw [← hW1] at N1 B1
    have HW1 := Lib.hid hW1
    obtain ⟨m, hm⟩ : ∃ m : Nat, maxI (l : Int) ((r : Int) + 1) = m ∧ m = (if l < r + 1 then r + 1 else l) := by
      unfold maxI
      by_cases q : l < r + 1
      · rw [if_pos (by omega), if_pos q]; exact ⟨r + 1, by simp, rfl⟩
      · rw [if_neg (by omega), if_neg q]; exact ⟨l, rfl, rfl⟩
    rw [← hm.2]
    have HM : Hid (∀ wx, Calls Try.prog 109 #[.int .i64 l, .int .i64 ((r : Int) + 1)] wx fun e w' => e = .returned (.int .i64 m) ∧ Below wx.heap.size wx w') := Lib.hid (fun wx => by rw [← hm.1]; exact max_any _ _ wx)
    have HG : Hid (∀ wx, Below (b + 1) W1 wx → wx.cell? ⟨b, 1, none⟩ = some (.int .i64 ((r : Int) + 1)) ∧ wx.cell? ⟨b, 2, none⟩ = some (.int .i64 l) ∧ wx.frozen? ⟨b, 2, none⟩ = false ∧
        (wx.setCell ⟨b, 2, none⟩ (.int .i64 m)).heap[b]? = some (.cells #[.int .i64 t, .int .i64 ((r + 1 : Nat) : Int), .int .i64 m] 84)) := Lib.hid (fun wx hb => by
      have N2 := (hb.block b (by omega)).trans N1
      obtain ⟨-, d1, d2, -, -, y2⟩ := tal_cells N2
      refine ⟨d1, d2, y2, ?_⟩
      have := tal_set N2 2 (.int .i64 m)
      simpa using this)
    have hW1b : b + 1 ≤ W1.heap.size := by rw [hW1]; simp [World.setCell]; omega
    have Hm := Lib.hid hm.2
    obtain ⟨g1, g2, g3, -⟩ := HG.out W1 (Below.refl _ _)
    clear h hcd hm hW1 N1
    go_enter Try.func100, Try.ntmps100
    go_wp2_with fail
    refine HC.out.mono ?_
    rintro e _w ⟨rfl, rfl⟩
    go_wp2_with fail
    rw [← HW1.out]
    go_region_with (go_at_call 109; refine (HM.out _).mono ?_; rintro e wy ⟨rfl, By⟩; obtain ⟨y1, y2, y3, N3⟩ := HG.out wy (Below.trans ((Below.refl _ _).drew) (By.mono hW1b)))
    all_goals
      go_wp2_with fail
      go_end0
      exact ⟨rfl, by simpa using N3, ((B1.drew).trans (By.mono (by show b ≤ W1.heap.size; omega))).setCell (Nat.le_refl _) _⟩
  | false =>
    have HC := Lib.hid (isCard_r x w _ hcd)
    by_cases hx : x = -1
    · subst hx
      rw [tal_take1]
      dsimp only
      have N1 := tal_set h 0 (.int .i64 ((t : Int) + 1))
      simp only [List.setIfInBounds_toArray, List.set_cons_zero, List.set_cons_succ] at N1
      have N2 := tal_set N1 1 (.int .i64 0)
      simp only [List.setIfInBounds_toArray, List.set_cons_zero, List.set_cons_succ] at N2
      have B1 : Below b w ((w.setCell ⟨b, 0, none⟩ (.int .i64 ((t : Int) + 1))).setCell ⟨b, 1, none⟩ (.int .i64 0)) := ((Below.refl b w).setCell (Nat.le_refl _) _).setCell (Nat.le_refl _) _
      have N2 := Lib.hid N2
      clear h hcd N1
      go_enter Try.func100, Try.ntmps100
      go_wp2_with fail
      refine HC.out.mono ?_
      rintro e _w ⟨rfl, rfl⟩
      go_wp2_with fail
      go_end0
      exact ⟨rfl, N2.out, B1⟩
    · rw [tal_else hcd hx]
      dsimp only
      have hq : (x == -1) = false := by simpa using hx
      have N1 := tal_set h 1 (.int .i64 0)
      simp only [List.setIfInBounds_toArray, List.set_cons_zero, List.set_cons_succ] at N1
      have B1 : Below b w (w.setCell ⟨b, 1, none⟩ (.int .i64 0)) := (Below.refl b w).setCell (Nat.le_refl _) _
      have N1 := Lib.hid N1
      clear h hcd hx
      go_enter Try.func100, Try.ntmps100
      go_wp2_with fail
      refine HC.out.mono ?_
      rintro e _w ⟨rfl, rfl⟩
      go_wp2_with fail
      go_end0
      exact ⟨rfl, N1.out, B1⟩
theorem two_boxesT (w : World) (o1 o2 : Obj) : ((w.alloc o1).alloc o2).heap[w.heap.size]? = some o1 ∧ ((w.alloc o1).alloc o2).heap[w.heap.size + 1]? = some o2 := by
  refine ⟨?_, ?_⟩ <;> show ((w.heap.push o1).push o2)[_]? = _
  · rw [Array.getElem?_push, if_neg (by simp)]; simp
  · rw [Array.getElem?_push, if_pos (by simp)]
set_option maxRecDepth 100000 in
set_option maxHeartbeats 1000000 in
theorem tallyOf_any (v : Value) (zs : List Int) (b : Nat) (w : World) (h : RdAt .i64 w v zs b) (hl : zs.length ≤ 1048576) :
    Calls Try.prog 71 #[v] w fun e w' => e = .returned (.agg #[.int .i64 (tal zs).1, .int .i64 (tal zs).2.1, .int .i64 (tal zs).2.2]) ∧ Below w.heap.size w w' := by
  obtain ⟨⟨t, r, l⟩, hp⟩ : ∃ p, p = tal zs := ⟨_, rfl⟩
  rw [← hp]
  have Hp := Lib.hid hp
  clear hp
  dsimp only
  have hlt0 := h.lt
  obtain ⟨a, cap, rfl, -, -, hcell⟩ := h
  obtain ⟨n, hn⟩ : ∃ n, n = zs.length := ⟨_, rfl⟩
  have Hn := Lib.hid hn
  rw [← hn] at hl ⊢
  clear hn
  obtain ⟨W0, hW0⟩ : ∃ W, W = (w.alloc (tallyO (0, 0, 0))).alloc (tallyO (0, 0, 0)) := ⟨_, rfl⟩
  have HS0 : Hid (Below w.heap.size w W0 ∧ W0.heap[w.heap.size]? = some (tallyO (0, 0, 0)) ∧ W0.heap[w.heap.size + 1]? = some (tallyO (tal (zs.take 0)))) := Lib.hid (by
    rw [hW0]
    obtain ⟨t1, t2⟩ := two_boxesT w (tallyO (0, 0, 0)) (tallyO (0, 0, 0))
    exact ⟨((Below.refl w.heap.size w).alloc (Nat.le_refl _) _).alloc (by simp) _, t1, t2⟩)
  have HW0 := Lib.hid hW0
  clear hW0
  have HCl : Hid (∀ wx, Below w.heap.size w wx → ∀ k, k < n → ∃ off, a = some ⟨b, off, none⟩ ∧ wx.cell? ⟨b, off + k, none⟩ = some (.int .i64 (zs.getD k 0))) := Lib.hid (fun wx hb k hk => cells_at hb hlt0 hcell (by rw [← Hn.out]; exact hk))
  clear hlt0 hcell
  have HT : Hid (tallyO (0, 0, 0) = .cells #[.int .i64 0, .int .i64 0, .int .i64 0] 84) := Lib.hid rfl
  go_enter Try.func71, Try.ntmps71
  go_wp2_with fail
  rw [← HT.out, ← HW0.out]
  go_wp2_with fail
  go_loopw [5, 8] (fun _ i wr => ∃ k : Nat, k ≤ n ∧ i = .int .i64 k ∧ Hid (Below w.heap.size w wr ∧ wr.heap[w.heap.size]? = some (tallyO (0, 0, 0)) ∧ wr.heap[w.heap.size + 1]? = some (tallyO (tal (zs.take k))))) (fun _ i _ => n - (intOf i).toNat)
  case atStart => exact ⟨0, Nat.zero_le _, rfl, HS0⟩
  case round =>
    clear HS0 HW0
    obtain ⟨k, hk, rfl, hst⟩ := hrel
    by_cases hlt : k < n
    · obtain ⟨off, hp, hc⟩ := HCl.out wr hst.out.1 k hlt
      subst hp
      obtain ⟨y, hy⟩ : ∃ y, Hid (zs.getD k 0 = y) := ⟨_, Lib.hid rfl⟩
      rw [hy.out] at hc
      have HA : Hid (Calls Try.prog 100 #[.pointer (some ⟨w.heap.size + 1, 0, none⟩), .int .i64 y] wr fun e w' => e = .returned (.tuple #[]) ∧
          Hid (Below w.heap.size w w' ∧ w'.heap[w.heap.size]? = some (tallyO (0, 0, 0)) ∧ w'.heap[w.heap.size + 1]? = some (tallyO (tal (zs.take (k + 1)))))) := Lib.hid (by
        obtain ⟨B, g0, g1⟩ := hst.out
        have hkz : k < zs.length := by rw [← Hn.out]; exact hlt
        obtain ⟨l1, l2, l3⟩ := tal_le zs k (by omega)
        refine (tallyAdd_any (w.heap.size + 1) _ y wr g1 (by omega) (by omega) (by omega)).mono ?_
        rintro e w2 ⟨rfl, g2, bb⟩
        refine ⟨rfl, Lib.hid ⟨B.trans (bb.mono (by omega)), (bb.block _ (by omega)).trans g0, ?_⟩⟩
        rw [tal_take zs k hkz, hy.out]; exact g2)
      clear hst
      go_wp2_with fail
      refine HA.out.mono ?_
      rintro e w2 ⟨rfl, hst2⟩
      go_wp2_with fail
      go_roundw
      case rel => exact ⟨k + 1, by omega, by go_num, hst2⟩
      case measure => simp [intOf]; omega
    · obtain rfl : k = n := by omega
      have he : Hid (zs.take k = zs) := Lib.hid (List.take_of_length_le (by rw [Hn.out]; exact Nat.le_refl _))
      rw [he.out, ← Hp.out] at hst
      obtain ⟨B, g0, g1⟩ := hst.out
      unfold tallyO at g0 g1
      obtain ⟨c0, c1, c2, -⟩ := tal_cells g1
      obtain ⟨d0, d1, d2, y0, y1, y2⟩ := tal_cells g0
      have N1 := tal_set (tal_set (tal_set g0 0 (.int .i64 (t : Int))) 1 (.int .i64 (r : Int))) 2 (.int .i64 (l : Int))
      simp only [List.setIfInBounds_toArray, List.set_cons_zero, List.set_cons_succ] at N1
      have B2 : Below w.heap.size w (((wr.setCell ⟨w.heap.size, 0, none⟩ (.int .i64 (t : Int))).setCell ⟨w.heap.size, 1, none⟩ (.int .i64 (r : Int))).setCell ⟨w.heap.size, 2, none⟩ (.int .i64 (l : Int))) :=
        ((B.setCell (show w.heap.size ≤ w.heap.size by omega) _).setCell (show w.heap.size ≤ w.heap.size by omega) _).setCell (show w.heap.size ≤ w.heap.size by omega) _
      have N1 := Lib.hid N1
      clear hst g0 g1 B
      go_wp2_with fail
      (try simp only [Exit.inBlock, Exit.then])
      refine bodyPost_ret (results_cell_row rfl _ _ (w.heap.size) _ _ _ _ rfl N1.out Try.underlying84 rfl (by kernel_rfl)) rfl ?_
      exact ⟨rfl, B2⟩
@[go_sem] theorem run_tallyF0 (a0 a1 a2 : Value) (w : World) : (Instr.field 84 (.agg #[a0, a1, a2]) 0).run Try.prog w = .ok a0 w := by
  simp [Instr.field, run_underlying Try.underlying84, asAgg, go_sem]
@[go_sem] theorem run_tallyF2 (a0 a1 a2 : Value) (w : World) : (Instr.field 84 (.agg #[a0, a1, a2]) 2).run Try.prog w = .ok a2 w := by
  simp [Instr.field, run_underlying Try.underlying84, asAgg, go_sem]
set_option maxRecDepth 100000 in
theorem countTakes_any (v : Value) (zs : List Int) (b : Nat) (w : World) (h : RdAt .i64 w v zs b) (hl : zs.length ≤ 1048576) :
    Calls Try.prog 35 #[v] w fun e w' => e = .returned (.int .i64 (tal zs).1) ∧ Below w.heap.size w w' := by
  have HC := Lib.hid (tallyOf_any v zs b w h hl)
  clear h hl
  go_enter Try.func35, Try.ntmps35
  go_wp2_with fail
  refine HC.out.mono ?_
  rintro e w1 ⟨rfl, B⟩
  go_wp2_with fail
  go_ret
  exact ⟨rfl, B⟩
set_option maxRecDepth 100000 in
theorem longestPlays_any (v : Value) (zs : List Int) (b : Nat) (w : World) (h : RdAt .i64 w v zs b) (hl : zs.length ≤ 1048576) :
    Calls Try.prog 41 #[v] w fun e w' => e = .returned (.int .i64 (tal zs).2.2) ∧ Below w.heap.size w w' := by
  have HC := Lib.hid (tallyOf_any v zs b w h hl)
  clear h hl
  go_enter Try.func41, Try.ntmps41
  go_wp2_with fail
  refine HC.out.mono ?_
  rintro e w1 ⟨rfl, B⟩
  go_wp2_with fail
  go_ret
  exact ⟨rfl, B⟩
set_option maxRecDepth 100000 in
set_option maxHeartbeats 400000 in
theorem sCountTakes_any (v : Value) (zs : List Int) (b : Nat) (w : World) (h : RdAt .i64 w v zs b) (hl : zs.length ≤ 1048576) :
    Calls Try.prog 34 #[v] w fun e w' => e = .returned (.int .i64 (tal zs).1) ∧ w = w' := by
  have hlt0 := h.lt
  obtain ⟨a, cap, rfl, -, -, hcell⟩ := h
  obtain ⟨n, hn⟩ : ∃ n, n = zs.length := ⟨_, rfl⟩
  have Hn := Lib.hid hn
  rw [← hn] at hl ⊢
  clear hn
  have HCl : Hid (∀ k, k < n → ∃ off, a = some ⟨b, off, none⟩ ∧ w.cell? ⟨b, off + k, none⟩ = some (.int .i64 (zs.getD k 0))) := Lib.hid (fun k hk => cells_at (Below.refl w.heap.size w) hlt0 hcell (by rw [← Hn.out]; exact hk))
  obtain ⟨r, hr⟩ : ∃ r, r = (tal zs).1 := ⟨_, rfl⟩
  have Hr := Lib.hid hr
  rw [← hr]
  clear hlt0 hcell hr
  go_enter Try.func34, Try.ntmps34
  go_wp2_with fail
  go_loop [3, 4] (fun m i => ∃ k x : Nat, k ≤ n ∧ i = .int .i64 k ∧ m = .int .i64 x ∧ x ≤ k ∧ Hid (x = (tal (zs.take k)).1)) (fun _ i => n - (intOf i).toNat)
  case atStart => exact ⟨0, 0, Nat.zero_le _, rfl, rfl, Nat.le_refl _, Lib.hid rfl⟩
  case round =>
    obtain ⟨k, x, hk, rfl, rfl, hxk, hx⟩ := hrel
    by_cases hlt : k < n
    · have hkz : k < zs.length := by rw [← Hn.out]; exact hlt
      obtain ⟨off, hp, hc⟩ := HCl.out k hlt
      subst hp
      obtain ⟨y, hy⟩ : ∃ y, Hid (zs.getD k 0 = y) := ⟨_, Lib.hid rfl⟩
      rw [hy.out] at hc
      by_cases hy1 : y = -1
      · subst hy1
        have hx2 : Hid (x + 1 = (tal (zs.take (k + 1))).1) := Lib.hid (by rw [tal_take zs k hkz, hy.out, tal_take1, hx.out])
        go_wp2_with fail
        go_round
        case rel => exact ⟨k + 1, x + 1, by omega, by go_num, by go_num, by omega, hx2⟩
        case measure => simp [intOf]; omega
      · have hq : (y == -1) = false := by simpa using hy1
        have hx2 : Hid (x = (tal (zs.take (k + 1))).1) := Lib.hid (by
          rw [tal_take zs k hkz, hy.out, hx.out]
          cases hcd : isCard y with
          | true => rw [tal_card hcd]
          | false => rw [tal_else hcd hy1])
        clear hy1
        go_wp2_with fail
        go_round
        case rel => exact ⟨k + 1, x, by omega, by go_num, rfl, by omega, hx2⟩
        case measure => simp [intOf]; omega
    · obtain rfl : k = n := by omega
      have hx2 : Hid (x = r) := Lib.hid (by rw [hx.out, Hr.out, List.take_of_length_le (by rw [Hn.out]; exact Nat.le_refl _)])
      go_wp2_with fail
      go_ret
      exact ⟨by rw [← hx2.out]; rfl, rfl⟩
set_option maxRecDepth 100000 in
set_option maxHeartbeats 400000 in
theorem sLongestPlays_any (v : Value) (zs : List Int) (b : Nat) (w : World) (h : RdAt .i64 w v zs b) (hl : zs.length ≤ 1048576) :
    Calls Try.prog 40 #[v] w fun e w' => e = .returned (.int .i64 (tal zs).2.2) ∧ w = w' := by
  have hlt0 := h.lt
  obtain ⟨a, cap, rfl, -, -, hcell⟩ := h
  obtain ⟨n, hn⟩ : ∃ n, n = zs.length := ⟨_, rfl⟩
  have Hn := Lib.hid hn
  rw [← hn] at hl ⊢
  clear hn
  have HCl : Hid (∀ k, k < n → ∃ off, a = some ⟨b, off, none⟩ ∧ w.cell? ⟨b, off + k, none⟩ = some (.int .i64 (zs.getD k 0))) := Lib.hid (fun k hk => cells_at (Below.refl w.heap.size w) hlt0 hcell (by rw [← Hn.out]; exact hk))
  obtain ⟨r, hr⟩ : ∃ r, r = (tal zs).2.2 := ⟨_, rfl⟩
  have Hr := Lib.hid hr
  rw [← hr]
  clear hlt0 hcell hr
  go_enter Try.func40, Try.ntmps40
  go_wp2_with fail
  go_loop [3, 4, 5] (fun m o i => ∃ k x q : Nat, k ≤ n ∧ i = .int .i64 k ∧ m = .int .i64 x ∧ o = .int .i64 q ∧ x ≤ k ∧ q ≤ k ∧ Hid (x = (tal (zs.take k)).2.2) ∧ Hid (q = (tal (zs.take k)).2.1)) (fun _ _ i => n - (intOf i).toNat)
  case atStart => exact ⟨0, 0, 0, Nat.zero_le _, rfl, rfl, rfl, Nat.le_refl _, Nat.le_refl _, Lib.hid rfl, Lib.hid rfl⟩
  case round =>
    obtain ⟨k, x, q, hk, rfl, rfl, rfl, hxk, hqk, hx, hq⟩ := hrel
    by_cases hlt : k < n
    · have hkz : k < zs.length := by rw [← Hn.out]; exact hlt
      obtain ⟨off, hp, hc⟩ := HCl.out k hlt
      subst hp
      obtain ⟨y, hy⟩ : ∃ y, Hid (zs.getD k 0 = y) := ⟨_, Lib.hid rfl⟩
      rw [hy.out] at hc
      cases hcd : isCard y with
      | true =>
        have HC := Lib.hid (sIsCard_r y w _ hcd)
        obtain ⟨m, hm, hmk, hm2⟩ : ∃ m : Nat, maxI (x : Int) ((q : Int) + 1) = m ∧ m ≤ k + 1 ∧ m = (if x < q + 1 then q + 1 else x) := by
          unfold maxI
          by_cases e : x < q + 1
          · rw [if_pos (by omega), if_pos e]; exact ⟨q + 1, by simp, by omega, rfl⟩
          · rw [if_neg (by omega), if_neg e]; exact ⟨x, rfl, by omega, rfl⟩
        have HM := Lib.hid (smax_any (x : Int) ((q : Int) + 1) w)
        rw [hm] at HM
        have hx2 : Hid (m = (tal (zs.take (k + 1))).2.2) := Lib.hid (by rw [tal_take zs k hkz, hy.out, tal_card hcd, hm2, hx.out, hq.out])
        have hq2 : Hid (q + 1 = (tal (zs.take (k + 1))).2.1) := Lib.hid (by rw [tal_take zs k hkz, hy.out, tal_card hcd, hq.out])
        clear hcd hm hm2
        go_wp2_with fail
        refine HC.out.mono ?_
        rintro e _w ⟨rfl, rfl⟩
        go_wp2_with fail
        refine HM.out.mono ?_
        rintro e _w ⟨rfl, rfl⟩
        go_wp2_with fail
        go_round
        case rel => exact ⟨k + 1, m, q + 1, by omega, by go_num, by go_num, by go_num, by omega, by omega, hx2, hq2⟩
        case measure => simp [intOf]; omega
      | false =>
        have HC := Lib.hid (sIsCard_r y w _ hcd)
        have hm : maxI (x : Int) 0 = x := by unfold maxI; rw [if_neg (by omega)]
        have HM := Lib.hid (smax_any (x : Int) 0 w)
        rw [hm] at HM
        have hs : Hid ((tal (zs.take (k + 1))).2 = (0, (tal (zs.take k)).2.2)) := Lib.hid (by
          rw [tal_take zs k hkz, hy.out]
          by_cases e : y = -1
          · subst e; rw [tal_take1]
          · rw [tal_else hcd e])
        have hx2 : Hid (x = (tal (zs.take (k + 1))).2.2) := Lib.hid (by rw [hs.out]; exact hx.out)
        have hq2 : Hid (0 = (tal (zs.take (k + 1))).2.1) := Lib.hid (by rw [hs.out])
        clear hcd hm
        go_wp2_with fail
        refine HC.out.mono ?_
        rintro e _w ⟨rfl, rfl⟩
        go_wp2_with fail
        refine HM.out.mono ?_
        rintro e _w ⟨rfl, rfl⟩
        go_wp2_with fail
        go_round
        case rel => exact ⟨k + 1, x, 0, by omega, by go_num, by go_num, by go_num, by omega, by omega, hx2, hq2⟩
        case measure => simp [intOf]; omega
    · obtain rfl : k = n := by omega
      have hx2 : Hid (x = r) := Lib.hid (by rw [hx.out, Hr.out, List.take_of_length_le (by rw [Hn.out]; exact Nat.le_refl _)])
      go_wp2_with fail
      go_ret
      exact ⟨by rw [← hx2.out]; rfl, rfl⟩
end Go.Proofs.Ytjlcmocepnlibaa
