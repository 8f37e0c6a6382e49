/-
  Hash and KeyedHash by contract, both sides.
-/
import Derived.Test.YtaginoiiomaheaaDoorMarksI
import Derived.Test.YtaginoiiomaheaaDoorArith
namespace Go.Proofs.YtaginoiiomaheaaDoor
open Go.RowKit

def foldV (d v : Int) : Int := (d * 1000003 + modI v 2147483647 + 13) % 2147483647
def hashFrom (d : Int) (zs : List Int) : Int := zs.foldl foldV d
def hashI (zs : List Int) : Int := hashFrom 11 zs
def keyedI (k : Int) (zs : List Int) : Int := foldV (hashFrom (foldV 11 k) zs) k
theorem modI_bd (v : Int) : 0 ≤ modI v 2147483647 ∧ modI v 2147483647 < 2147483647 := by
  unfold modI
  rw [if_pos (by omega)]
  omega
theorem foldV_bd (d v : Int) : 0 ≤ foldV d v ∧ foldV d v < 2147483647 := by
  unfold foldV
  omega
theorem hashFrom_bd (d : Int) (zs : List Int) (h : 0 ≤ d ∧ d < 2147483647) : 0 ≤ hashFrom d zs ∧ hashFrom d zs < 2147483647 := by
  induction zs generalizing d with
  | nil => exact h
  | cons z zs ih => exact ih _ (foldV_bd d z)
theorem hashFrom_take (d : Int) (zs : List Int) (k : Nat) (h : k < zs.length) : hashFrom d (zs.take (k + 1)) = foldV (hashFrom d (zs.take k)) zs[k] := by
  unfold hashFrom; rw [List.take_succ_eq_append_getElem h, List.foldl_append]; rfl
theorem hashFrom_app (d : Int) (xs ys : List Int) : hashFrom d (xs ++ ys) = hashFrom (hashFrom d xs) ys := by
  unfold hashFrom; rw [List.foldl_append]
theorem keyed_hash (k : Int) (zs : List Int) : hashI ([k] ++ zs ++ [k]) = keyedI k zs := by
  unfold hashI keyedI
  rw [hashFrom_app, hashFrom_app]; rfl

set_option maxRecDepth 100000 in
set_option maxHeartbeats 400000 in
theorem foldValue_any (a0 a1 : Addr) (d v : Int) (w : World) (h0 : 0 ≤ d) (h1 : d < 2147483647) (wv : (Lit.int .i64 v).wf = true) (hS : Sent a0 a1 w) :
    Calls Tryd.prog 56 #[.int .i64 d, .int .i64 v] w fun e w' => e = .returned (.int .i64 (foldV d v)) ∧ w = w' := by
  have hb := modI_bd v
  obtain ⟨hb0, hb1⟩ := hb
  have He : Hid (foldV d v = (d * 1000003 + modI v 2147483647 + 13) % 2147483647) := Lib.hid rfl
  have Hm := Lib.hid (mod_any a0 a1 v 2147483647 w wv hS)
  generalize modI v 2147483647 = m at *
  clear wv hS
  go_enter Tryd.func56, Tryd.ntmps56
  go_wp2_with fail
  refine Hm.out.mono ?_
  rintro e _w ⟨rfl, rfl⟩
  go_wp2_with fail
  go_ret
  exact ⟨by rw [He.out]; rfl, rfl⟩

set_option maxRecDepth 100000 in
set_option maxHeartbeats 400000 in
theorem sHash_any (v : Value) (zs : List Int) (b : Nat) (w : World) (h : RdAt .i64 w v zs b) (hl : zs.length ≤ 1099511627776) :
    Calls Tryd.prog 37 #[v] w fun e w' => e = .returned (.int .i64 (hashI zs)) ∧ w = w' := by
  have hwf := h.wf
  obtain ⟨a, cap, rfl, -, -, hcell⟩ := h
  obtain ⟨n, hn⟩ : ∃ n, n = zs.length := ⟨_, rfl⟩
  have Hn := Lib.hid hn
  rw [← hn] at hl ⊢
  clear hn
  go_enter Tryd.func37, Tryd.ntmps37
  go_wp2_with fail
  go_loop [3, 4] (fun d i => ∃ (k : Nat) (D : Int), k ≤ n ∧ i = .int .i64 k ∧ d = .int .i64 D ∧ 0 ≤ D ∧ D < 2147483647 ∧ Hid (D = hashFrom 11 (zs.take k))) (fun _ i => n - (intOf i).toNat)
  case atStart => exact ⟨0, 11, Nat.zero_le _, rfl, rfl, by omega, by omega, Lib.hid rfl⟩
  case round =>
    obtain ⟨k, D, hk, rfl, rfl, hD0, hD1, hD⟩ := hrel
    by_cases hlt : k < n
    · have hz : k < zs.length := by rw [← Hn.out]; exact hlt
      rcases hcell with h0 | ⟨off, rfl, hc⟩
      · subst h0; simp at hz
      obtain ⟨y, hy⟩ : ∃ y, Hid (y = zs[k]) := ⟨_, Lib.hid rfl⟩
      have wy : (Lit.int .i64 y).wf = true := by rw [hy.out]; exact hwf _ (List.getElem_mem _)
      have h1 : w.cell? ⟨b, off + k, none⟩ = some (.int .i64 y) := by rw [hc k hz, hy.out]
      have hst : Hid (hashFrom 11 (zs.take (k + 1)) = foldV D y) := Lib.hid (by rw [hashFrom_take _ zs k hz, ← hD.out, ← hy.out])
      have hfb := foldV_bd D y
      obtain ⟨hf0, hf1⟩ := hfb
      have He : Hid (foldV D y = (D * 1000003 + modI y 2147483647 + 13) % 2147483647) := Lib.hid rfl
      have hb := modI_bd y
      obtain ⟨hb0, hb1⟩ := hb
      have Hm := Lib.hid (sMod_any y 2147483647 w wy)
      generalize foldV D y = E at *
      generalize modI y 2147483647 = m at *
      clear hc wy
      go_wp2_with fail
      refine Hm.out.mono ?_
      rintro e _w ⟨rfl, rfl⟩
      go_wp2_with fail
      go_round
      case rel => exact ⟨k + 1, E, by omega, by go_num, by rw [He.out], hf0, hf1, Lib.hid hst.out.symm⟩
      case measure => simp [intOf]; omega
    · obtain rfl : k = n := by omega
      have e : Hid (hashI zs = D) := Lib.hid (by rw [hD.out, List.take_of_length_le (by rw [Hn.out]; exact Nat.le_refl _)]; rfl)
      go_wp2_with fail
      go_ret
      exact ⟨by rw [e.out]; rfl, rfl⟩

theorem ta_many (v : Value) (w : World) : (Instr.typeAssert (.iface 79 v) 83 79 true).run Tryd.prog w = .ok (.tuple #[v, .bool true]) w := by kernel_rfl
theorem ta_many_no (v : Value) (w : World) : (Instr.typeAssert (.iface 79 v) 83 84 true).run Tryd.prog w = .ok (.tuple #[.int .i64 0, .bool false]) w := by kernel_rfl
theorem ta_one (v : Value) (w : World) : (Instr.typeAssert (.iface 84 v) 83 84 true).run Tryd.prog w = .ok (.tuple #[v, .bool true]) w := by kernel_rfl

set_option maxRecDepth 100000 in
set_option maxHeartbeats 1000000 in
theorem hashOf_one (a0 a1 : Addr) (pb : Nat) (v : Value) (zs : List Int) (b : Nat) (w : World) (h : RdAt .i64 w v zs b) (hl : zs.length ≤ 1099511627776) (hp : w.cell? ⟨pb, 0, none⟩ = some (.iface 79 v)) (hS : Sent a0 a1 w) :
    Calls Tryd.prog 54 #[.slice (some ⟨pb, 0, none⟩) 1 1] w fun e w' => e = .returned (.int .i64 (hashI zs)) ∧ w = w' := by
  have hwf := h.wf
  obtain ⟨a, cap, rfl, -, -, hcell⟩ := h
  obtain ⟨n, hn⟩ : ∃ n, n = zs.length := ⟨_, rfl⟩
  have Hn := Lib.hid hn
  rw [← hn] at hl hp
  clear hn
  have hS := Lib.hid hS
  have T1 := ta_many
  have T2 := ta_many_no
  have T3 := ta_one
  have B0 : (0 : Int) ≤ 11 := by omega
  have B1 : (11 : Int) < 2147483647 := by omega
  go_enter Tryd.func54, Tryd.ntmps54
  go_wp2_with fail
  refine wp_loop_rounds 2 ?_
  rw [rounds_succ]
  go_wp2_with fail
  go_loop [3, 28] (fun d i => ∃ (k : Nat) (D : Int), k ≤ n ∧ i = .int .i64 k ∧ d = .int .i64 D ∧ 0 ≤ D ∧ D < 2147483647 ∧ Hid (D = hashFrom 11 (zs.take k))) (fun _ i => n - (intOf i).toNat)
  case atStart => exact ⟨0, 11, Nat.zero_le _, rfl, rfl, B0, B1, Lib.hid rfl⟩
  case round =>
    obtain ⟨k, D, hk, rfl, rfl, hD0, hD1, hD⟩ := hrel
    by_cases hlt : k < n
    · have hz : k < zs.length := by rw [← Hn.out]; exact hlt
      rcases hcell with h0 | ⟨off, rfl, hcz⟩
      · subst h0; simp at hz
      obtain ⟨y, hy⟩ : ∃ y, Hid (y = zs[k]) := ⟨_, Lib.hid rfl⟩
      have wy : (Lit.int .i64 y).wf = true := by rw [hy.out]; exact hwf _ (List.getElem_mem _)
      have h1 : w.cell? ⟨b, off + k, none⟩ = some (.int .i64 y) := by rw [hcz k hz, hy.out]
      have hst : Hid (hashFrom 11 (zs.take (k + 1)) = foldV D y) := Lib.hid (by rw [hashFrom_take _ zs k hz, ← hD.out, ← hy.out])
      have hfb := foldV_bd D y
      obtain ⟨hf0, hf1⟩ := hfb
      have Hm := Lib.hid (foldValue_any a0 a1 D y w hD0 hD1 wy hS.out)
      generalize foldV D y = E at *
      clear hcz wy
      go_wp2_with fail
      refine Hm.out.mono ?_
      rintro e _w ⟨rfl, rfl⟩
      go_wp2_with fail
      go_round
      case rel => exact ⟨k + 1, E, by omega, by go_num, rfl, hf0, hf1, Lib.hid hst.out.symm⟩
      case measure => simp [intOf]; omega
    · obtain rfl : k = n := by omega
      have hfin : Hid (hashFrom 11 zs = D) := Lib.hid (by rw [hD.out, List.take_of_length_le (by rw [Hn.out]; exact Nat.le_refl _)])
      go_wp2_with fail
      rw [rounds_succ]
      go_wp2_with fail
      go_ret
      exact ⟨by rw [hashI, hfin.out]; rfl, rfl⟩
set_option maxRecDepth 100000 in
set_option maxHeartbeats 1000000 in
theorem hashOf_three (a0 a1 : Addr) (pb : Nat) (c : Int) (v : Value) (zs : List Int) (b : Nat) (w : World) (h : RdAt .i64 w v zs b) (hl : zs.length ≤ 1099511627776) (wc : (Lit.int .i64 c).wf = true) (hp0 : w.cell? ⟨pb, 0, none⟩ = some (.iface 84 (.int .i64 c))) (hp : w.cell? ⟨pb, 1, none⟩ = some (.iface 79 v)) (hp2 : w.cell? ⟨pb, 2, none⟩ = some (.iface 84 (.int .i64 c))) (hS : Sent a0 a1 w) :
    Calls Tryd.prog 54 #[.slice (some ⟨pb, 0, none⟩) 3 3] w fun e w' => e = .returned (.int .i64 (keyedI c zs)) ∧ w = w' := by
  have hwf := h.wf
  obtain ⟨a, cap, rfl, -, -, hcell⟩ := h
  obtain ⟨n, hn⟩ : ∃ n, n = zs.length := ⟨_, rfl⟩
  have Hn := Lib.hid hn
  rw [← hn] at hl hp
  clear hn
  have hS := Lib.hid hS
  have T1 := ta_many
  have T2 := ta_many_no
  have T3 := ta_one
  have F1 := Lib.hid (foldValue_any a0 a1 11 c w (by omega) (by omega) wc hS.out)
  have F3 : Hid (∀ D, 0 ≤ D → D < 2147483647 → Calls Tryd.prog 56 #[.int .i64 D, .int .i64 c] w fun e w' => e = .returned (.int .i64 (foldV D c)) ∧ w = w') := Lib.hid (fun D h0 h1 => foldValue_any a0 a1 D c w h0 h1 wc hS.out)
  have hb := foldV_bd 11 c
  obtain ⟨B0, B1⟩ := hb
  have HK : Hid (keyedI c zs = foldV (hashFrom (foldV 11 c) zs) c) := Lib.hid rfl
  generalize foldV 11 c = S1 at *
  clear wc
  go_enter Tryd.func54, Tryd.ntmps54
  go_wp2_with fail
  refine wp_loop_rounds 4 ?_
  rw [rounds_succ]
  go_wp2_with fail
  refine F1.out.mono ?_
  rintro e _w ⟨rfl, rfl⟩
  go_wp2_with fail
  rw [rounds_succ]
  go_wp2_with fail
  go_loop [3, 28] (fun d i => ∃ (k : Nat) (D : Int), k ≤ n ∧ i = .int .i64 k ∧ d = .int .i64 D ∧ 0 ≤ D ∧ D < 2147483647 ∧ Hid (D = hashFrom S1 (zs.take k))) (fun _ i => n - (intOf i).toNat)
  case atStart => exact ⟨0, S1, Nat.zero_le _, rfl, rfl, B0, B1, Lib.hid rfl⟩
  case round =>
    obtain ⟨k, D, hk, rfl, rfl, hD0, hD1, hD⟩ := hrel
    by_cases hlt : k < n
    · have hz : k < zs.length := by rw [← Hn.out]; exact hlt
      rcases hcell with h0 | ⟨off, rfl, hcz⟩
      · subst h0; simp at hz
      obtain ⟨y, hy⟩ : ∃ y, Hid (y = zs[k]) := ⟨_, Lib.hid rfl⟩
      have wy : (Lit.int .i64 y).wf = true := by rw [hy.out]; exact hwf _ (List.getElem_mem _)
      have h1 : w.cell? ⟨b, off + k, none⟩ = some (.int .i64 y) := by rw [hcz k hz, hy.out]
      have hst : Hid (hashFrom S1 (zs.take (k + 1)) = foldV D y) := Lib.hid (by rw [hashFrom_take _ zs k hz, ← hD.out, ← hy.out])
      have hfb := foldV_bd D y
      obtain ⟨hf0, hf1⟩ := hfb
      have Hm := Lib.hid (foldValue_any a0 a1 D y w hD0 hD1 wy hS.out)
      generalize foldV D y = E at *
      clear hcz wy
      go_wp2_with fail
      refine Hm.out.mono ?_
      rintro e _w ⟨rfl, rfl⟩
      go_wp2_with fail
      go_round
      case rel => exact ⟨k + 1, E, by omega, by go_num, rfl, hf0, hf1, Lib.hid hst.out.symm⟩
      case measure => simp [intOf]; omega
    · obtain rfl : k = n := by omega
      have hfin : Hid (hashFrom S1 zs = D) := Lib.hid (by rw [hD.out, List.take_of_length_le (by rw [Hn.out]; exact Nat.le_refl _)])
      go_wp2_with fail
      rw [rounds_succ]
      go_wp2_with fail
      refine (F3.out D hD0 hD1).mono ?_
      rintro e _w ⟨rfl, rfl⟩
      go_wp2_with fail
      rw [rounds_succ]
      go_wp2_with fail
      go_ret
      exact ⟨by rw [HK.out, hfin.out]; rfl, rfl⟩

theorem cell_lit (w : World) (cs : Array Value) (t : TypeId) (i : Nat) : (w.alloc (.cells cs t)).cell? ⟨w.heap.size, i, none⟩ = cs[i]? := by
  rw [World.cell?_alloc_new]
set_option maxRecDepth 100000 in
set_option maxHeartbeats 400000 in
theorem hash_any (a0 a1 : Addr) (v : Value) (zs : List Int) (b : Nat) (w : World) (h : RdAt .i64 w v zs b) (hl : zs.length ≤ 1099511627776) (hS : Sent a0 a1 w) :
    Calls Tryd.prog 51 #[v] w fun e w' => e = .returned (.int .i64 (hashI zs)) ∧ Below w.heap.size w w' := by
  have hB : ∀ o, Below w.heap.size w (w.alloc o) := fun o => (Below.refl _ _).alloc (Nat.le_refl _) _
  have Hc := Lib.hid (fun (cs : Array Value) t (hp : cs[0]? = some (.iface 79 v)) => hashOf_one a0 a1 w.heap.size v zs b (w.alloc (.cells cs t)) (h.below (hB _)) hl (by rw [cell_lit]; exact hp) (hS.below (hB _) (Nat.le_refl _)))
  obtain ⟨p0, cap0, rfl, -⟩ := id h
  go_enter Tryd.func51, Tryd.ntmps51
  go_wp2_with fail
  refine (Hc.out _ _ rfl).mono ?_
  rintro e _w ⟨rfl, rfl⟩
  go_wp2_with fail
  go_ret
  exact ⟨rfl, hB _⟩
end Go.Proofs.YtaginoiiomaheaaDoor
