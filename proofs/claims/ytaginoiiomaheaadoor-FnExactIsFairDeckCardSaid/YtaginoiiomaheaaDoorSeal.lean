/-
  SeedSeal and JointSeed, both sides.
-/
import Derived.Test.YtaginoiiomaheaaDoorHash
namespace Go.Proofs.YtaginoiiomaheaaDoor
open Go.RowKit

def sealI (a b c : Int) : Int := hashI [a, b, c]
def jointStep (n s : Int) : Int := (n + s % 1000001) % 1000001
def jointI (zs : List Int) : Int := zs.foldl jointStep 0
theorem joint_take (zs : List Int) (k : Nat) (h : k < zs.length) : jointI (zs.take (k + 1)) = jointStep (jointI (zs.take k)) zs[k] := by
  unfold jointI; rw [List.take_succ_eq_append_getElem h, List.foldl_append]; rfl
theorem modM (p : Int) : modI p 1000001 = p % 1000001 := if_pos ⟨by omega, by omega⟩

set_option maxRecDepth 100000 in
theorem seedSeal_any (a0 a1 : Addr) (a b c : Int) (w : World) (wa : (Lit.int .i64 a).wf = true) (wb : (Lit.int .i64 b).wf = true) (wc : (Lit.int .i64 c).wf = true) (hS : Sent a0 a1 w) :
    Calls Tryd.prog 48 #[.int .i64 a, .int .i64 b, .int .i64 c] w fun e w' => e = .returned (.int .i64 (sealI a b c)) ∧ Below w.heap.size w w' := by
  have hown0 := World.ownsRow_lit (base := w.heap.size) (e := 3) (size := 1) w #[.int .i64 a, .int .i64 b, .int .i64 c] 3 (Nat.le_refl _) (by unfold maxLen; omega) rfl
  obtain ⟨b2, -, hw2⟩ := own_wr (zs := [a, b, c]) hown0 (by intro x hx; simp at hx; rcases hx with rfl | rfl | rfl <;> assumption)
  have B0 := fun o => (Below.refl w.heap.size w).alloc (Nat.le_refl _) o
  have Hc := Lib.hid (hash_any a0 a1 _ [a, b, c] b2 _ hw2.rd (by simp) (hS.below (B0 _) (Nat.le_refl _)))
  have He : Hid (sealI a b c = hashI [a, b, c]) := Lib.hid rfl
  clear hown0 hw2
  go_enter Tryd.func48, Tryd.ntmps48
  go_wp2_with fail
  refine Hc.out.mono ?_
  rintro e w' ⟨rfl, hb⟩
  go_wp2_with fail
  go_ret
  exact ⟨by rw [He.out]; rfl, (B0 _).trans (hb.mono (B0 _).size)⟩
set_option maxRecDepth 100000 in
theorem sSeedSeal_any (a b c : Int) (w : World) (wa : (Lit.int .i64 a).wf = true) (wb : (Lit.int .i64 b).wf = true) (wc : (Lit.int .i64 c).wf = true) :
    Calls Tryd.prog 45 #[.int .i64 a, .int .i64 b, .int .i64 c] w fun e w' => e = .returned (.int .i64 (sealI a b c)) ∧ Below w.heap.size w w' := by
  have hown0 := World.ownsRow_lit (base := w.heap.size) (e := 3) (size := 1) w #[.int .i64 a, .int .i64 b, .int .i64 c] 3 (Nat.le_refl _) (by unfold maxLen; omega) rfl
  obtain ⟨b2, -, hw2⟩ := own_wr (zs := [a, b, c]) hown0 (by intro x hx; simp at hx; rcases hx with rfl | rfl | rfl <;> assumption)
  have B0 := fun o => (Below.refl w.heap.size w).alloc (Nat.le_refl _) o
  have Hc := Lib.hid (sHash_any _ [a, b, c] b2 _ hw2.rd (by simp))
  have He : Hid (sealI a b c = hashI [a, b, c]) := Lib.hid rfl
  clear hown0 hw2
  go_enter Tryd.func45, Tryd.ntmps45
  go_wp2_with fail
  refine Hc.out.mono ?_
  rintro e w' ⟨rfl, rfl⟩
  go_wp2_with fail
  go_ret
  exact ⟨by rw [He.out]; rfl, B0 _⟩
theorem wrapSeed_any (a0 a1 : Addr) (n : Int) (w : World) (wn : (Lit.int .i64 n).wf = true) (hS : Sent a0 a1 w) :
    Calls Tryd.prog 44 #[.int .i64 n] w fun e w' => e = .returned (.int .i64 (n % 1000001)) ∧ w = w' := by
  have HM := Lib.hid (mod_any a0 a1 n 1000001 w wn hS)
  rw [modM] at HM
  generalize n % 1000001 = m at *
  clear hS wn
  go_enter Tryd.func44, Tryd.ntmps44
  go_wp2_with fail
  refine HM.out.mono ?_
  rintro e _w ⟨rfl, rfl⟩
  go_wp2_with fail
  go_ret
  exact ⟨rfl, rfl⟩
set_option maxRecDepth 100000 in
set_option maxHeartbeats 400000 in
theorem jointSeed_any (a0 a1 : Addr) (v : Value) (zs : List Int) (b : Nat) (w : World) (h : RdAt .i64 w v zs b) (hl : zs.length ≤ 1099511627776) (hS : Sent a0 a1 w) :
    Calls Tryd.prog 32 #[v] w fun e w' => e = .returned (.int .i64 (jointI zs)) ∧ w = w' := by
  have hwf := h.wf
  obtain ⟨a, cap, rfl, -, -, hcell⟩ := h
  obtain ⟨n, hn⟩ : ∃ n, n = zs.length := ⟨_, rfl⟩
  have Hn := Lib.hid hn
  rw [← hn] at hl ⊢
  clear hn
  have HS := Lib.hid hS
  clear hS
  go_enter Tryd.func32, Tryd.ntmps32
  go_wp2_with fail
  go_loop [3, 5, 8] (fun d _ i => ∃ (k : Nat) (D : Int), k ≤ n ∧ i = .int .i64 k ∧ d = .int .i64 D ∧ 0 ≤ D ∧ D < 1000001 ∧ Hid (D = jointI (zs.take k))) (fun _ _ i => n - (intOf i).toNat)
  case atStart => exact ⟨0, 0, Nat.zero_le _, rfl, rfl, by omega, by omega, Lib.hid rfl⟩
  case round =>
    obtain ⟨k, D, hk, rfl, rfl, hD0, hD1, hD⟩ := hrel
    by_cases hlt : k < n
    · have hz : k < zs.length := by rw [← Hn.out]; exact hlt
      rcases hcell with h0 | ⟨off, rfl, hc⟩
      · subst h0; simp at hz
      obtain ⟨y, hy⟩ : ∃ y, Hid (y = zs[k]) := ⟨_, Lib.hid rfl⟩
      have wy : (Lit.int .i64 y).wf = true := by rw [hy.out]; exact hwf _ (List.getElem_mem _)
      have h1 : w.cell? ⟨b, off + k, none⟩ = some (.int .i64 y) := by rw [hc k hz, hy.out]
      have hst : Hid (jointI (zs.take (k + 1)) = (D + y % 1000001) % 1000001) := Lib.hid (by rw [joint_take zs k hz, ← hD.out, ← hy.out]; rfl)
      have hb : 0 ≤ y % 1000001 ∧ y % 1000001 < 1000001 := by omega
      obtain ⟨hb0, hb1⟩ := hb
      have H1 := Lib.hid (wrapSeed_any a0 a1 y w wy HS.out)
      generalize y % 1000001 = m at *
      have H2 := Lib.hid (wrapSeed_any a0 a1 (D + m) w (WalkArith.wf_i64 (by omega)) HS.out)
      have hf : 0 ≤ (D + m) % 1000001 ∧ (D + m) % 1000001 < 1000001 := by omega
      obtain ⟨hf0, hf1⟩ := hf
      generalize (D + m) % 1000001 = E at *
      clear hc wy
      go_wp2_with fail
      refine H1.out.mono ?_
      rintro e _w ⟨rfl, rfl⟩
      go_wp2_with fail
      refine H2.out.mono ?_
      rintro e _w ⟨rfl, rfl⟩
      go_wp2_with fail
      go_round
      case rel => exact ⟨k + 1, E, by omega, by go_num, rfl, hf0, hf1, Lib.hid hst.out.symm⟩
      case measure => simp [intOf]; omega
    · obtain rfl : k = n := by omega
      have e : Hid (jointI zs = D) := Lib.hid (by rw [hD.out, List.take_of_length_le (by rw [Hn.out]; exact Nat.le_refl _)])
      go_wp2_with fail
      go_ret
      exact ⟨by rw [e.out]; rfl, rfl⟩
set_option maxRecDepth 100000 in
set_option maxHeartbeats 400000 in
theorem sJointSeed_any (v : Value) (zs : List Int) (b : Nat) (w : World) (h : RdAt .i64 w v zs b) (hl : zs.length ≤ 1099511627776) :
    Calls Tryd.prog 28 #[v] w fun e w' => e = .returned (.int .i64 (jointI zs)) ∧ w = w' := by
  have hwf := h.wf
  obtain ⟨a, cap, rfl, -, -, hcell⟩ := h
  obtain ⟨n, hn⟩ : ∃ n, n = zs.length := ⟨_, rfl⟩
  have Hn := Lib.hid hn
  rw [← hn] at hl ⊢
  clear hn
  go_enter Tryd.func28, Tryd.ntmps28
  go_wp2_with fail
  go_loop [3, 4] (fun d i => ∃ (k : Nat) (D : Int), k ≤ n ∧ i = .int .i64 k ∧ d = .int .i64 D ∧ 0 ≤ D ∧ D < 1000001 ∧ Hid (D = jointI (zs.take k))) (fun _ i => n - (intOf i).toNat)
  case atStart => exact ⟨0, 0, Nat.zero_le _, rfl, rfl, by omega, by omega, Lib.hid rfl⟩
  case round =>
    obtain ⟨k, D, hk, rfl, rfl, hD0, hD1, hD⟩ := hrel
    by_cases hlt : k < n
    · have hz : k < zs.length := by rw [← Hn.out]; exact hlt
      rcases hcell with h0 | ⟨off, rfl, hc⟩
      · subst h0; simp at hz
      obtain ⟨y, hy⟩ : ∃ y, Hid (y = zs[k]) := ⟨_, Lib.hid rfl⟩
      have wy : (Lit.int .i64 y).wf = true := by rw [hy.out]; exact hwf _ (List.getElem_mem _)
      have h1 : w.cell? ⟨b, off + k, none⟩ = some (.int .i64 y) := by rw [hc k hz, hy.out]
      have hst : Hid (jointI (zs.take (k + 1)) = (D + y % 1000001) % 1000001) := Lib.hid (by rw [joint_take zs k hz, ← hD.out, ← hy.out]; rfl)
      have hb : 0 ≤ y % 1000001 ∧ y % 1000001 < 1000001 := by omega
      obtain ⟨hb0, hb1⟩ := hb
      have H1 := Lib.hid (sMod_any y 1000001 w wy)
      rw [modM] at H1
      generalize y % 1000001 = m at *
      obtain ⟨E, hE⟩ : ∃ E, E = (D + m) % 1000001 := ⟨_, rfl⟩
      have hf : 0 ≤ E ∧ E < 1000001 := by omega
      obtain ⟨hf0, hf1⟩ := hf
      have HE := Lib.hid hE
      clear hc wy hE
      go_wp2_with fail
      refine H1.out.mono ?_
      rintro e _w ⟨rfl, rfl⟩
      go_wp2_with fail
      go_round
      case rel => exact ⟨k + 1, E, by omega, by go_num, by rw [HE.out], hf0, hf1, Lib.hid (by rw [HE.out]; exact hst.out.symm)⟩
      case measure => simp [intOf]; omega
    · obtain rfl : k = n := by omega
      have e : Hid (jointI zs = D) := Lib.hid (by rw [hD.out, List.take_of_length_le (by rw [Hn.out]; exact Nat.le_refl _)])
      go_wp2_with fail
      go_ret
      exact ⟨by rw [e.out]; rfl, rfl⟩
end Go.Proofs.YtaginoiiomaheaaDoor
