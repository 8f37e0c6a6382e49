/-
  The contract of the model ReadUvarint.
-/
import Derived.Test.YtjigglnepcabmaaModel02
namespace Go.Proofs.Ytjigglnepcabmaa
open Go.RowKit

def rdGo (zs : List Int) (s : Nat) : Nat → Nat → Int → Option (Int × Int)
  | 0, _, _ => none
  | j + 1, k, n =>
    if zs.length ≤ s + k then none else
    if zs.getD (s + k) 0 < 128 then
      if (zs.getD (s + k) 0 = 0 ∧ 0 < k) ∨ 1000000000000 < n + (zs.getD (s + k) 0 % 128) * 128 ^ k then none else some (n + (zs.getD (s + k) 0 % 128) * 128 ^ k, (s : Int) + k + 1)
    else rdGo zs s j (k + 1) (n + (zs.getD (s + k) 0 % 128) * 128 ^ k)
def rdU (zs : List Int) (s : Int) : Option (Int × Int) := if s < 0 then none else rdGo zs s.toNat 6 0 0
def rdV (o : Option (Int × Int)) : Value := match o with
  | some (a, b) => .tuple #[.int .i64 a, .int .i64 b, .bool true]
  | none => .tuple #[.int .i64 0, .int .i64 0, .bool false]

theorem or_join (k : Nat) (hk : k ≤ 5) (m y : Int) (m0 : 0 ≤ m) (m1 : m < 128 ^ k) (y0 : 0 ≤ y) (y1 : y < 128) : bits .or .i64 m (y * 128 ^ k) = m + y * 128 ^ k := by
  have hc : bits .or .i64 m (y * 128 ^ k) = bits .or .i64 (y * 128 ^ k) m := by simp only [bits, BitVec.or_comm]
  have e : ((128 : Int) ^ k) = 2 ^ (7 * k) := by rw [Int.pow_mul]; rfl
  have hp : (0 : Int) < 128 ^ k := Int.pow_pos (by omega)
  have hle : (128 : Int) ^ k ≤ 128 ^ 5 := by
    obtain rfl | rfl | rfl | rfl | rfl | rfl : k = 0 ∨ k = 1 ∨ k = 2 ∨ k = 3 ∨ k = 4 ∨ k = 5 := by omega
    all_goals decide
  have hy : y * 128 ^ k ≤ 127 * 128 ^ 5 := Int.mul_le_mul (by omega) hle (by omega) (by omega)
  have hy0 : 0 ≤ y * 128 ^ k := Int.mul_nonneg y0 (by omega)
  rw [hc, bits_join .i64 62 (by decide) (fun n a b => by rw [IntKind.wrap_i64]; omega) (7 * k) (y * 128 ^ k) m hy0 (by rw [e, Int.mul_emod_left]) (by omega) m0 (by rw [← e]; exact m1) (by omega)]
  omega

set_option maxRecDepth 100000 in
set_option maxHeartbeats 2000000 in
theorem sReadUvarint_any (v : Value) (zs : List Int) (b : Nat) (c : Int) (w : World) (h : RdAt .u8 w v zs b) (hl : zs.length ≤ 1099511627776) (wc : (Lit.int .i64 c).wf = true) :
    Calls Try.prog 20 #[v, .int .i64 c] w fun e w' => e = .returned (rdV (rdU zs c)) ∧ Below w.heap.size w w' := by
  have hwf := h.wf
  have bc := bounds_i64 wc
  obtain ⟨a, cap, rfl, -, -, hcell⟩ := h
  obtain ⟨n, hn⟩ : ∃ n, n = zs.length := ⟨_, rfl⟩
  have Hn := Lib.hid hn
  rw [← hn] at hl ⊢
  clear hn
  obtain ⟨r, hr⟩ : ∃ r, r = rdU zs c := ⟨_, rfl⟩
  have Hr := Lib.hid hr
  rw [← hr]
  clear hr
  by_cases hc0 : c < 0
  · have hno : Hid (r = none) := Lib.hid (by rw [Hr.out]; exact if_pos hc0)
    go_enter Try.func20, Try.ntmps20
    go_wp2_with fail
    refine wp_loop_rounds 1 ?_
    rw [rounds_succ]
    go_wp2_with fail
    go_ret3
    exact ⟨by rw [hno.out]; rfl, Below.refl _ _⟩
  · obtain ⟨s, rfl⟩ := Int.eq_ofNat_of_zero_le (show 0 ≤ c by omega)
    have Hr2 : Hid (r = rdGo zs s 6 0 0) := Lib.hid (by rw [Hr.out]; unfold rdU; rw [if_neg hc0, Int.toNat_natCast])
    clear hc0 Hr
    go_enter Try.func20, Try.ntmps20
    go_wp2_with fail
    go_loopw [7, 8] (fun nn kk wr => ∃ (k : Nat) (m : Int), k ≤ 6 ∧ kk = .int .i64 k ∧ nn = .int .i64 m ∧ 0 ≤ m ∧ m < 128 ^ k ∧ wr = w ∧ Hid (r = rdGo zs s (6 - k) k m)) (fun _ kk _ => 6 - (intOf kk).toNat)
    case atStart => exact ⟨0, 0, by omega, rfl, rfl, by omega, by decide, rfl, Hr2⟩
    case round =>
      obtain ⟨k, m, hk, rfl, rfl, hm0, hm1, rfl, hgo⟩ := hrel
      by_cases h6 : k = 6
      · subst h6
        have hno : Hid (r = none) := hgo
        go_wp2_with fail
        go_ret3
        exact ⟨by rw [hno.out]; rfl, Below.refl _ _⟩
      · by_cases hin : zs.length ≤ s + k
        · have hno : Hid (r = none) := Lib.hid (by
            rw [hgo.out, show 6 - k = (5 - k) + 1 by omega, rdGo, if_pos hin])
          have hin' : n ≤ s + k := by rw [Hn.out]; exact hin
          go_wp2_with fail
          go_ret3
          exact ⟨by rw [hno.out]; rfl, Below.refl _ _⟩
        · have hz : s + k < zs.length := by omega
          have hz' : s + k < n := by rw [Hn.out]; exact hz
          rcases hcell with h0 | ⟨off, rfl, hc⟩
          · subst h0; simp at hz
          obtain ⟨y, hy⟩ : ∃ y, Hid (y = zs[s + k]) := ⟨_, Lib.hid rfl⟩
          have by8 := bounds_u8 (hwf _ (List.getElem_mem hz))
          rw [← hy.out] at by8
          obtain ⟨y0, y1⟩ := by8
          have hcy : wr.cell? ⟨b, off + (s + k), none⟩ = some (.int .u8 y) := by rw [hc (s + k) hz, hy.out]
          have hgo2 : Hid (r = if y < 128 then if (y = 0 ∧ 0 < k) ∨ 1000000000000 < m + (y % 128) * 128 ^ k then none else some (m + (y % 128) * 128 ^ k, (s : Int) + k + 1) else rdGo zs s (6 - (k + 1)) (k + 1) (m + (y % 128) * 128 ^ k)) := Lib.hid (by
            rw [hgo.out, show 6 - k = (5 - k) + 1 by omega, rdGo, if_neg hin, show 6 - (k + 1) = 5 - k by omega]
            have e : zs.getD (s + k) 0 = y := by rw [hy.out]; simp [List.getD, hz]
            rw [e])
          have hand := i64_and127
          have hor := or_join k (by omega) m (y % 128) hm0 hm1 (by omega) (by omega)
          clear hc hgo hin
          obtain rfl | rfl | rfl | rfl | rfl | rfl : k = 0 ∨ k = 1 ∨ k = 2 ∨ k = 3 ∨ k = 4 ∨ k = 5 := by omega
          · have hm2 : m < 1 := by simpa using hm1
            obtain rfl : m = 0 := by omega
            have hor2 : bits .or .i64 0 (y % 128) = y % 128 := by simpa using hor
            have hgo3 : Hid (r = if y < 128 then if 1000000000000 < y % 128 then none else some (y % 128, (s : Int) + 1) else rdGo zs s (6 - (0 + 1)) (0 + 1) (y % 128)) := Lib.hid (by have := hgo2.out; simpa using this)
            have hcy2 : wr.cell? ⟨b, off + s, none⟩ = some (.int .u8 y) := by simpa using hcy
            clear hm1 hor hgo2 hcy
            by_cases hy1 : y < 128
            · have hyes : Hid (r = some (y % 128, (s : Int) + 1)) := Lib.hid (by rw [hgo3.out, if_pos hy1, if_neg (by omega)])
              clear hgo3
              by_cases hy0 : y = 0
              · subst hy0
                go_wp2_with fail
                go_ret3
                exact ⟨by rw [hyes.out]; rfl, Below.refl _ _⟩
              · have hq : (y == 0) = false := by simpa using hy0
                clear hy0
                go_wp2_with fail
                go_ret3
                exact ⟨by rw [hyes.out]; rfl, Below.refl _ _⟩
            · have hgo4 : Hid (r = rdGo zs s (6 - (0 + 1)) (0 + 1) (y % 128)) := Lib.hid (by rw [hgo3.out, if_neg hy1])
              clear hgo3
              go_wp2_with fail
              go_roundw
              case rel => exact ⟨0 + 1, _, by omega, by go_num, rfl, by omega, by simp; omega, trivial, hgo4⟩
              case measure => simp [intOf]
          · have hm2 : m < 128 := by simpa using hm1
            have hor2 : bits .or .i64 m (y % 128 * 128) = m + y % 128 * 128 := by simpa using hor
            have hgo3 : Hid (r = if y < 128 then if (y = 0 ∧ 0 < 1) ∨ 1000000000000 < m + y % 128 * 128 then none else some (m + y % 128 * 128, (s : Int) + 1 + 1) else rdGo zs s (6 - (1 + 1)) (1 + 1) (m + y % 128 * 128)) := Lib.hid (by have := hgo2.out; simpa using this)
            have hcy2 : wr.cell? ⟨b, off + (s + 1), none⟩ = some (.int .u8 y) := by simpa using hcy
            clear hm1 hor hgo2 hcy
            by_cases hy1 : y < 128
            · by_cases hbad : (y = 0 ∧ 0 < 1) ∨ 1000000000000 < m + y % 128 * 128
              · have hno : Hid (r = none) := Lib.hid (by rw [hgo3.out, if_pos hy1, if_pos hbad])
                clear hgo3
                by_cases hy0 : y = 0
                · subst hy0
                  clear hbad
                  go_wp2_with fail
                  go_ret3
                  exact ⟨by rw [hno.out]; rfl, Below.refl _ _⟩
                · have hb1 : 1000000000000 < m + y % 128 * 128 := by omega
                  have hq : (y == 0) = false := by simpa using hy0
                  clear hbad hy0
                  omega
              · have hyes : Hid (r = some (m + y % 128 * 128, (s : Int) + 1 + 1)) := Lib.hid (by rw [hgo3.out, if_pos hy1, if_neg hbad])
                have hb1 : ¬ 1000000000000 < m + y % 128 * 128 := fun h => hbad (.inr h)
                have hq : (y == 0) = false := by
                  have : y ≠ 0 := fun h => hbad (.inl ⟨h, by omega⟩)
                  simpa using this
                clear hbad hgo3
                go_wp2_with fail
                go_ret3
                exact ⟨by rw [hyes.out]; rfl, Below.refl _ _⟩
            · have hgo4 : Hid (r = rdGo zs s (6 - (1 + 1)) (1 + 1) (m + y % 128 * 128)) := Lib.hid (by rw [hgo3.out, if_neg hy1])
              clear hgo3
              go_wp2_with fail
              go_roundw
              case rel => exact ⟨1 + 1, _, by omega, by go_num, rfl, by omega, by simp; omega, trivial, hgo4⟩
              case measure => simp [intOf]
          · have hm2 : m < 16384 := by simpa using hm1
            have hor2 : bits .or .i64 m (y % 128 * 16384) = m + y % 128 * 16384 := by simpa using hor
            have hgo3 : Hid (r = if y < 128 then if (y = 0 ∧ 0 < 2) ∨ 1000000000000 < m + y % 128 * 16384 then none else some (m + y % 128 * 16384, (s : Int) + 2 + 1) else rdGo zs s (6 - (2 + 1)) (2 + 1) (m + y % 128 * 16384)) := Lib.hid (by have := hgo2.out; simpa using this)
            have hcy2 : wr.cell? ⟨b, off + (s + 2), none⟩ = some (.int .u8 y) := by simpa using hcy
            clear hm1 hor hgo2 hcy
            by_cases hy1 : y < 128
            · by_cases hbad : (y = 0 ∧ 0 < 2) ∨ 1000000000000 < m + y % 128 * 16384
              · have hno : Hid (r = none) := Lib.hid (by rw [hgo3.out, if_pos hy1, if_pos hbad])
                clear hgo3
                by_cases hy0 : y = 0
                · subst hy0
                  clear hbad
                  go_wp2_with fail
                  go_ret3
                  exact ⟨by rw [hno.out]; rfl, Below.refl _ _⟩
                · have hb1 : 1000000000000 < m + y % 128 * 16384 := by omega
                  have hq : (y == 0) = false := by simpa using hy0
                  clear hbad hy0
                  omega
              · have hyes : Hid (r = some (m + y % 128 * 16384, (s : Int) + 2 + 1)) := Lib.hid (by rw [hgo3.out, if_pos hy1, if_neg hbad])
                have hb1 : ¬ 1000000000000 < m + y % 128 * 16384 := fun h => hbad (.inr h)
                have hq : (y == 0) = false := by
                  have : y ≠ 0 := fun h => hbad (.inl ⟨h, by omega⟩)
                  simpa using this
                clear hbad hgo3
                go_wp2_with fail
                go_ret3
                exact ⟨by rw [hyes.out]; rfl, Below.refl _ _⟩
            · have hgo4 : Hid (r = rdGo zs s (6 - (2 + 1)) (2 + 1) (m + y % 128 * 16384)) := Lib.hid (by rw [hgo3.out, if_neg hy1])
              clear hgo3
              go_wp2_with fail
              go_roundw
              case rel => exact ⟨2 + 1, _, by omega, by go_num, rfl, by omega, by simp; omega, trivial, hgo4⟩
              case measure => simp [intOf]
          · have hm2 : m < 2097152 := by simpa using hm1
            have hor2 : bits .or .i64 m (y % 128 * 2097152) = m + y % 128 * 2097152 := by simpa using hor
            have hgo3 : Hid (r = if y < 128 then if (y = 0 ∧ 0 < 3) ∨ 1000000000000 < m + y % 128 * 2097152 then none else some (m + y % 128 * 2097152, (s : Int) + 3 + 1) else rdGo zs s (6 - (3 + 1)) (3 + 1) (m + y % 128 * 2097152)) := Lib.hid (by have := hgo2.out; simpa using this)
            have hcy2 : wr.cell? ⟨b, off + (s + 3), none⟩ = some (.int .u8 y) := by simpa using hcy
            clear hm1 hor hgo2 hcy
            by_cases hy1 : y < 128
            · by_cases hbad : (y = 0 ∧ 0 < 3) ∨ 1000000000000 < m + y % 128 * 2097152
              · have hno : Hid (r = none) := Lib.hid (by rw [hgo3.out, if_pos hy1, if_pos hbad])
                clear hgo3
                by_cases hy0 : y = 0
                · subst hy0
                  clear hbad
                  go_wp2_with fail
                  go_ret3
                  exact ⟨by rw [hno.out]; rfl, Below.refl _ _⟩
                · have hb1 : 1000000000000 < m + y % 128 * 2097152 := by omega
                  have hq : (y == 0) = false := by simpa using hy0
                  clear hbad hy0
                  omega
              · have hyes : Hid (r = some (m + y % 128 * 2097152, (s : Int) + 3 + 1)) := Lib.hid (by rw [hgo3.out, if_pos hy1, if_neg hbad])
                have hb1 : ¬ 1000000000000 < m + y % 128 * 2097152 := fun h => hbad (.inr h)
                have hq : (y == 0) = false := by
                  have : y ≠ 0 := fun h => hbad (.inl ⟨h, by omega⟩)
                  simpa using this
                clear hbad hgo3
                go_wp2_with fail
                go_ret3
                exact ⟨by rw [hyes.out]; rfl, Below.refl _ _⟩
            · have hgo4 : Hid (r = rdGo zs s (6 - (3 + 1)) (3 + 1) (m + y % 128 * 2097152)) := Lib.hid (by rw [hgo3.out, if_neg hy1])
              clear hgo3
              go_wp2_with fail
              go_roundw
              case rel => exact ⟨3 + 1, _, by omega, by go_num, rfl, by omega, by simp; omega, trivial, hgo4⟩
              case measure => simp [intOf]
          · have hm2 : m < 268435456 := by simpa using hm1
            have hor2 : bits .or .i64 m (y % 128 * 268435456) = m + y % 128 * 268435456 := by simpa using hor
            have hgo3 : Hid (r = if y < 128 then if (y = 0 ∧ 0 < 4) ∨ 1000000000000 < m + y % 128 * 268435456 then none else some (m + y % 128 * 268435456, (s : Int) + 4 + 1) else rdGo zs s (6 - (4 + 1)) (4 + 1) (m + y % 128 * 268435456)) := Lib.hid (by have := hgo2.out; simpa using this)
            have hcy2 : wr.cell? ⟨b, off + (s + 4), none⟩ = some (.int .u8 y) := by simpa using hcy
            clear hm1 hor hgo2 hcy
            by_cases hy1 : y < 128
            · by_cases hbad : (y = 0 ∧ 0 < 4) ∨ 1000000000000 < m + y % 128 * 268435456
              · have hno : Hid (r = none) := Lib.hid (by rw [hgo3.out, if_pos hy1, if_pos hbad])
                clear hgo3
                by_cases hy0 : y = 0
                · subst hy0
                  clear hbad
                  go_wp2_with fail
                  go_ret3
                  exact ⟨by rw [hno.out]; rfl, Below.refl _ _⟩
                · have hb1 : 1000000000000 < m + y % 128 * 268435456 := by omega
                  have hq : (y == 0) = false := by simpa using hy0
                  clear hbad hy0
                  omega
              · have hyes : Hid (r = some (m + y % 128 * 268435456, (s : Int) + 4 + 1)) := Lib.hid (by rw [hgo3.out, if_pos hy1, if_neg hbad])
                have hb1 : ¬ 1000000000000 < m + y % 128 * 268435456 := fun h => hbad (.inr h)
                have hq : (y == 0) = false := by
                  have : y ≠ 0 := fun h => hbad (.inl ⟨h, by omega⟩)
                  simpa using this
                clear hbad hgo3
                go_wp2_with fail
                go_ret3
                exact ⟨by rw [hyes.out]; rfl, Below.refl _ _⟩
            · have hgo4 : Hid (r = rdGo zs s (6 - (4 + 1)) (4 + 1) (m + y % 128 * 268435456)) := Lib.hid (by rw [hgo3.out, if_neg hy1])
              clear hgo3
              go_wp2_with fail
              go_roundw
              case rel => exact ⟨4 + 1, _, by omega, by go_num, rfl, by omega, by simp; omega, trivial, hgo4⟩
              case measure => simp [intOf]
          · have hm2 : m < 34359738368 := by simpa using hm1
            have hor2 : bits .or .i64 m (y % 128 * 34359738368) = m + y % 128 * 34359738368 := by simpa using hor
            have hgo3 : Hid (r = if y < 128 then if (y = 0 ∧ 0 < 5) ∨ 1000000000000 < m + y % 128 * 34359738368 then none else some (m + y % 128 * 34359738368, (s : Int) + 5 + 1) else rdGo zs s (6 - (5 + 1)) (5 + 1) (m + y % 128 * 34359738368)) := Lib.hid (by have := hgo2.out; simpa using this)
            have hcy2 : wr.cell? ⟨b, off + (s + 5), none⟩ = some (.int .u8 y) := by simpa using hcy
            clear hm1 hor hgo2 hcy
            by_cases hy1 : y < 128
            · by_cases hbad : (y = 0 ∧ 0 < 5) ∨ 1000000000000 < m + y % 128 * 34359738368
              · have hno : Hid (r = none) := Lib.hid (by rw [hgo3.out, if_pos hy1, if_pos hbad])
                clear hgo3
                by_cases hy0 : y = 0
                · subst hy0
                  clear hbad
                  go_wp2_with fail
                  go_ret3
                  exact ⟨by rw [hno.out]; rfl, Below.refl _ _⟩
                · have hb1 : 1000000000000 < m + y % 128 * 34359738368 := by omega
                  have hq : (y == 0) = false := by simpa using hy0
                  clear hbad hy0
                  go_wp2_with fail
                  go_ret3
                  exact ⟨by rw [hno.out]; rfl, Below.refl _ _⟩
              · have hyes : Hid (r = some (m + y % 128 * 34359738368, (s : Int) + 5 + 1)) := Lib.hid (by rw [hgo3.out, if_pos hy1, if_neg hbad])
                have hb1 : ¬ 1000000000000 < m + y % 128 * 34359738368 := fun h => hbad (.inr h)
                have hq : (y == 0) = false := by
                  have : y ≠ 0 := fun h => hbad (.inl ⟨h, by omega⟩)
                  simpa using this
                clear hbad hgo3
                go_wp2_with fail
                go_ret3
                exact ⟨by rw [hyes.out]; rfl, Below.refl _ _⟩
            · have hgo4 : Hid (r = rdGo zs s (6 - (5 + 1)) (5 + 1) (m + y % 128 * 34359738368)) := Lib.hid (by rw [hgo3.out, if_neg hy1])
              clear hgo3
              go_wp2_with fail
              go_roundw
              case rel => exact ⟨5 + 1, _, by omega, by go_num, rfl, by omega, by simp; omega, trivial, hgo4⟩
              case measure => simp [intOf]
end Go.Proofs.Ytjigglnepcabmaa
