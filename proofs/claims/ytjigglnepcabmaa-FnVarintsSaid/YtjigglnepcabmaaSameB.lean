/-
  The helper sameBytes of the laws, by contract.
-/
import Derived.Test.YtjigglnepcabmaaMarksB
namespace Go.Proofs.Ytjigglnepcabmaa
open Go.RowKit

set_option maxRecDepth 100000 in
set_option maxHeartbeats 400000 in
theorem sameBytes_any (va vb : Value) (za zb : List Int) (ba bb : Nat) (w : World) (ha : RdAt .u8 w va za ba) (hb : RdAt .u8 w vb zb bb) (hl : za.length ≤ 1099511627776) (hl2 : zb.length ≤ 1099511627776) :
    Calls Try.prog 18 #[va, vb] w fun e w' => (∃ r : Bool, e = .returned (.bool r) ∧ (r = true ↔ za = zb)) ∧ ∃ n, w' = w.drewN n := by
  obtain ⟨aa, ca, rfl, -, -, hca⟩ := ha
  obtain ⟨ab, cb, rfl, -, -, hcb⟩ := hb
  obtain ⟨n, hn⟩ : ∃ n, n = za.length := ⟨_, rfl⟩
  obtain ⟨m, hm⟩ : ∃ m, m = zb.length := ⟨_, rfl⟩
  have Hn := Lib.hid hn
  have Hm := Lib.hid hm
  rw [← hn] at hl ⊢
  rw [← hm] at hl2 ⊢
  clear hn hm
  by_cases hnm : n = m
  · subst hnm
    have hq : ((n : Int) != (n : Int)) = false := by simp
    go_enter Try.func18, Try.ntmps18
    go_wp2_with fail
    go_loopw [5] (fun i wr => ∃ k : Nat, k ≤ n ∧ i = .int .i64 k ∧ (∃ q, wr = w.drewN q) ∧ Hid (∀ j (h1 : j < za.length) (h2 : j < zb.length), j < k → za[j] = zb[j])) (fun i _ => n - (intOf i).toNat)
    case atStart => exact ⟨0, Nat.zero_le _, rfl, ⟨0, rfl⟩, Lib.hid (fun j _ _ h => by omega)⟩
    case round =>
      obtain ⟨k, hk, rfl, ⟨q, rfl⟩, hsame⟩ := hrel
      by_cases hlt : k < n
      · have hza : k < za.length := by rw [← Hn.out]; exact hlt
        have hzb : k < zb.length := by rw [← Hm.out]; exact hlt
        rcases hca with h0 | ⟨oa, rfl, hc1⟩
        · subst h0; simp at hza
        rcases hcb with h0 | ⟨ob, rfl, hc2⟩
        · subst h0; simp at hzb
        obtain ⟨x, hx⟩ : ∃ x, Hid (x = za[k]) := ⟨_, Lib.hid rfl⟩
        obtain ⟨y, hy⟩ : ∃ y, Hid (y = zb[k]) := ⟨_, Lib.hid rfl⟩
        have h1 : w.cell? ⟨ba, oa + k, none⟩ = some (.int .u8 x) := by rw [hc1 k hza, hx.out]
        have h2 : w.cell? ⟨bb, ob + k, none⟩ = some (.int .u8 y) := by rw [hc2 k hzb, hy.out]
        clear hc1 hc2
        by_cases hxy : x = y
        · subst hxy
          have hs2 : Hid (∀ j (h1 : j < za.length) (h2 : j < zb.length), j < k + 1 → za[j] = zb[j]) := Lib.hid (fun j h1 h2 hj => by
            by_cases e : j = k
            · subst e; rw [← hx.out, ← hy.out]
            · exact hsame.out j h1 h2 (by omega))
          go_wp2_with fail
          go_quiet (fail)
          go_wp2_with fail
          go_roundw
          case rel => exact ⟨k + 1, by omega, by go_num, ⟨_, rfl⟩, hs2⟩
          case measure => simp [intOf]; omega
        · have hne : (x != y) = true := by simpa using hxy
          have hno : Hid (za ≠ zb) := Lib.hid (list_ne_of hza hzb (by rw [← hx.out, ← hy.out]; exact hxy))
          clear hxy
          go_wp2_with fail
          go_quiet (fail)
          go_wp2_with fail
          go_ret
          exact ⟨⟨_, rfl, ⟨(fun h => by cases h), fun h => absurd h hno.out⟩⟩, ⟨_, World.drewN_drewN _ _ _⟩⟩
      · obtain rfl : k = n := by omega
        have hyes : Hid (za = zb) := Lib.hid (list_eq_of (by rw [← Hn.out, ← Hm.out]) (fun j h1 h2 => hsame.out j h1 h2 (by rw [Hn.out]; exact h1)))
        go_wp2_with fail
        go_ret
        exact ⟨⟨_, rfl, ⟨fun _ => hyes.out, fun _ => rfl⟩⟩, ⟨_, rfl⟩⟩
  · have hq : ((n : Int) != (m : Int)) = true := by simp; omega
    have hno : Hid (za ≠ zb) := Lib.hid (fun e => hnm (by rw [Hn.out, Hm.out, e]))
    clear hnm
    go_enter Try.func18, Try.ntmps18
    go_wp2_with fail
    go_ret
    exact ⟨⟨_, rfl, ⟨(fun h => by cases h), fun h => absurd h hno.out⟩⟩, ⟨0, rfl⟩⟩
theorem sameBytes_t (va vb : Value) (zs : List Int) (ba bb : Nat) (w : World) (ha : RdAt .u8 w va zs ba) (hb : RdAt .u8 w vb zs bb) (hl : zs.length ≤ 1099511627776) :
    Calls Try.prog 18 #[va, vb] w fun e w' => e = .returned (.bool true) ∧ Below w.heap.size w w' := by
  refine (sameBytes_any va vb zs zs ba bb w ha hb hl hl).mono ?_
  rintro e w' ⟨⟨r, rfl, hr⟩, n, rfl⟩
  have : r = true := hr.2 rfl
  subst this
  exact ⟨rfl, below_drewN (Below.refl _ _) _⟩

end Go.Proofs.Ytjigglnepcabmaa
