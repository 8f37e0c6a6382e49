/-
  HasCard, EqualInts (the program's, by the library's contracts), EqualInts (the model's).
-/
import Derived.Test.YtbojhbhniollaaaDoorModel05
import Derived.Test.YtbojhbhniollaaaDoorShelf
namespace Go.Proofs.YtbojhbhniollaaaDoor
open Go.RowKit

theorem cells_getD {k : IntKind} {w : World} {b off : Nat} {zs : List Int} (h : Cells k w b off zs) : ∀ j, j < zs.length → w.cell? ⟨b, off + j, none⟩ = some (.int k (zs.getD j 0)) := by
  intro j hj
  rw [h j hj]
  simp [List.getD, hj]
theorem contains_has (zs : List Int) (c : Int) : zs.contains c = hasI zs c := by
  unfold hasI
  by_cases h : c ∈ zs
  · simp [h]
  · simp [h]

theorem hasCard_any (v : Value) (zs : List Int) (b : Nat) (c : Int) (w : World) (h : RdAt .i64 w v zs b) (hl : zs.length ≤ 1099511627776) :
    Calls Tryd.prog 76 #[v, .int .i64 c] w fun e w' => e = .returned (.bool (hasI zs c)) ∧ w = w' := by
  have hlib : Calls Tryd.prog 99 #[v, .int .i64 c] w fun e w' => e = .returned (.bool (hasI zs c)) ∧ w = w' := by
    rcases h.open with ⟨rfl, a, cap, rfl, hcm, hnil⟩ | ⟨hz, off, cap, rfl, hcap, hc⟩
    · exact (Tryd.slices_Contains_int_empty a cap c w).mono fun e w' ⟨h1, h2⟩ => ⟨by rw [h1]; rfl, h2.symm⟩
    · refine (Tryd.slices_Contains_int b off zs.length cap zs c w (Nat.le_refl _) (by omega) (cells_getD hc)).mono ?_
      rintro e w' ⟨rfl, h2⟩
      exact ⟨by rw [List.take_length, contains_has], h2.symm⟩
  have Hlib := Lib.hid hlib
  clear hlib
  obtain ⟨p0, cap0, rfl, -⟩ := id h
  go_enter Tryd.func76, Tryd.ntmps76
  go_wp2_with fail
  refine Hlib.out.mono ?_
  rintro e _w ⟨rfl, rfl⟩
  go_wp2_with fail
  go_ret
  exact ⟨rfl, rfl⟩

set_option maxRecDepth 100000 in
set_option maxHeartbeats 400000 in
theorem sEqualInts_any (va vb : Value) (za zb : List Int) (ba bb : Nat) (w : World) (ha : RdAt .i64 w va za ba) (hb : RdAt .i64 w vb zb bb) (hl : za.length ≤ 1099511627776) (hl2 : zb.length ≤ 1099511627776) :
    Calls Tryd.prog 58 #[va, vb] w fun e w' => e = .returned (.bool (decide (za = zb))) ∧ Below w.heap.size w w' := by
  obtain ⟨aa, ca, rfl, -, -, hca⟩ := ha
  obtain ⟨ab, cb, rfl, -, -, hcb⟩ := hb
  obtain ⟨n, hn⟩ : ∃ n, n = za.length := ⟨_, rfl⟩
  obtain ⟨m, hm⟩ : ∃ m, m = zb.length := ⟨_, rfl⟩
  have Hn := Lib.hid hn
  have Hm := Lib.hid hm
  rw [← hn] at hl ⊢
  rw [← hm] at hl2 ⊢
  clear hn hm
  obtain ⟨r, hr⟩ : ∃ r, r = decide (za = zb) := ⟨_, rfl⟩
  have Hr := Lib.hid hr
  rw [← hr]
  clear hr
  by_cases hnm : n = m
  · subst hnm
    have hq : ((n : Int) != (n : Int)) = false := by simp
    go_enter Tryd.func58, Tryd.ntmps58
    go_wp2_with fail
    go_loopw [5] (fun i wr => ∃ k : Nat, k ≤ n ∧ i = .int .i64 k ∧ (∃ q, wr = w.drewN q) ∧ Hid (∀ j (h1 : j < za.length) (h2 : j < zb.length), j < k → za[j] = zb[j])) (fun i _ => n - (intOf i).toNat)
    case atStart => exact ⟨0, Nat.zero_le _, rfl, ⟨0, rfl⟩, Lib.hid (fun j _ _ h => by omega)⟩
    case round =>
      obtain ⟨k, hk, rfl, ⟨q, rfl⟩, hsame⟩ := hrel
      by_cases hlt : k < n
      · have hza : k < za.length := by rw [← Hn.out]; exact hlt
        have hzb : k < zb.length := by rw [← Hm.out]; exact hlt
        rcases hca with h0 | ⟨oa, rfl, hc1⟩
        · subst h0; simp at hza
        rcases hcb with h0 | ⟨ob, rfl, hc2⟩
        · subst h0; simp at hzb
        obtain ⟨x, hx⟩ : ∃ x, Hid (x = za[k]) := ⟨_, Lib.hid rfl⟩
        obtain ⟨y, hy⟩ : ∃ y, Hid (y = zb[k]) := ⟨_, Lib.hid rfl⟩
        have h1 : w.cell? ⟨ba, oa + k, none⟩ = some (.int .i64 x) := by rw [hc1 k hza, hx.out]
        have h2 : w.cell? ⟨bb, ob + k, none⟩ = some (.int .i64 y) := by rw [hc2 k hzb, hy.out]
        clear hc1 hc2
        by_cases hxy : x = y
        · subst hxy
          have hs2 : Hid (∀ j (h1 : j < za.length) (h2 : j < zb.length), j < k + 1 → za[j] = zb[j]) := Lib.hid (fun j h1 h2 hj => by
            by_cases e : j = k
            · subst e; rw [← hx.out, ← hy.out]
            · exact hsame.out j h1 h2 (by omega))
          go_wp2_with fail
          go_quiet (fail)
          go_wp2_with fail
          go_roundw
          case rel => exact ⟨k + 1, by omega, by go_num, ⟨_, rfl⟩, hs2⟩
          case measure => simp [intOf]; omega
        · have hne : (x != y) = true := by simpa using hxy
          have hno : Hid (r = false) := Lib.hid (by rw [Hr.out]; simpa using list_ne_of hza hzb (by rw [← hx.out, ← hy.out]; exact hxy))
          clear hxy
          go_wp2_with fail
          go_quiet (fail)
          go_wp2_with fail
          go_ret
          exact ⟨by rw [hno.out]; rfl, below_drewN (below_drewN (Below.refl _ _) _) _⟩
      · obtain rfl : k = n := by omega
        have hyes : Hid (r = true) := Lib.hid (by rw [Hr.out]; simpa using list_eq_of (by rw [← Hn.out, ← Hm.out]) (fun j h1 h2 => hsame.out j h1 h2 (by rw [Hn.out]; exact h1)))
        go_wp2_with fail
        go_ret
        exact ⟨by rw [hyes.out]; rfl, below_drewN (Below.refl _ _) _⟩
  · have hq : ((n : Int) != (m : Int)) = true := by simp; omega
    have hno : Hid (r = false) := Lib.hid (by rw [Hr.out]; simpa using fun e => hnm (by rw [Hn.out, Hm.out, e]))
    clear hnm
    go_enter Tryd.func58, Tryd.ntmps58
    go_wp2_with fail
    go_ret
    exact ⟨by rw [hno.out]; rfl, Below.refl _ _⟩
end Go.Proofs.YtbojhbhniollaaaDoor
