/-
  HasCard, EqualInts (the program's, by the library's contracts), EqualInts (the model's).
-/
import Derived.Test.YtaginoiiomaheaaDoorModel05
import Derived.Test.YtaginoiiomaheaaDoorShelf
namespace Go.Proofs.YtaginoiiomaheaaDoor
open Go.RowKit

theorem cells_getD {k : IntKind} {w : World} {b off : Nat} {zs : List Int} (h : Cells k w b off zs) : ∀ j, j < zs.length → w.cell? ⟨b, off + j, none⟩ = some (.int k (zs.getD j 0)) := by
  intro j hj
  rw [h j hj]
  simp [List.getD, hj]
theorem contains_has (zs : List Int) (c : Int) : zs.contains c = hasI zs c := by
  unfold hasI
  by_cases h : c ∈ zs
  · simp [h]
  · simp [h]

theorem sliceEqual_any (va vb : Value) (za zb : List Int) (ba bb : Nat) (w : World) (ha : RdAt .i64 w va za ba) (hb : RdAt .i64 w vb zb bb) (hl : za.length ≤ 1099511627776) (hl2 : zb.length ≤ 1099511627776) :
    Calls Tryd.prog 33 #[va, vb] w fun e w' => e = .returned (.bool (decide (za = zb))) ∧ Below w.heap.size w w' := by
  obtain ⟨a1, c1, ea, -⟩ := id ha
  obtain ⟨a2, c2, eb, -⟩ := id hb
  by_cases hlen : za.length = zb.length
  · rcases ha.open with ⟨rfl, a, cap, rfl, hcm, hnil⟩ | ⟨hz, off, cap, rfl, hcap, hc⟩
    · subst eb
      have e0 : zb = [] := List.length_eq_zero_iff.1 hlen.symm
      subst e0
      refine (Tryd.slices_Equal_int_empty a a2 cap 0 c2 w (by omega)).mono ?_
      rintro e w' ⟨rfl, rfl⟩
      exact ⟨rfl, Below.refl _ _⟩
    · rcases hb.open with ⟨rfl, a', cap', rfl, hcm', hnil'⟩ | ⟨hz', off', cap', rfl, hcap', hc'⟩
      · exact absurd (List.length_eq_zero_iff.1 hlen) hz
      · refine (Tryd.slices_Equal_int ba off za.length cap bb off' zb.length cap' za zb w (Nat.le_refl _) (Nat.le_refl _) (by omega) (by omega) (cells_getD hc) (cells_getD hc')).mono ?_
        rintro e w' ⟨rfl, q, rfl⟩
        refine ⟨?_, below_drewN (Below.refl _ _) _⟩
        rw [List.take_length, List.take_length]
        by_cases e : za = zb
        · simp [e]
        · simp [e]
  · subst ea eb
    refine (Tryd.slices_Equal_int_lens a1 a2 za.length c1 zb.length c2 w hlen).mono ?_
    rintro e w' ⟨rfl, rfl⟩
    have : ¬ za = zb := fun e => hlen (by rw [e])
    exact ⟨by simp [this], Below.refl _ _⟩
theorem equalInts_any (va vb : Value) (za zb : List Int) (ba bb : Nat) (w : World) (ha : RdAt .i64 w va za ba) (hb : RdAt .i64 w vb zb bb) (hl : za.length ≤ 1099511627776) (hl2 : zb.length ≤ 1099511627776) :
    Calls Tryd.prog 21 #[va, vb] w fun e w' => e = .returned (.bool (decide (za = zb))) ∧ Below w.heap.size w w' := by
  have Hlib := Lib.hid (sliceEqual_any va vb za zb ba bb w ha hb hl hl2)
  obtain ⟨p0, cap0, rfl, -⟩ := id ha
  obtain ⟨p1, cap1, rfl, -⟩ := id hb
  go_enter Tryd.func21, Tryd.ntmps21
  go_wp2_with fail
  refine Hlib.out.mono ?_
  rintro e w1 ⟨rfl, hb1⟩
  go_wp2_with fail
  go_ret
  exact ⟨rfl, hb1⟩

set_option maxRecDepth 100000 in
set_option maxHeartbeats 400000 in
theorem sEqualInts_any (va vb : Value) (za zb : List Int) (ba bb : Nat) (w : World) (ha : RdAt .i64 w va za ba) (hb : RdAt .i64 w vb zb bb) (hl : za.length ≤ 1099511627776) (hl2 : zb.length ≤ 1099511627776) :
    Calls Tryd.prog 16 #[va, vb] w fun e w' => e = .returned (.bool (decide (za = zb))) ∧ Below w.heap.size w w' := by
  obtain ⟨aa, ca, rfl, -, -, hca⟩ := ha
  obtain ⟨ab, cb, rfl, -, -, hcb⟩ := hb
  obtain ⟨n, hn⟩ : ∃ n, n = za.length := ⟨_, rfl⟩
  obtain ⟨m, hm⟩ : ∃ m, m = zb.length := ⟨_, rfl⟩
  have Hn := Lib.hid hn
  have Hm := Lib.hid hm
  rw [← hn] at hl ⊢
  rw [← hm] at hl2 ⊢
  clear hn hm
  obtain ⟨r, hr⟩ : ∃ r, r = decide (za = zb) := ⟨_, rfl⟩
  have Hr := Lib.hid hr
  rw [← hr]
  clear hr
  by_cases hnm : n = m
  · subst hnm
    have hq : ((n : Int) != (n : Int)) = false := by simp
    go_enter Tryd.func16, Tryd.ntmps16
    go_wp2_with fail
    go_loopw [5] (fun i wr => ∃ k : Nat, k ≤ n ∧ i = .int .i64 k ∧ (∃ q, wr = w.drewN q) ∧ Hid (∀ j (h1 : j < za.length) (h2 : j < zb.length), j < k → za[j] = zb[j])) (fun i _ => n - (intOf i).toNat)
    case atStart => exact ⟨0, Nat.zero_le _, rfl, ⟨0, rfl⟩, Lib.hid (fun j _ _ h => by omega)⟩
    case round =>
      obtain ⟨k, hk, rfl, ⟨q, rfl⟩, hsame⟩ := hrel
      by_cases hlt : k < n
      · have hza : k < za.length := by rw [← Hn.out]; exact hlt
        have hzb : k < zb.length := by rw [← Hm.out]; exact hlt
        rcases hca with h0 | ⟨oa, rfl, hc1⟩
        · subst h0; simp at hza
        rcases hcb with h0 | ⟨ob, rfl, hc2⟩
        · subst h0; simp at hzb
        obtain ⟨x, hx⟩ : ∃ x, Hid (x = za[k]) := ⟨_, Lib.hid rfl⟩
        obtain ⟨y, hy⟩ : ∃ y, Hid (y = zb[k]) := ⟨_, Lib.hid rfl⟩
        have h1 : w.cell? ⟨ba, oa + k, none⟩ = some (.int .i64 x) := by rw [hc1 k hza, hx.out]
        have h2 : w.cell? ⟨bb, ob + k, none⟩ = some (.int .i64 y) := by rw [hc2 k hzb, hy.out]
        clear hc1 hc2
        by_cases hxy : x = y
        · subst hxy
          have hs2 : Hid (∀ j (h1 : j < za.length) (h2 : j < zb.length), j < k + 1 → za[j] = zb[j]) := Lib.hid (fun j h1 h2 hj => by
            by_cases e : j = k
            · subst e; rw [← hx.out, ← hy.out]
            · exact hsame.out j h1 h2 (by omega))
          go_wp2_with fail
          go_quiet (fail)
          go_wp2_with fail
          go_roundw
          case rel => exact ⟨k + 1, by omega, by go_num, ⟨_, rfl⟩, hs2⟩
          case measure => simp [intOf]; omega
        · have hne : (x != y) = true := by simpa using hxy
          have hno : Hid (r = false) := Lib.hid (by rw [Hr.out]; simpa using list_ne_of hza hzb (by rw [← hx.out, ← hy.out]; exact hxy))
          clear hxy
          go_wp2_with fail
          go_quiet (fail)
          go_wp2_with fail
          go_ret
          exact ⟨by rw [hno.out]; rfl, below_drewN (below_drewN (Below.refl _ _) _) _⟩
      · obtain rfl : k = n := by omega
        have hyes : Hid (r = true) := Lib.hid (by rw [Hr.out]; simpa using list_eq_of (by rw [← Hn.out, ← Hm.out]) (fun j h1 h2 => hsame.out j h1 h2 (by rw [Hn.out]; exact h1)))
        go_wp2_with fail
        go_ret
        exact ⟨by rw [hyes.out]; rfl, below_drewN (Below.refl _ _) _⟩
  · have hq : ((n : Int) != (m : Int)) = true := by simp; omega
    have hno : Hid (r = false) := Lib.hid (by rw [Hr.out]; simpa using fun e => hnm (by rw [Hn.out, Hm.out, e]))
    clear hnm
    go_enter Tryd.func16, Tryd.ntmps16
    go_wp2_with fail
    go_ret
    exact ⟨by rw [hno.out]; rfl, Below.refl _ _⟩
end Go.Proofs.YtaginoiiomaheaaDoor
