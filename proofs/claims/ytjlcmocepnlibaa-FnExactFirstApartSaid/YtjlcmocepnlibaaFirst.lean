/-
  FirstApart, both sides.
-/
import Derived.Test.YtjlcmocepnlibaaMarksI
import Derived.Test.YtjlcmocepnlibaaMinMax
namespace Go.Proofs.Ytjlcmocepnlibaa
open Go.RowKit
set_option linter.unusedVariables false

def apartN : List Int → List Int → Nat
  | x :: xs, y :: ys => if x = y then apartN xs ys + 1 else 0
  | _, _ => 0
def apartI (za zb : List Int) : Int := if za = zb then -1 else apartN za zb
theorem apartN_is (za : List Int) : ∀ (zb : List Int) (k : Nat), k ≤ za.length → k ≤ zb.length → (∀ j, j < k → za.getD j 0 = zb.getD j 0) → (k < za.length → k < zb.length → za.getD k 0 ≠ zb.getD k 0) → apartN za zb = k := by
  induction za with
  | nil => intro zb k h1 h2 h3 h4; simp at h1; subst h1; rfl
  | cons x xs ih =>
    intro zb k h1 h2 h3 h4
    cases zb with
    | nil => simp at h2; subst h2; rfl
    | cons y ys =>
      cases k with
      | zero =>
        have : x ≠ y := by simpa using h4 (by simp) (by simp)
        unfold apartN; rw [if_neg this]
      | succ k =>
        have h0 : x = y := by simpa using h3 0 (by omega)
        unfold apartN; rw [if_pos h0, ih ys k (by simpa using h1) (by simpa using h2) (fun j hj => by simpa using h3 (j + 1) (by omega)) (fun a b => by simpa using h4 (by simpa using a) (by simpa using b))]
theorem apart_same {za zb : List Int} (hl : za.length = zb.length) (h : ∀ j, j < za.length → za.getD j 0 = zb.getD j 0) : apartI za zb = -1 := by
  have : za = zb := List.ext_getElem hl fun j h1 h2 => by have := h j h1; simpa [List.getD, h1, h2] using this
  unfold apartI; rw [if_pos this]
theorem apart_len {za zb : List Int} (k : Nat) (h1 : k ≤ za.length) (h2 : k ≤ zb.length) (h : ∀ j, j < k → za.getD j 0 = zb.getD j 0) (hk : k = za.length ∨ k = zb.length) (hne : za.length ≠ zb.length) : apartI za zb = k := by
  unfold apartI; rw [if_neg (fun e => hne (by rw [e])), apartN_is za zb k h1 h2 h (fun a b => by omega)]
theorem apart_at {za zb : List Int} (k : Nat) (h1 : k < za.length) (h2 : k < zb.length) (h : ∀ j, j < k → za.getD j 0 = zb.getD j 0) (hne : za.getD k 0 ≠ zb.getD k 0) : apartI za zb = k := by
  unfold apartI; rw [if_neg (fun e => hne (by rw [e])), apartN_is za zb k (by omega) (by omega) h (fun _ _ => hne)]

set_option maxRecDepth 100000 in
set_option maxHeartbeats 400000 in
theorem firstApart_any (va vb : Value) (za zb : List Int) (ba bb : Nat) (w : World) (ha : RdAt .i64 w va za ba) (hb : RdAt .i64 w vb zb bb) (hl : za.length ≤ 1099511627776) (hl2 : zb.length ≤ 1099511627776) :
    Calls Try.prog 18 #[va, vb] w fun e w' => e = .returned (.int .i64 (apartI za zb)) ∧ Below w.heap.size w w' := by
  obtain ⟨aa, ca, rfl, -, -, hca⟩ := ha
  obtain ⟨ab, cb, rfl, -, -, hcb⟩ := hb
  obtain ⟨r, hr⟩ : ∃ r, r = apartI za zb := ⟨_, rfl⟩
  have Hr := Lib.hid hr
  rw [← hr]
  obtain ⟨n, hn⟩ : ∃ n, n = za.length := ⟨_, rfl⟩
  obtain ⟨m, hm⟩ : ∃ m, m = zb.length := ⟨_, rfl⟩
  have Hn := Lib.hid hn
  have Hm := Lib.hid hm
  rw [← hn] at hl ⊢
  rw [← hm] at hl2 ⊢
  clear hn hm hr
  obtain ⟨s, hs, hsn, hsm, hor⟩ : ∃ s : Nat, minI n m = s ∧ s ≤ n ∧ s ≤ m ∧ (s = n ∨ s = m) := by
    unfold minI
    by_cases h : (m : Int) < n
    · rw [if_pos h]; exact ⟨m, rfl, by omega, by omega, .inr rfl⟩
    · rw [if_neg h]; exact ⟨n, rfl, by omega, by omega, .inl rfl⟩
  have HM := Lib.hid (min_any (n : Int) (m : Int) w)
  rw [hs] at HM
  clear hs
  go_enter Try.func18, Try.ntmps18
  go_wp2_with fail
  refine HM.out.mono ?_
  rintro e w1 ⟨rfl, B1⟩
  clear HM
  have hca : za = [] ∨ ∃ off, aa = some ⟨ba, off, none⟩ ∧ ∀ j (hj : j < za.length), w1.cell? ⟨ba, off + j, none⟩ = some (.int .i64 za[j]) := hca.imp id fun ⟨off, e, hc⟩ => ⟨off, e, fun j hj => (B1.cell (World.block_lt_of_cell? _ _ (hc j hj))).trans (hc j hj)⟩
  have hcb : zb = [] ∨ ∃ off, ab = some ⟨bb, off, none⟩ ∧ ∀ j (hj : j < zb.length), w1.cell? ⟨bb, off + j, none⟩ = some (.int .i64 zb[j]) := hcb.imp id fun ⟨off, e, hc⟩ => ⟨off, e, fun j hj => (B1.cell (World.block_lt_of_cell? _ _ (hc j hj))).trans (hc j hj)⟩
  go_wp2_with fail
  go_loopw [6, 13] (fun _ i wr => ∃ k : Nat, k ≤ s ∧ i = .int .i64 k ∧ (∃ q, wr = w1.drewN q) ∧ Hid (∀ j, j < k → za.getD j 0 = zb.getD j 0)) (fun _ i _ => s - (intOf i).toNat)
  case atStart => exact ⟨0, Nat.zero_le _, rfl, ⟨0, rfl⟩, Lib.hid (fun j h => by omega)⟩
  case round =>
    obtain ⟨k, hk, rfl, ⟨q, rfl⟩, hsame⟩ := hrel
    by_cases hlt : k < s
    · have hza : k < za.length := by rw [← Hn.out]; omega
      have hzb : k < zb.length := by rw [← Hm.out]; omega
      have hkn : k < n := by omega
      have hkm : k < m := by omega
      rcases hca with h0 | ⟨oa, rfl, hc1⟩
      · subst h0; simp at hza
      rcases hcb with h0 | ⟨ob, rfl, hc2⟩
      · subst h0; simp at hzb
      obtain ⟨x, hx⟩ : ∃ x, Hid (x = za.getD k 0) := ⟨_, Lib.hid rfl⟩
      obtain ⟨y, hy⟩ : ∃ y, Hid (y = zb.getD k 0) := ⟨_, Lib.hid rfl⟩
      have h1 : w1.cell? ⟨ba, oa + k, none⟩ = some (.int .i64 x) := by rw [hc1 k hza, hx.out]; simp [List.getD, hza]
      have h2 : w1.cell? ⟨bb, ob + k, none⟩ = some (.int .i64 y) := by rw [hc2 k hzb, hy.out]; simp [List.getD, hzb]
      clear hc1 hc2
      by_cases hxy : x = y
      · subst hxy
        have hs2 : Hid (∀ j, j < k + 1 → za.getD j 0 = zb.getD j 0) := Lib.hid (fun j hj => by
          by_cases e : j = k
          · subst e; rw [← hx.out, ← hy.out]
          · exact hsame.out j (by omega))
        go_wp2_with fail
        go_quiet (fail)
        go_wp2_with fail
        go_roundw
        case rel => exact ⟨k + 1, by omega, by go_num, ⟨_, rfl⟩, hs2⟩
        case measure => simp [intOf]; omega
      · have hne : (x != y) = true := by simpa using hxy
        have hres : Hid (r = k) := Lib.hid (by rw [Hr.out]; exact apart_at k hza hzb hsame.out (by rw [← hx.out, ← hy.out]; exact hxy))
        clear hxy hor
        go_wp2_with fail
        go_quiet (fail)
        go_wp2_with fail
        go_ret
        exact ⟨by rw [hres.out]; rfl, (by first | exact below_drewN B1 _ | exact below_drewN (below_drewN B1 _) _)⟩
    · obtain rfl : k = s := by omega
      by_cases hnm : n = m
      · have hkn : k = n := by omega
        have hq : ((n : Int) == (m : Int)) = true := by simp; omega
        have hres : Hid (r = -1) := Lib.hid (by rw [Hr.out]; exact apart_same (by rw [← Hn.out, ← Hm.out]; exact hnm) (fun j hj => hsame.out j (by rw [hkn, Hn.out]; exact hj)))
        clear hor hkn
        go_wp2_with fail
        go_ret
        exact ⟨by rw [hres.out]; rfl, (by first | exact below_drewN B1 _ | exact below_drewN (below_drewN B1 _) _)⟩
      · have hq : ((n : Int) == (m : Int)) = false := by simp; omega
        have hres : Hid (r = k) := Lib.hid (by rw [Hr.out]; exact apart_len k (by rw [← Hn.out]; exact hsn) (by rw [← Hm.out]; exact hsm) hsame.out (by rw [← Hn.out, ← Hm.out]; exact hor) (by rw [← Hn.out, ← Hm.out]; exact hnm))
        clear hor
        go_wp2_with fail
        go_ret
        exact ⟨by rw [hres.out]; rfl, (by first | exact below_drewN B1 _ | exact below_drewN (below_drewN B1 _) _)⟩
set_option maxRecDepth 100000 in
set_option maxHeartbeats 400000 in
theorem sFirstApart_any (va vb : Value) (za zb : List Int) (ba bb : Nat) (w : World) (ha : RdAt .i64 w va za ba) (hb : RdAt .i64 w vb zb bb) (hl : za.length ≤ 1099511627776) (hl2 : zb.length ≤ 1099511627776) :
    Calls Try.prog 16 #[va, vb] w fun e w' => e = .returned (.int .i64 (apartI za zb)) ∧ Below w.heap.size w w' := by
  obtain ⟨aa, ca, rfl, -, -, hca⟩ := ha
  obtain ⟨ab, cb, rfl, -, -, hcb⟩ := hb
  obtain ⟨r, hr⟩ : ∃ r, r = apartI za zb := ⟨_, rfl⟩
  have Hr := Lib.hid hr
  rw [← hr]
  obtain ⟨n, hn⟩ : ∃ n, n = za.length := ⟨_, rfl⟩
  obtain ⟨m, hm⟩ : ∃ m, m = zb.length := ⟨_, rfl⟩
  have Hn := Lib.hid hn
  have Hm := Lib.hid hm
  rw [← hn] at hl ⊢
  rw [← hm] at hl2 ⊢
  clear hn hm hr
  go_enter Try.func16, Try.ntmps16
  go_wp2_with fail
  go_loopw [5] (fun i wr => ∃ k : Nat, k ≤ n ∧ k ≤ m ∧ i = .int .i64 k ∧ (∃ q, wr = w.drewN q) ∧ Hid (∀ j, j < k → za.getD j 0 = zb.getD j 0)) (fun i _ => n - (intOf i).toNat)
  case atStart => exact ⟨0, Nat.zero_le _, Nat.zero_le _, rfl, ⟨0, rfl⟩, Lib.hid (fun j h => by omega)⟩
  case round =>
    obtain ⟨k, hk, hk2, rfl, ⟨q, rfl⟩, hsame⟩ := hrel
    by_cases hkn : k < n
    · have hza : k < za.length := by rw [← Hn.out]; omega
      by_cases hkm : k < m
      · have hzb : k < zb.length := by rw [← Hm.out]; omega
        rcases hca with h0 | ⟨oa, rfl, hc1⟩
        · subst h0; simp at hza
        rcases hcb with h0 | ⟨ob, rfl, hc2⟩
        · subst h0; simp at hzb
        obtain ⟨x, hx⟩ : ∃ x, Hid (x = za.getD k 0) := ⟨_, Lib.hid rfl⟩
        obtain ⟨y, hy⟩ : ∃ y, Hid (y = zb.getD k 0) := ⟨_, Lib.hid rfl⟩
        have h1 : w.cell? ⟨ba, oa + k, none⟩ = some (.int .i64 x) := by rw [hc1 k hza, hx.out]; simp [List.getD, hza]
        have h2 : w.cell? ⟨bb, ob + k, none⟩ = some (.int .i64 y) := by rw [hc2 k hzb, hy.out]; simp [List.getD, hzb]
        have d1 : decide (n ≤ k) = false := by simp; omega
        have d2 : decide (m ≤ k) = false := by simp; omega
        clear hc1 hc2
        by_cases hxy : x = y
        · subst hxy
          have hs2 : Hid (∀ j, j < k + 1 → za.getD j 0 = zb.getD j 0) := Lib.hid (fun j hj => by
            by_cases e : j = k
            · subst e; rw [← hx.out, ← hy.out]
            · exact hsame.out j (by omega))
          go_wp2_with fail
          go_quiet (fail)
          go_wp2_with fail
          go_roundw
          case rel => exact ⟨k + 1, by omega, by omega, by go_num, ⟨_, rfl⟩, hs2⟩
          case measure => simp [intOf]; omega
        · have hne : (x != y) = true := by simpa using hxy
          have hres : Hid (r = k) := Lib.hid (by rw [Hr.out]; exact apart_at k hza hzb hsame.out (by rw [← hx.out, ← hy.out]; exact hxy))
          clear hxy
          go_wp2_with fail
          go_quiet (fail)
          go_wp2_with fail
          go_ret
          exact ⟨by rw [hres.out]; rfl, (by first | exact below_drewN (Below.refl _ _) _ | exact below_drewN (below_drewN (Below.refl _ _) _) _)⟩
      · have d1 : decide (n ≤ k) = false := by simp; omega
        have d2 : decide (m ≤ k) = true := by simp; omega
        have hres : Hid (r = k) := Lib.hid (by rw [Hr.out]; exact apart_len k (by omega) (by rw [← Hm.out]; exact hk2) hsame.out (.inr (by rw [← Hm.out]; omega)) (by rw [← Hn.out, ← Hm.out]; omega))
        go_wp2_with fail
        go_quiet (fail)
        go_wp2_with fail
        go_ret
        exact ⟨by rw [hres.out]; rfl, (by first | exact below_drewN (Below.refl _ _) _ | exact below_drewN (below_drewN (Below.refl _ _) _) _)⟩
    · obtain rfl : k = n := by omega
      by_cases hkm : k < m
      · have d1 : decide (k ≤ k) = true := by simp
        have hres : Hid (r = k) := Lib.hid (by rw [Hr.out]; exact apart_len k (by rw [← Hn.out]; exact hk) (by rw [← Hm.out]; exact hk2) hsame.out (.inl Hn.out) (by rw [← Hn.out, ← Hm.out]; omega))
        go_wp2_with fail
        go_quiet (fail)
        go_wp2_with fail
        go_ret
        exact ⟨by rw [hres.out]; rfl, (by first | exact below_drewN (Below.refl _ _) _ | exact below_drewN (below_drewN (Below.refl _ _) _) _)⟩
      · obtain rfl : k = m := by omega
        have hres : Hid (r = -1) := Lib.hid (by rw [Hr.out]; exact apart_same (by rw [← Hn.out, ← Hm.out]) (fun j hj => hsame.out j (by rw [Hn.out]; exact hj)))
        go_wp2_with fail
        go_ret
        exact ⟨by rw [hres.out]; rfl, (by first | exact below_drewN (Below.refl _ _) _ | exact below_drewN (below_drewN (Below.refl _ _) _) _)⟩
end Go.Proofs.Ytjlcmocepnlibaa
