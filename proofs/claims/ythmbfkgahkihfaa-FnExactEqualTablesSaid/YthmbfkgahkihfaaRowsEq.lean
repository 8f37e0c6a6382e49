/-
  slices.EqualFunc over slices of slices, with EqualInts.
-/
import Derived.Test.YthmbfkgahkihfaaIntRows
import Derived.Test.YthmbfkgahkihfaaHas
namespace Go.Proofs.Ythmbfkgahkihfaa
open Go.RowKit
set_option linter.unusedVariables false
set_option linter.unusedSimpArgs false

theorem rows_eq_of {a b : List (List Int)} (hl : a.length = b.length) (h : ∀ j (ha : j < a.length) (hb : j < b.length), a[j] = b[j]) : a = b := List.ext_getElem hl h
theorem rows_ne_of {a b : List (List Int)} {j : Nat} (ha : j < a.length) (hb : j < b.length) (h : a[j] ≠ b[j]) : a ≠ b := fun e => h (by subst e; rfl)
set_option maxRecDepth 100000 in
set_option maxHeartbeats 1000000 in
theorem eqFunc_any (va vb : Value) (A B : List (List Int)) (w : World) (ha : RdRows .i64 w va A) (hb : RdRows .i64 w vb B) (hA : A.length ≤ 1048576) (hB : B.length ≤ 1048576) (sA : sumLen A ≤ 1048576) (sB : sumLen B ≤ 1048576) (r : Bool) (hr : decide (A = B) = r) :
    Calls Try.prog 50 #[va, vb, .func (.func 51) #[] #[]] w fun e w' => e = .returned (.bool r) ∧ Below w.heap.size w w' := by
  have Hra := Lib.hid (fun wx (hx : Below w.heap.size w wx) j (hj : j < A.length) => (ha.below hx).row hj)
  have Hrb := Lib.hid (fun wx (hx : Below w.heap.size w wx) j (hj : j < B.length) => (hb.below hx).row hj)
  obtain ⟨a, ca, rfl, -, -⟩ := id ha
  obtain ⟨b, cb, rfl, -, -⟩ := id hb
  have HsA : Hid (∀ j (hj : j < A.length), A[j].length ≤ 1048576) := Lib.hid (fun j hj => Nat.le_trans (len_le_sum A hj) sA)
  have HsB : Hid (∀ j (hj : j < B.length), B[j].length ≤ 1048576) := Lib.hid (fun j hj => Nat.le_trans (len_le_sum B hj) sB)
  obtain ⟨n, hn⟩ : ∃ n, n = A.length := ⟨_, rfl⟩
  obtain ⟨m, hm⟩ : ∃ m, m = B.length := ⟨_, rfl⟩
  have Hn := Lib.hid hn
  have Hm := Lib.hid hm
  rw [← hn] at hA ⊢
  rw [← hm] at hB ⊢
  have HR := Lib.hid hr
  clear hn hm ha hb sA sB hr
  by_cases hnm : n = m
  · subst hnm
    have hq : ((n : Int) != (n : Int)) = false := by simp
    go_enter Try.func50, Try.ntmps50
    go_wp2_with fail
    go_loopw [7, 8, 9, 17] (fun _ _ _ i wr => ∃ k : Nat, k ≤ n ∧ i = .int .i64 k ∧ Below w.heap.size w wr ∧ Hid (∀ j (h1 : j < A.length) (h2 : j < B.length), j < k → A[j] = B[j])) (fun _ _ _ i _ => n - (intOf i).toNat)
    case atStart => exact ⟨0, Nat.zero_le _, rfl, Below.refl _ _, Lib.hid (fun j _ _ h => by omega)⟩
    case round =>
      obtain ⟨k, hk, rfl, hB2, hsame⟩ := hrel
      by_cases hlt : k < n
      · have za : k < A.length := by rw [← Hn.out]; exact hlt
        have zb : k < B.length := by rw [← Hm.out]; exact hlt
        obtain ⟨blk, off, cap', p, c, b1, hv, hc, hr1, -⟩ := Hra.out wr hB2 k za
        obtain ⟨blk2, off2, cap2', p2, c2, b2, hv2, hc2, hr2, -⟩ := Hrb.out wr hB2 k zb
        have e1 := (Value.slice.inj hv).1
        have e2 := (Value.slice.inj hv2).1
        clear hv hv2
        subst e1 e2
        have HE := Lib.hid (equalInts_any _ _ A[k] B[k] b1 b2 wr hr1 hr2 (by have := HsA.out k za; omega) (by have := HsB.out k zb; omega))
        obtain ⟨x, hx⟩ : ∃ x, x = A[k].length := ⟨_, rfl⟩
        obtain ⟨y, hy⟩ : ∃ y, y = B[k].length := ⟨_, rfl⟩
        rw [← hx] at hc HE
        rw [← hy] at hc2 HE
        clear hr1 hr2 hx hy
        cases hq2 : decide (A[k] = B[k]) with
        | true =>
          have he : A[k] = B[k] := by simpa using hq2
          have hs2 : Hid (∀ j (h1 : j < A.length) (h2 : j < B.length), j < k + 1 → A[j] = B[j]) := Lib.hid (fun j h1 h2 hj => by
            by_cases e : j = k
            · subst e; exact he
            · exact hsame.out j h1 h2 (by omega))
          rw [hq2] at HE
          clear hq2 he hsame
          go_wp2_with fail
          refine HE.out.mono ?_
          rintro e w2 ⟨rfl, b2'⟩
          have hB3 := hB2.trans (b2'.mono hB2.size)
          go_wp2_with fail
          go_roundw
          case rel => exact ⟨k + 1, by omega, by go_num, hB3, hs2⟩
          case measure => simp [intOf]; omega
        | false =>
          have he : A[k] ≠ B[k] := by simpa using hq2
          obtain rfl : r = false := by rw [← HR.out]; simpa using rows_ne_of za zb he
          rw [hq2] at HE
          clear hq2 he hsame
          go_wp2_with fail
          refine HE.out.mono ?_
          rintro e w2 ⟨rfl, b2'⟩
          have hB3 := hB2.trans (b2'.mono hB2.size)
          go_wp2_with fail
          go_ret
          exact ⟨rfl, hB3⟩
      · obtain rfl : k = n := by omega
        obtain rfl : r = true := by rw [← HR.out]; simpa using rows_eq_of (by rw [← Hn.out, ← Hm.out]) (fun j h1 h2 => hsame.out j h1 h2 (by rw [Hn.out]; exact h1))
        go_wp2_with fail
        go_ret
        exact ⟨rfl, hB2⟩
  · have hq : ((n : Int) != (m : Int)) = true := by simp; omega
    obtain rfl : r = false := by
      rw [← HR.out]; simp only [decide_eq_false_iff_not]
      intro e; exact hnm (by rw [Hn.out, Hm.out, e])
    clear hnm
    go_enter Try.func50, Try.ntmps50
    go_wp2_with fail
    go_ret
    exact ⟨rfl, Below.refl _ _⟩
end Go.Proofs.Ythmbfkgahkihfaa
