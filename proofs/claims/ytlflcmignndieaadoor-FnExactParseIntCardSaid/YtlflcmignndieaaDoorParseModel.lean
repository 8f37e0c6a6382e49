/-
  The contract of the model ParseInt: just the decimal forms of the integers in range are read.
-/
import Derived.Test.YtlflcmignndieaaDoorParse
import Derived.Test.YtlflcmignndieaaDoorFormat
namespace Go.Proofs.YtlflcmignndieaaDoor
open Go.RowKit Go.Extern.Stop Go.Stop Go.Extern

theorem in_t (n lo hi : Int) (w : World) (h1 : lo ≤ n) (h2 : n ≤ hi) :
    Calls Tryd.prog 29 #[.int .i64 n, .int .i64 lo, .int .i64 hi] w fun e w' => e = .returned (.bool true) ∧ w = w' := by
  go_enter Tryd.func29, Tryd.ntmps29
  go_wp2
  go_ret
  exact ⟨rfl, rfl⟩
theorem in_f (n lo hi : Int) (w : World) (h : n < lo ∨ hi < n) :
    Calls Tryd.prog 29 #[.int .i64 n, .int .i64 lo, .int .i64 hi] w fun e w' => e = .returned (.bool false) ∧ w = w' := by
  by_cases h1 : lo ≤ n
  · have h2 : decide (n ≤ hi) = false := by simp; omega
    clear h
    go_enter Tryd.func29, Tryd.ntmps29
    go_wp2
    go_ret
    exact ⟨rfl, rfl⟩
  · clear h
    go_enter Tryd.func29, Tryd.ntmps29
    go_wp2
    go_ret
    exact ⟨rfl, rfl⟩

/-- What the loop of the model has seen. -/
def Dig (s : ByteArray) (k n : Nat) : Prop := allD (s.data.toList.take k) ∧ n = val (s.data.toList.take k) ∧ n < 10 ^ k
theorem Dig.step {s : ByteArray} {k n : Nat} (h : Dig s k n) (hk : k < s.size) (hd : isD s[k]) : Dig s (k + 1) (10 * n + (s[k].toNat - 48)) := by
  obtain ⟨h1, h2, h3⟩ := h
  unfold isD at hd
  refine ⟨?_, ?_, ?_⟩
  · rw [take_snoc s k hk]
    intro c hc
    rcases List.mem_append.1 hc with hc | hc
    · exact h1 c hc
    · rw [List.mem_singleton.1 hc]; exact hd
  · rw [take_snoc s k hk, val_snoc, h2]; omega
  · rw [Nat.pow_succ]; omega
theorem Dig.le {s : ByteArray} {k n : Nat} (h : Dig s k n) (hk : k ≤ 13) : n ≤ 10000000000000 := by
  have := h.2.2
  have h2 : 10 ^ k ≤ 10 ^ 13 := Nat.pow_le_pow_right (by omega) hk
  omega
theorem Dig.fin {s : ByteArray} {n : Nat} (h : Dig s s.size n) : allD s.data.toList ∧ n = val s.data.toList := by
  obtain ⟨h1, h2, _⟩ := h
  have e : s.data.toList.take s.size = s.data.toList := List.take_of_length_le (by simp)
  rw [e] at h1 h2
  exact ⟨h1, h2⟩
theorem not_nil {s : ByteArray} (hp : 0 < s.size) : s.data.toList ≠ [] := by
  intro e2
  have := congrArg List.length e2
  have h4 : s.size = s.data.size := rfl
  simp at this; rw [h4, this] at hp; simp at hp

set_option maxRecDepth 100000 in
set_option maxHeartbeats 1000000 in
theorem sParseInt_any (s : ByteArray) (w : World) :
    Calls Tryd.prog 17 #[.string s] w fun e w' => (∃ v, e = .returned v ∧ pI s.data.toList v) ∧ Below w.heap.size w w' := by
  by_cases hl : 1 ≤ s.size ∧ s.size ≤ 13
  · obtain ⟨hl1, hl2⟩ := hl
    go_enter Tryd.func17, Tryd.ntmps17
    go_wp2_with fail
    refine (in_t _ _ _ _ (by omega) (by omega)).mono ?_
    rintro e w' ⟨rfl, rfl⟩
    go_wp2_with fail
    go_loop [4, 5] (fun n i => ∃ k m : Nat, k ≤ s.size ∧ i = .int .i64 k ∧ n = .int .i64 m ∧ Dig s k m) (fun _ i => s.size - (intOf i).toNat)
    case atStart => exact ⟨0, 0, Nat.zero_le _, rfl, rfl, ⟨by intro c hc; simp at hc, rfl, by simp⟩⟩
    case round =>
      obtain ⟨k, m, hk, rfl, rfl, hD⟩ := hrel
      have hm := hD.le (by omega)
      by_cases hlt : k < s.size
      · by_cases hd : isD s[k]
        · have hd' : 48 ≤ s[k].toNat ∧ s[k].toNat ≤ 57 := hd
          obtain ⟨hd1, hd2⟩ := hd'
          have hD2 := hD.step hlt hd
          clear hD hd
          go_wp2_with fail
          refine (in_t _ _ _ _ (by omega) (by omega)).mono ?_
          rintro e w' ⟨rfl, rfl⟩
          go_wp2_with fail
          go_round
          case rel => exact ⟨k + 1, 10 * m + (s[k].toNat - 48), by omega, by go_num, by go_num, hD2⟩
          case measure => simp [intOf]; omega
        · have hno := Lib.hid (Seen.bad hlt hd)
          have hd' : s[k].toNat < 48 ∨ 57 < s[k].toNat := by unfold isD at hd; omega
          have hD := Lib.hid hd'
          have hb : s[k].toNat < 256 := s[k].toNat_lt
          clear hd hd'
          go_wp2_with fail
          refine (in_f _ _ _ _ (by have := hD.out; omega)).mono ?_
          rintro e w' ⟨rfl, rfl⟩
          go_wp2_with fail
          go_ret2
          exact ⟨⟨_, rfl, .inr ⟨hno.out, rfl⟩⟩, Below.refl _ _⟩
      · obtain rfl : k = s.size := by omega
        have hf := hD.fin
        have hA := Lib.hid hf.1
        have hv := Lib.hid hf.2
        clear hD hf
        by_cases hM : 1000000000000 < m
        · have hno : Hid (¬ okD s.data.toList) := Lib.hid (fun h => by have := h.2.2.2; rw [← hv.out] at this; omega)
          go_wp2_with fail
          go_ret2
          exact ⟨⟨_, rfl, .inr ⟨hno.out, rfl⟩⟩, Below.refl _ _⟩
        · have hw : (Lit.int .i64 (m : Int)).wf = true := WalkArith.wf_i64 (by omega)
          have ht : Lib.itoa (m : Int) = Lib.decDigits (val s.data.toList) := by rw [itoa_nat, hv.out]
          have hT := Lib.hid ht
          clear ht
          go_wp2_with fail
          refine (sFormatInt_any _ _ hw).mono ?_
          rintro e w' ⟨rfl, hb⟩
          by_cases hc : Lib.decDigits (val s.data.toList) = s.data.toList
          · have he : (Lib.itoa (m : Int) == s.toList) = true := by rw [hT.out, ByteArray.toList_eq, beq_iff_eq]; exact hc
            have hyes : Hid (okD s.data.toList) := Lib.hid ⟨not_nil hl1, (dec_iff hA.out (not_nil hl1)).1 hc, hA.out, by rw [← hv.out]; omega⟩
            clear hc
            go_wp2_with fail
            go_ret2
            exact ⟨⟨_, rfl, .inl ⟨hyes.out, by rw [hv.out]; rfl⟩⟩, hb⟩
          · have he : (Lib.itoa (m : Int) == s.toList) = false := by rw [hT.out, ByteArray.toList_eq, beq_eq_false_iff_ne]; exact hc
            have hno : Hid (¬ okD s.data.toList) := Lib.hid (fun h => hc (canon _ h.2.2.1 h.1 h.2.1))
            clear hc
            go_wp2_with fail
            go_ret2
            exact ⟨⟨_, rfl, .inr ⟨hno.out, rfl⟩⟩, hb⟩
  · have hno : Hid (¬ okD s.data.toList) := Lib.hid (fun h => by
      have h1 := okD_len h
      have h2 := h.1
      rw [Array.length_toList] at h1
      have h3 : s.data.size = s.size := rfl
      rw [h3] at h1
      have h4 : s.size ≠ 0 := fun e => h2 (List.eq_nil_of_length_eq_zero (by simpa using e))
      omega)
    have hL : Hid (s.size < 1 ∨ 13 < s.size) := Lib.hid (by omega)
    clear hl
    go_enter Tryd.func17, Tryd.ntmps17
    go_wp2_with fail
    refine (in_f _ _ _ _ (by have := hL.out; omega)).mono ?_
    rintro e w' ⟨rfl, rfl⟩
    go_wp2_with fail
    go_ret2
    exact ⟨⟨_, rfl, .inr ⟨hno.out, rfl⟩⟩, Below.refl _ _⟩
end Go.Proofs.YtlflcmignndieaaDoor
