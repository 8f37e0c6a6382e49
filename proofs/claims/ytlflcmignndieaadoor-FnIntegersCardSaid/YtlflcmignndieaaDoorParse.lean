/-
  The contract of ParseInt: just the decimal forms of the integers in range are read.
-/
import Derived.Test.YtlflcmignndieaaDoorArith
import Derived.Test.YtlflcmignndieaaDoorDecimal
import Derived.WalkSmall

import Derived.LoopTactic
import Derived.Deep.QuietTactic
import Derived.BigQuiet
import Derived.Lib.Hide
namespace Go.Proofs.YtlflcmignndieaaDoor
open Go.RowKit Go.Extern.Stop Go.Stop Go.Extern

theorem inRange_t (n lo hi : Int) (w : World) (h1 : lo ≤ n) (h2 : n ≤ hi) :
    Calls Tryd.prog 32 #[.int .i64 n, .int .i64 lo, .int .i64 hi] w fun e w' => e = .returned (.bool true) ∧ w = w' := by
  go_enter Tryd.func32, Tryd.ntmps32
  go_wp2
  go_ret
  exact ⟨rfl, rfl⟩
theorem inRange_f (n lo hi : Int) (w : World) (h : n < lo ∨ hi < n) :
    Calls Tryd.prog 32 #[.int .i64 n, .int .i64 lo, .int .i64 hi] w fun e w' => e = .returned (.bool false) ∧ w = w' := by
  by_cases h1 : lo ≤ n
  · have h2 : decide (n ≤ hi) = false := by simp; omega
    clear h
    go_enter Tryd.func32, Tryd.ntmps32
    go_wp2
    go_ret
    exact ⟨rfl, rfl⟩
  · clear h
    go_enter Tryd.func32, Tryd.ntmps32
    go_wp2
    go_ret
    exact ⟨rfl, rfl⟩

def Read (l : List UInt8) (a0 a1 : Addr) (e : Ending) : Prop :=
  (okD l ∧ e = .returned (.tuple #[.int .i64 (val l), .nilIface])) ∨
  (¬ okD l ∧ ∃ a, (a = a0 ∨ a = a1) ∧ e = .returned (.tuple #[.int .i64 0, .iface 86 (.pointer (some a))]))
theorem Read.no0 {l : List UInt8} {a0 a1 : Addr} (h : ¬ okD l) : Read l a0 a1 (.returned (.tuple #[.int .i64 0, .iface 86 (.pointer (some a0))])) := .inr ⟨h, a0, .inl rfl, rfl⟩
theorem Read.no1 {l : List UInt8} {a0 a1 : Addr} (h : ¬ okD l) : Read l a0 a1 (.returned (.tuple #[.int .i64 0, .iface 86 (.pointer (some a1))])) := .inr ⟨h, a1, .inr rfl, rfl⟩
theorem Read.yes {l : List UInt8} {a0 a1 : Addr} {n : Int} (h : okD l) (hn : n = val l) : Read l a0 a1 (.returned (.tuple #[.int .i64 n, .nilIface])) := .inl ⟨h, by rw [hn]⟩

theorem not_empty {s : ByteArray} (h : 0 < s.size) : s.toList.isEmpty = false := by
  rw [ByteArray.toList_eq]
  cases e : s.data.toList with
  | nil => have := congrArg List.length e; simp at this; have h2 : s.size = s.data.size := rfl; rw [h2, this] at h; simp at h
  | cons => rfl
theorem take_snoc (s : ByteArray) (k : Nat) (h : k < s.size) : s.data.toList.take (k + 1) = s.data.toList.take k ++ [s[k]] := by
  rw [List.take_succ_eq_append_getElem (by simpa using h)]; rfl
theorem mem_byte (s : ByteArray) (k : Nat) (h : k < s.size) : s[k] ∈ s.data.toList := by
  have : s[k] = s.data.toList[k]'(by simpa using h) := rfl
  rw [this]; exact List.getElem_mem _
theorem head_byte (s : ByteArray) (h : 0 < s.size) : s.data.toList.head? = some s[0] := by
  have : s[0] = s.data.toList[0]'(by simpa using h) := rfl
  rw [this, List.head?_eq_getElem?, List.getElem?_eq_getElem]

/-- What the loop has seen. -/
def Seen (s : ByteArray) (k n : Nat) : Prop := allD (s.data.toList.take k) ∧ n = val (s.data.toList.take k) ∧ n ≤ 1000000000000
theorem Seen.step {s : ByteArray} {k n : Nat} (h : Seen s k n) (hk : k < s.size) (hd : isD s[k]) (hm : n * 10 + (s[k].toNat - 48) ≤ 1000000000000) : Seen s (k + 1) (n * 10 + (s[k].toNat - 48)) := by
  obtain ⟨h1, h2, h3⟩ := h
  refine ⟨?_, ?_, hm⟩
  · rw [take_snoc s k hk]
    intro c hc
    rcases List.mem_append.1 hc with hc | hc
    · exact h1 c hc
    · rw [List.mem_singleton.1 hc]; exact hd
  · rw [take_snoc s k hk, val_snoc, h2]
theorem Seen.big {s : ByteArray} {k n : Nat} (h : Seen s k n) (hk : k < s.size) (hm : ¬ n * 10 + (s[k].toNat - 48) ≤ 1000000000000) : ¬ okD s.data.toList := by
  rintro ⟨_, _, _, h4⟩
  have := val_mono (s.data.toList.take (k + 1)) (s.data.toList.drop (k + 1))
  rw [List.take_append_drop, take_snoc s k hk, val_snoc, ← h.2.1] at this
  omega
theorem Seen.bad {s : ByteArray} {k : Nat} (hk : k < s.size) (hd : ¬ isD s[k]) : ¬ okD s.data.toList := by
  rintro ⟨_, _, h3, _⟩
  exact hd (h3 _ (mem_byte s k hk))
theorem Seen.all {s : ByteArray} {n : Nat} (h : Seen s s.size n) (hp : 0 < s.size) (hh : ¬ (1 < s.size ∧ s[0] = 48)) : okD s.data.toList ∧ n = val s.data.toList := by
  obtain ⟨h1, h2, h3⟩ := h
  have e : s.data.toList.take s.size = s.data.toList := List.take_of_length_le (by simp)
  rw [e] at h1 h2
  refine ⟨⟨?_, ?_, h1, by omega⟩, h2⟩
  · intro e2
    have := congrArg List.length e2
    have h4 : s.size = s.data.size := rfl
    simp at this; rw [h4, this] at hp; simp at hp
  · rintro ⟨a, b⟩
    rw [head_byte s hp] at b
    exact hh ⟨by simpa using a, Option.some.inj b⟩

set_option maxRecDepth 100000 in
set_option maxHeartbeats 1000000 in
theorem readDecimal_any (a0 a1 : Addr) (s : ByteArray) (w : World) (hs : s.size ≤ 1048576) (hS : Sent a0 a1 w) :
    Calls Tryd.prog 24 #[.string s] w fun e w' => Read s.data.toList a0 a1 e ∧ Below w.heap.size w w' := by
  have v0 := hS.v0
  by_cases h0 : s.size = 0
  · have hno : Hid (¬ okD s.data.toList) := Lib.hid (by
      rintro ⟨h, _⟩
      exact h (List.eq_nil_of_length_eq_zero (by simpa using h0)))
    have he : s.toList = [] := by rw [ByteArray.toList_eq]; exact List.eq_nil_of_length_eq_zero (by simpa using h0)
    clear h0
    go_enter Tryd.func24, Tryd.ntmps24
    go_wp2_with fail
    go_quiet (fail)
    go_wp2
    go_ret2
    exact ⟨Read.no0 hno.out, below_drewN (Below.refl _ _) _⟩
  · have hp : 0 < s.size := by omega
    have hne := not_empty hp
    have hz : ¬ s.toList = [] := by intro e; rw [e] at hne; simp at hne
    by_cases h1 : 1 < s.size ∧ s[0] = 48
    · obtain ⟨h1, h2⟩ := h1
      have hno : Hid (¬ okD s.data.toList) := Lib.hid (fun h => h.2.1 ⟨by simpa using h1, by rw [head_byte s hp, h2]⟩)
      have h3 : ((s[0].toNat : Int) == 48) = true := by rw [h2]; rfl
      clear h2 h0
      go_enter Tryd.func24, Tryd.ntmps24
      go_wp2_with fail
      go_quiet (fail)
      go_wp2
      go_ret2
      exact ⟨Read.no0 hno.out, below_drewN (Below.refl _ _) _⟩
    · have hh : Hid (¬ (1 < s.size ∧ s[0] = 48)) := Lib.hid h1
      have hloop : 1 < s.size → ((s[0].toNat : Int) == 48) = false := fun h => by
        have : s[0] ≠ 48 := fun e => h1 ⟨h, e⟩
        have h3 : s[0].toNat ≠ 48 := fun e => this (by apply UInt8.toNat_inj.1; rw [e]; rfl)
        simp; omega
      clear h1 h0
      go_enter Tryd.func24, Tryd.ntmps24
      by_cases h1 : 1 < s.size
      · have h3 := hloop h1
        clear hloop
        go_wp2_with fail
        go_loop [4, 5] (fun n i => ∃ k m : Nat, k ≤ s.size ∧ i = .int .i64 k ∧ n = .int .i64 m ∧ Seen s k m) (fun _ i => s.size - (intOf i).toNat)
        case atStart => exact ⟨0, 0, Nat.zero_le _, rfl, rfl, ⟨by intro c hc; simp at hc, rfl, by omega⟩⟩
        case round =>
          obtain ⟨k, m, hk, rfl, rfl, hSeen⟩ := hrel
          have hm := hSeen.2.2
          by_cases hlt : k < s.size
          · by_cases hd : isD s[k]
            · have hd' : 48 ≤ s[k].toNat ∧ s[k].toNat ≤ 57 := hd
              obtain ⟨hd1, hd2⟩ := hd'
              go_wp2_with fail
              refine (inRange_t _ _ _ _ (by omega) (by omega)).mono ?_
              rintro e w' ⟨rfl, rfl⟩
              by_cases hM : m * 10 + (s[k].toNat - 48) ≤ 1000000000000
              · have hS2 := hSeen.step hlt hd hM
                clear hSeen hd
                go_wp2_with fail
                refine (checkRange_in _ _ _ _ (by omega) (by omega)).mono ?_
                rintro e w' ⟨rfl, rfl⟩
                go_wp2_with fail
                refine (isReason_nil a0 a1 _ hS).mono ?_
                rintro e w' ⟨rfl, rfl⟩
                go_wp2_with fail
                go_round
                case rel => exact ⟨k + 1, m * 10 + (s[k].toNat - 48), by omega, by go_num, by go_num, hS2⟩
                case measure => simp [intOf]; omega
              · have hno := Lib.hid (hSeen.big hlt hM)
                clear hSeen hd
                go_wp2_with fail
                refine (checkRange_out a0 a1 _ _ _ _ (by omega) hS).mono ?_
                rintro e w' ⟨rfl, rfl⟩
                go_wp2_with fail
                refine (isReason_1 a0 a1 _ hS).mono ?_
                rintro e w' ⟨rfl, rfl⟩
                go_wp2_with fail
                go_ret2
                exact ⟨Read.no1 hno.out, Below.refl _ _⟩
            · have hno := Lib.hid (Seen.bad hlt hd)
              have hd' : s[k].toNat < 48 ∨ 57 < s[k].toNat := by unfold isD at hd; omega
              have hD := Lib.hid hd'
              have hb : s[k].toNat < 256 := s[k].toNat_lt
              clear hd hSeen hd'
              go_wp2_with fail
              refine (inRange_f _ _ _ _ (by have := hD.out; omega)).mono ?_
              rintro e w' ⟨rfl, rfl⟩
              go_wp2_with fail
              go_quiet (fail)
              go_wp2
              go_ret2
              exact ⟨Read.no0 hno.out, below_drewN (Below.refl _ _) _⟩
          · obtain rfl : k = s.size := by omega
            have hyes := hSeen.all hp hh.out
            have hy := Lib.hid hyes.1
            have hv := Lib.hid hyes.2
            clear hSeen hyes
            go_wp2_with fail
            go_ret2
            exact ⟨Read.yes hy.out (by rw [hv.out]), Below.refl _ _⟩
      · clear hloop
        go_wp2_with fail
        go_loop [4, 5] (fun n i => ∃ k m : Nat, k ≤ s.size ∧ i = .int .i64 k ∧ n = .int .i64 m ∧ Seen s k m) (fun _ i => s.size - (intOf i).toNat)
        case atStart => exact ⟨0, 0, Nat.zero_le _, rfl, rfl, ⟨by intro c hc; simp at hc, rfl, by omega⟩⟩
        case round =>
          obtain ⟨k, m, hk, rfl, rfl, hSeen⟩ := hrel
          have hm := hSeen.2.2
          by_cases hlt : k < s.size
          · by_cases hd : isD s[k]
            · have hd' : 48 ≤ s[k].toNat ∧ s[k].toNat ≤ 57 := hd
              obtain ⟨hd1, hd2⟩ := hd'
              go_wp2_with fail
              refine (inRange_t _ _ _ _ (by omega) (by omega)).mono ?_
              rintro e w' ⟨rfl, rfl⟩
              by_cases hM : m * 10 + (s[k].toNat - 48) ≤ 1000000000000
              · have hS2 := hSeen.step hlt hd hM
                clear hSeen hd
                go_wp2_with fail
                refine (checkRange_in _ _ _ _ (by omega) (by omega)).mono ?_
                rintro e w' ⟨rfl, rfl⟩
                go_wp2_with fail
                refine (isReason_nil a0 a1 _ hS).mono ?_
                rintro e w' ⟨rfl, rfl⟩
                go_wp2_with fail
                go_round
                case rel => exact ⟨k + 1, m * 10 + (s[k].toNat - 48), by omega, by go_num, by go_num, hS2⟩
                case measure => simp [intOf]; omega
              · have hno := Lib.hid (hSeen.big hlt hM)
                clear hSeen hd
                go_wp2_with fail
                refine (checkRange_out a0 a1 _ _ _ _ (by omega) hS).mono ?_
                rintro e w' ⟨rfl, rfl⟩
                go_wp2_with fail
                refine (isReason_1 a0 a1 _ hS).mono ?_
                rintro e w' ⟨rfl, rfl⟩
                go_wp2_with fail
                go_ret2
                exact ⟨Read.no1 hno.out, Below.refl _ _⟩
            · have hno := Lib.hid (Seen.bad hlt hd)
              have hd' : s[k].toNat < 48 ∨ 57 < s[k].toNat := by unfold isD at hd; omega
              have hD := Lib.hid hd'
              have hb : s[k].toNat < 256 := s[k].toNat_lt
              clear hd hSeen hd'
              go_wp2_with fail
              refine (inRange_f _ _ _ _ (by have := hD.out; omega)).mono ?_
              rintro e w' ⟨rfl, rfl⟩
              go_wp2_with fail
              go_quiet (fail)
              go_wp2
              go_ret2
              exact ⟨Read.no0 hno.out, below_drewN (Below.refl _ _) _⟩
          · obtain rfl : k = s.size := by omega
            have hyes := hSeen.all hp hh.out
            have hy := Lib.hid hyes.1
            have hv := Lib.hid hyes.2
            clear hSeen hyes
            go_wp2_with fail
            go_ret2
            exact ⟨Read.yes hy.out (by rw [hv.out]), Below.refl _ _⟩

def pI (l : List UInt8) (v : Value) : Prop := (okD l ∧ v = .tuple #[.int .i64 (val l), .bool true]) ∨ (¬ okD l ∧ v = .tuple #[.int .i64 0, .bool false])

set_option maxHeartbeats 400000 in
theorem parseInt_any (a0 a1 : Addr) (s : ByteArray) (w : World) (hs : s.size ≤ 1048576) (hS : Sent a0 a1 w) :
    Calls Tryd.prog 10 #[.string s] w fun e w' => (∃ v, e = .returned v ∧ pI s.data.toList v) ∧ Below w.heap.size w w' := by
  go_enter Tryd.func10, Tryd.ntmps10
  go_wp2_with fail
  refine (readDecimal_any a0 a1 s _ hs hS).mono ?_
  rintro e w' ⟨hR, hb⟩
  have hS' := hS.below hb (Nat.le_refl _)
  rcases hR with ⟨hy, rfl⟩ | ⟨hn, a, ha, rfl⟩
  · have Hy := Lib.hid hy
    clear hy
    go_wp2_with fail
    refine (isReason_nil a0 a1 _ hS').mono ?_
    rintro e w2 ⟨rfl, rfl⟩
    go_wp2_with fail
    go_ret2
    exact ⟨⟨_, rfl, .inl ⟨Hy.out, rfl⟩⟩, hb⟩
  · have Hn := Lib.hid hn
    clear hn
    rcases ha with rfl | rfl
    · go_wp2_with fail
      refine (isReason_0 a a1 _ hS').mono ?_
      rintro e w2 ⟨rfl, rfl⟩
      go_wp2_with fail
      go_ret2
      exact ⟨⟨_, rfl, .inr ⟨Hn.out, rfl⟩⟩, hb⟩
    · go_wp2_with fail
      refine (isReason_1 a0 a _ hS').mono ?_
      rintro e w2 ⟨rfl, rfl⟩
      go_wp2_with fail
      go_ret2
      exact ⟨⟨_, rfl, .inr ⟨Hn.out, rfl⟩⟩, hb⟩
end Go.Proofs.YtlflcmignndieaaDoor
