/-
  The contract of the model FormatInt at every int: the decimal numeral.
-/
import Derived.Test.YtmfammgdcdlceaaDoorRows
import Derived.WalkKit
import Derived.WalkLawsBesides
import Derived.WalkSpells
import Derived.OpenShut
import Derived.Test.YtmfammgdcdlceaaDoorDecimal
import Derived.LoopTactic
import Derived.Lib.ItoaNum
import Derived.Lib.Hide
namespace Go.Proofs.YtmfammgdcdlceaaDoor
open Go.RowKit Go.Extern.Stop Go.Stop Go.Extern
set_option linter.unusedVariables false
set_option linter.unusedSimpArgs false

theorem dec_cons (m : Nat) (hm : 10 ≤ m) : Lib.decDigits m = Lib.decDigits (m / 10) ++ [UInt8.ofNat (48 + m % 10)] := by
  rw [Lib.decDigits, dif_neg (by omega)]
theorem dec_one (m : Nat) (hm : m < 10) : Lib.decDigits m = [UInt8.ofNat (48 + m)] := Lib.decDigits_one hm

theorem itoa_len (n : Int) (h0 : -9223372036854775808 ≤ n) (h1 : n ≤ 9223372036854775807) : (Lib.itoa n).length ≤ 20 := by
  unfold Lib.itoa
  split
  · have := dec_len 18 n.natAbs (by omega)
    simp; omega
  · have := dec_len 18 n.toNat (by omega)
    omega

def dig (m : Nat) : UInt8 := UInt8.ofNat (48 + m % 10)

/-- What is still to be written of the digits of m, behind which l stands. -/
def Rest (m : Nat) (l t : List UInt8) : Prop := (m = 0 ∧ l = t) ∨ (m ≠ 0 ∧ Lib.decDigits m ++ l = t)
theorem Rest.next {m : Nat} {l t : List UInt8} (h : Rest m l t) (hm : m ≠ 0) : Rest (m / 10) (dig m :: l) t := by
  unfold dig
  rcases h with ⟨h, _⟩ | ⟨_, h⟩
  · exact absurd h hm
  · by_cases h10 : m < 10
    · left
      refine ⟨by omega, ?_⟩
      rw [dec_one m h10] at h
      rw [Nat.mod_eq_of_lt h10]; exact h
    · right
      refine ⟨by omega, ?_⟩
      rw [dec_cons m (by omega)] at h
      simpa using h
theorem Rest.len {m : Nat} {l t : List UInt8} (h : Rest m l t) : l.length ≤ t.length := by
  rcases h with ⟨_, rfl⟩ | ⟨_, rfl⟩
  · exact Nat.le_refl _
  · simp
theorem Rest.done {l t : List UInt8} (h : Rest 0 l t) : l = t := by
  rcases h with ⟨_, h⟩ | ⟨h, _⟩
  · exact h
  · exact absurd rfl h

theorem conv_one (w : World) (n : Nat) (E : Int) (c : UInt8) (hE : E = (c.toNat : Int)) (hn : n = w.heap.size) :
    (convert 65 9 (.slice (some ⟨n, 0, none⟩) 1 1)).run Tryd.prog (w.alloc (.cells #[.int .u8 E] 5)) = .ok (.string ⟨[c].toArray⟩) (w.alloc (.cells #[.int .u8 E] 5)) := by
  subst hn hE
  refine run_convert_bytes_back _ 65 9 5 ⟨w.heap.size, 0, none⟩ 1 [c] Tryd.underlying65 Tryd.underlying5 Tryd.underlying9 fun j hj => ?_
  have : j = 0 := by simpa using hj
  subst this
  simp [Addr.add]
theorem digit_nat (m : Nat) : ((dig m).toNat : Int) = 48 + (m : Int) % 10 := by
  unfold dig
  have : (UInt8.ofNat (48 + m % 10)).toNat = 48 + m % 10 := by simp [UInt8.toNat_ofNat']; omega
  rw [this]; omega

theorem cat_minus (l : List UInt8) : (⟨#[45]⟩ ++ ⟨l.toArray⟩ : ByteArray) = ⟨(45 :: l).toArray⟩ := by
  rw [ByteArray.mk_append_mk]; simp
set_option maxRecDepth 100000 in
set_option maxHeartbeats 400000 in
theorem sFormatInt_any (n : Int) (w : World) (wn : (Lit.int .i64 n).wf = true) :
    Calls Tryd.prog 32 #[.int .i64 n] w fun e w' => e = .returned (.string ⟨(Lib.itoa n).toArray⟩) ∧ Below w.heap.size w w' := by
  have bn := bounds_i64 wn
  by_cases h0 : n = 0
  · subst h0
    have e : Lib.itoa 0 = [48] := by simp [Lib.itoa, Lib.decDigits]
    rw [e]
    go_enter Tryd.func32, Tryd.ntmps32
    go_wp2
    go_ret
    exact ⟨rfl, Below.refl _ _⟩
  · have hne : (n == 0) = false := by simpa using h0
    have hlen := itoa_len n (by omega) (by omega)
    go_enter Tryd.func32, Tryd.ntmps32
    go_wp2
    generalize hT : Lib.decDigits n.natAbs = T
    have HT := Lib.hid hT
    have hTl : T.length ≤ 20 := by rw [← hT]; have := dec_len 18 n.natAbs (by omega); omega
    clear hT hlen
    have hB : w.heap.size ≤ w.heap.size := Nat.le_refl _
    go_loopw [3, 4] (fun s x wr => ∃ (z : Int) (l : List UInt8), x = .int .i64 z ∧ s = .string ⟨l.toArray⟩ ∧ Rest z.natAbs l T ∧ -9223372036854775808 ≤ z ∧ z ≤ 9223372036854775807 ∧ Below w.heap.size w wr) (fun _ x _ => (intOf x).natAbs)
    case atStart => exact ⟨n, [], rfl, rfl, .inr ⟨by omega, by rw [HT.out, List.append_nil]⟩, by omega, by omega, Below.refl _ _⟩
    case round =>
      obtain ⟨z, l, rfl, rfl, hR, hz1, hz2, hbel⟩ := hrel
      have hl := hR.len
      by_cases hz : z = 0
      · subst hz
        have hl : l = T := hR.done
        subst hl
        have hzz : ((0 : Int) != 0) = false := by decide
        by_cases hn : n < 0
        · have e := Lib.hid (show Lib.itoa n = 45 :: l by unfold Lib.itoa; rw [if_pos hn, HT.out])
          clear hR hz1 hz2
          go_wp2
          go_ret
          exact ⟨by rw [e.out, ← cat_minus]; rfl, hbel⟩
        · have e := Lib.hid (show Lib.itoa n = l by unfold Lib.itoa; rw [if_neg hn, ← HT.out]; congr 1; omega)
          clear hR hz1 hz2
          go_wp2
          go_ret
          exact ⟨by rw [e.out]; rfl, hbel⟩
      · have hzz : (z != 0) = true := by simpa using hz
        have hR' := hR.next (by omega)
        clear hR
        have hadd : ∀ (w : World) (c : UInt8), (Op.stringOp .add ⟨[c].toArray⟩ ⟨l.toArray⟩).run Tryd.prog w = .ok (.string ⟨(c :: l).toArray⟩) w := fun w c => by
          rw [run_string_add_lists w [c] l (by simp) (by omega)]
          rfl
        have hsize : wr.heap.size < (wr.alloc (.cells #[] 0)).heap.size := by simp
        clear hsize
        by_cases hp : 0 < z
        · obtain ⟨m, rfl⟩ := Int.eq_ofNat_of_zero_le (show 0 ≤ z by omega)
          rw [Int.natAbs_natCast] at hR'
          have hconv := conv_one wr wr.heap.size (48 + (m : Int) % 10) (dig m) (digit_nat m).symm rfl
          go_wp2
          go_roundw
          case rel => exact ⟨↑(m / 10), _, by go_num, rfl, by rw [Int.natAbs_natCast]; exact hR', by omega, by omega, (hbel.alloc hbel.size _)⟩
          case measure => simp [intOf]; omega
        · obtain ⟨m, rfl⟩ : ∃ m : Nat, z = -(m : Int) := ⟨z.natAbs, by omega⟩
          rw [Int.natAbs_neg, Int.natAbs_natCast] at hR'
          have hconv := conv_one wr wr.heap.size (48 + (m : Int) % 10) (dig m) (digit_nat m).symm rfl
          by_cases hd : 0 < (m : Int) % 10
          · have ht : (-(m : Int)).tmod 10 = -((m : Int) % 10) := by rw [Int.neg_tmod, Int.tmod_eq_emod_of_nonneg (by omega)]
            go_wp2
            go_roundw
            case rel => exact ⟨-↑(m / 10), _, by go_num, rfl, by rw [Int.natAbs_neg, Int.natAbs_natCast]; exact hR', by omega, by omega, (hbel.alloc hbel.size _)⟩
            case measure => simp [intOf]; omega
          · have ht : (-(m : Int)).tmod 10 = 0 := by rw [Int.neg_tmod, Int.tmod_eq_emod_of_nonneg (by omega)]; omega
            have hm : (m : Int) % 10 = 0 := by omega
            have hconv := conv_one wr wr.heap.size 48 (dig m) (by rw [digit_nat, hm]; rfl) rfl
            clear hm
            go_wp2
            go_roundw
            case rel => exact ⟨-↑(m / 10), _, by go_num, rfl, by rw [Int.natAbs_neg, Int.natAbs_natCast]; exact hR', by omega, by omega, (hbel.alloc hbel.size _)⟩
            case measure => simp [intOf]; omega
end Go.Proofs.YtmfammgdcdlceaaDoor
