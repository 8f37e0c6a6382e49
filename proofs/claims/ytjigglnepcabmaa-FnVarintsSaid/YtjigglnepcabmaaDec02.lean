/-
  DecodeInts by contract, both sides.
-/
import Derived.Test.YtjigglnepcabmaaRead02s
namespace Go.Proofs.Ytjigglnepcabmaa
open Go.RowKit

/-- As many integers as are asked for, at most a hundred. -/
def decI (zs : List Int) (c cnt : Int) : Option (List Int × Int) := if 0 ≤ cnt ∧ cnt ≤ 100 then rdList zs c cnt.toNat else none
theorem rdAll_len {zs : List Int} : ∀ {n : Nat} {s : Int} {acc l : List Int} {nx : Int}, rdAll zs n s acc = some (l, nx) → l.length = acc.length + n
  | 0, _, _, _, _, h => by
    simp only [rdAll, Option.some.injEq, Prod.mk.injEq] at h
    rw [← h.1]; rfl
  | n + 1, s, acc, l, nx, h => by
    rw [rdAll] at h
    split at h
    · cases h
    · have := rdAll_len h
      rw [this]; simp; omega
theorem decI_len (zs : List Int) (c cnt : Int) : (rdZ (decI zs c cnt)).length ≤ 100 := by
  cases e : decI zs c cnt with
  | none => simp [rdZ]
  | some p =>
    obtain ⟨l, nx⟩ := p
    unfold decI at e
    split at e
    · unfold rdList at e
      split at e
      · have := rdAll_len e
        simp [rdZ]
        simp at this
        omega
      · cases e
    · cases e

set_option maxRecDepth 100000 in
set_option maxHeartbeats 1000000 in
theorem decodeInts_any (v : Value) (zs : List Int) (b : Nat) (c cnt : Int) (w : World) (h : RdAt .u8 w v zs b) (hl : zs.length ≤ 1099511627776) (wc : (Lit.int .i64 c).wf = true) :
    Calls Try.prog 26 #[v, .int .i64 c, .int .i64 cnt] w fun e w' => ∃ v' b', e = .returned (.tuple #[v', .int .i64 (rdN (decI zs c cnt)), .bool (rdB (decI zs c cnt))]) ∧ w.heap.size ≤ b' ∧ WrAt .i64 w' v' (rdZ (decI zs c cnt)) b' ∧ Below w.heap.size w w' := by
  obtain ⟨p0, cap0, rfl, -⟩ := id h
  by_cases hn : 0 ≤ cnt ∧ cnt ≤ 100
  · have Hr : Hid (decI zs c cnt = rdList zs c cnt.toNat) := Lib.hid (if_pos hn)
    obtain ⟨m, rfl⟩ := Int.eq_ofNat_of_zero_le hn.1
    have Hc := Lib.hid (readVarints_any _ zs b c m w h hl wc (by omega))
    go_enter Try.func26, Try.ntmps26
    go_wp2_with fail
    refine (inRange_any _ _ _ _ true (by simp; omega)).mono ?_
    rintro e _w ⟨rfl, rfl⟩
    go_wp2_with fail
    refine Hc.out.mono ?_
    rintro e w1 ⟨v1, b1, rfl, hb1, hw1, hB⟩
    go_wp2_with fail
    go_ret3
    simp only [Int.toNat_natCast] at Hr
    exact ⟨_, b1, by rw [Hr.out]; rfl, hb1, by rw [Hr.out]; exact hw1, hB⟩
  · have Hr : Hid (decI zs c cnt = none) := Lib.hid (if_neg hn)
    go_enter Try.func26, Try.ntmps26
    go_wp2_with fail
    refine (inRange_any _ _ _ _ false (by simp; omega)).mono ?_
    rintro e _w ⟨rfl, rfl⟩
    go_wp2_with fail
    go_ret3
    exact ⟨_, w.heap.size, by rw [Hr.out]; rfl, Nat.le_refl _, by rw [Hr.out]; exact WrAt.nil _ _ _ _ _ ⟨Nat.zero_le _, fun h => by cases h⟩, (Below.refl _ _).alloc (Nat.le_refl _) _⟩

def uX : Option (Int × Int) → Int
  | some (x, _) => x
  | none => 0
def uN : Option (Int × Int) → Int
  | some (_, n) => n
  | none => 0
def uB : Option (Int × Int) → Bool
  | some _ => true
  | none => false
theorem rdV_t (o : Option (Int × Int)) : rdV o = .tuple #[.int .i64 (uX o), .int .i64 (uN o), .bool (uB o)] := by
  rcases o with _ | ⟨x, n⟩ <;> rfl
theorem sReadUvarint_t (v : Value) (zs : List Int) (b : Nat) (c : Int) (w : World) (h : RdAt .u8 w v zs b) (hl : zs.length ≤ 1099511627776) (wc : (Lit.int .i64 c).wf = true) :
    Calls Try.prog 20 #[v, .int .i64 c] w fun e w' => e = .returned (.tuple #[.int .i64 (uX (rdU zs c)), .int .i64 (uN (rdU zs c)), .bool (uB (rdU zs c))]) ∧ Below w.heap.size w w' := by
  rw [← rdV_t]; exact sReadUvarint_any v zs b c w h hl wc
theorem readUvarint_t (v : Value) (zs : List Int) (b : Nat) (c : Int) (w : World) (h : RdAt .u8 w v zs b) (hl : zs.length ≤ 1099511627776) (wc : (Lit.int .i64 c).wf = true) :
    Calls Try.prog 17 #[v, .int .i64 c] w fun e w' => e = .returned (.tuple #[.int .i64 (uX (rdU zs c)), .int .i64 (uN (rdU zs c)), .bool (uB (rdU zs c))]) ∧ Below w.heap.size w w' := by
  rw [← rdV_t]; exact readUvarint_any v zs b c w h hl wc
end Go.Proofs.Ytjigglnepcabmaa
