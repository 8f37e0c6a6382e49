/-
  DecodeInts by contract, both sides.
-/
import Derived.Test.YtjfnmofmmipibaaRead02s
namespace Go.Proofs.Ytjfnmofmmipibaa
open Go.RowKit

/-- As many integers as are asked for, at most a hundred. -/
def decI (zs : List Int) (c cnt : Int) : Option (List Int × Int) := if 0 ≤ cnt ∧ cnt ≤ 100 then rdList zs c cnt.toNat else none
theorem rdAll_len {zs : List Int} : ∀ {n : Nat} {s : Int} {acc l : List Int} {nx : Int}, rdAll zs n s acc = some (l, nx) → l.length = acc.length + n
  | 0, _, _, _, _, h => by
    simp only [rdAll, Option.some.injEq, Prod.mk.injEq] at h
    rw [← h.1]; rfl
  | n + 1, s, acc, l, nx, h => by
    rw [rdAll] at h
    split at h
    · cases h
    · have := rdAll_len h
      rw [this]; simp; omega
theorem decI_len (zs : List Int) (c cnt : Int) : (rdZ (decI zs c cnt)).length ≤ 100 := by
  cases e : decI zs c cnt with
  | none => simp [rdZ]
  | some p =>
    obtain ⟨l, nx⟩ := p
    unfold decI at e
    split at e
    · unfold rdList at e
      split at e
      · have := rdAll_len e
        simp [rdZ]
        simp at this
        omega
      · cases e
    · cases e

set_option maxRecDepth 100000 in
set_option maxHeartbeats 1000000 in
theorem decodeInts_any (v : Value) (zs : List Int) (b : Nat) (c cnt : Int) (w : World) (h : RdAt .u8 w v zs b) (hl : zs.length ≤ 1099511627776) (wc : (Lit.int .i64 c).wf = true) :
    Calls Try.prog 36 #[v, .int .i64 c, .int .i64 cnt] w fun e w' => ∃ v' b', e = .returned (.tuple #[v', .int .i64 (rdN (decI zs c cnt)), .bool (rdB (decI zs c cnt))]) ∧ w.heap.size ≤ b' ∧ WrAt .i64 w' v' (rdZ (decI zs c cnt)) b' ∧ Below w.heap.size w w' := by
  obtain ⟨p0, cap0, rfl, -⟩ := id h
  by_cases hn : 0 ≤ cnt ∧ cnt ≤ 100
  · have Hr : Hid (decI zs c cnt = rdList zs c cnt.toNat) := Lib.hid (if_pos hn)
    obtain ⟨m, rfl⟩ := Int.eq_ofNat_of_zero_le hn.1
    have Hc := Lib.hid (readVarints_any _ zs b c m w h hl wc (by omega))
    go_enter Try.func36, Try.ntmps36
    go_wp2_with fail
    refine (inRange_any _ _ _ _ true (by simp; omega)).mono ?_
    rintro e _w ⟨rfl, rfl⟩
    go_wp2_with fail
    refine Hc.out.mono ?_
    rintro e w1 ⟨v1, b1, rfl, hb1, hw1, hB⟩
    go_wp2_with fail
    go_ret3
    simp only [Int.toNat_natCast] at Hr
    exact ⟨_, b1, by rw [Hr.out]; rfl, hb1, by rw [Hr.out]; exact hw1, hB⟩
  · have Hr : Hid (decI zs c cnt = none) := Lib.hid (if_neg hn)
    go_enter Try.func36, Try.ntmps36
    go_wp2_with fail
    refine (inRange_any _ _ _ _ false (by simp; omega)).mono ?_
    rintro e _w ⟨rfl, rfl⟩
    go_wp2_with fail
    go_ret3
    exact ⟨_, w.heap.size, by rw [Hr.out]; rfl, Nat.le_refl _, by rw [Hr.out]; exact WrAt.nil _ _ _ _ _ ⟨Nat.zero_le _, fun h => by cases h⟩, (Below.refl _ _).alloc (Nat.le_refl _) _⟩

set_option maxRecDepth 100000 in
set_option maxHeartbeats 4000000 in
theorem sDecodeInts_any (v : Value) (zs : List Int) (b : Nat) (c cnt : Int) (w : World) (h : RdAt .u8 w v zs b) (hl : zs.length ≤ 1099511627776) :
    Calls Try.prog 35 #[v, .int .i64 c, .int .i64 cnt] w fun e w' => ∃ v' b', e = .returned (.tuple #[v', .int .i64 (rdN (decI zs c cnt)), .bool (rdB (decI zs c cnt))]) ∧ w.heap.size ≤ b' ∧ WrAt .i64 w' v' (rdZ (decI zs c cnt)) b' ∧ Below w.heap.size w w' := by
  obtain ⟨i0, hi, hz0, hz1, hz2⟩ := info_parts info_i64
  obtain ⟨p0, cap0, rfl, -⟩ := id h
  obtain ⟨r, hr⟩ : ∃ r, r = decI zs c cnt := ⟨_, rfl⟩
  rw [← hr]
  by_cases hn : 0 ≤ cnt ∧ cnt ≤ 100
  · obtain ⟨m, rfl⟩ := Int.eq_ofNat_of_zero_le hn.1
    have hm : m ≤ 100 := by omega
    have hr1 : r = rdList zs c m := by rw [hr]; unfold decI; rw [if_pos hn, Int.toNat_natCast]
    clear hr hn
    obtain ⟨L, hL⟩ : ∃ L, L = zs.length := ⟨_, rfl⟩
    have HL := Lib.hid hL
    by_cases hin : 0 ≤ c ∧ c ≤ (L : Int)
    · have hR0 : Hid (r = rdAll zs m c []) := Lib.hid (by rw [hr1]; exact if_pos (by rw [← hL]; exact hin))
      obtain ⟨s0, rfl⟩ := Int.eq_ofNat_of_zero_le hin.1
      have hs0 : s0 ≤ L := by omega
      have hLl : L ≤ 1099511627776 := by omega
      rw [← hL]
      rw [← hL] at h
      clear hr1 hL
      go_enter Try.func35, Try.ntmps35
      go_wp2_with fail
      refine (in_any _ _ _ _ true (by simp; omega)).mono ?_
      rintro e _w ⟨rfl, rfl⟩
      go_wp2_with fail
      refine (in_any _ _ _ _ true (by simp; omega)).mono ?_
      rintro e _w ⟨rfl, rfl⟩
      go_wp2_with fail
      have hown0 := World.ownsRow_lit (base := w.heap.size) (e := 3) (size := 1) w #[] 0 (Nat.le_refl _) (Nat.zero_le _) rfl
      go_loopw [1, 9, 10] (fun nx vs i wr => ∃ (k s : Nat) (acc : List Int), acc.length = k ∧ k ≤ m ∧ s ≤ L ∧ i = .int .i64 k ∧ nx = .int .i64 s ∧ Hid (r = rdAll zs (m - k) (s : Int) acc) ∧ Hid (∀ x ∈ acc, (Lit.int .i64 x).wf = true) ∧ Below w.heap.size w wr ∧ wr.ownsRow w.heap.size 3 1 vs k (acc.map (Value.int .i64))) (fun _ _ i _ => m - (intOf i).toNat)
      case atStart => exact ⟨0, s0, [], rfl, Nat.zero_le _, hs0, rfl, rfl, hR0, Lib.hid (by simp), (Below.refl _ _).alloc (Nat.le_refl _) _, hown0⟩
      case round =>
        clear hown0
        obtain ⟨k, s, acc, hk0, hk, hs, rfl, rfl, hR, hacc, hb2, hown⟩ := hrel
        obtain ⟨oa, ocap, rfl⟩ := own_shape hown
        have Hk0 := Lib.hid hk0
        clear hk0
        by_cases hlt : k < m
        · have hrd := h.below hb2
          have hsz := hb2.size
          have hcall := sReadUvarint_any _ zs b s wr hrd hl (WalkArith.wf_i64 (by omega))
          cases hu : rdU zs (s : Int) with
          | none =>
            rw [hu] at hcall
            have Hc := Lib.hid hcall
            have hno : Hid (r = none) := Lib.hid (by rw [hR.out, show m - k = (m - k - 1) + 1 by omega]; exact rdAll_none hu)
            clear hcall hu hrd
            go_wp2_with fail
            refine Hc.out.mono ?_
            rintro e w2 ⟨rfl, hb3⟩
            simp only [rdV]
            have hB := hb2.trans (hb3.mono hsz)
            clear hb2 hb3 hown
            go_wp2_with fail
            go_ret3
            exact ⟨_, w.heap.size, by rw [hno.out]; rfl, Nat.le_refl _, by rw [hno.out]; exact WrAt.nil _ _ _ _ _ ⟨Nat.zero_le _, fun h => by cases h⟩, hB.alloc hB.size _⟩
          | some p =>
            obtain ⟨x, nx⟩ := p
            have hf := rdU_some hu
            obtain ⟨-, hf1, hf2, hf3, hf4⟩ := hf
            obtain ⟨X, rfl⟩ := Int.eq_ofNat_of_zero_le (show 0 ≤ nx by omega)
            rw [← HL.out] at hf4
            rw [hu] at hcall
            have Hc := Lib.hid hcall
            have hR2 : Hid (r = rdAll zs (m - (k + 1)) (X : Int) (acc ++ [x])) := Lib.hid (by rw [hR.out, show m - k = (m - (k + 1)) + 1 by omega]; exact rdAll_some hu)
            clear hcall hu hrd
            go_wp2_with fail
            refine Hc.out.mono ?_
            rintro e w2 ⟨rfl, hb3⟩
            simp only [rdV]
            have hB := hb2.trans (hb3.mono hsz)
            have hown2 := own_below hown hb3
            have hsz2 := hB.size
            clear hb2 hb3 hown Hc
            go_wp2_with (at_builtin; refine wpList_append_own _ rfl _ _ 34 rfl w.heap.size 3 i0 (.int .i64 0) 1 8 Try.underlying34 hi hz0 hz1 hz2 rfl (by decide) _ _ _ rfl (hown2.alloc _) ⟨w2.heap.size, 0, none⟩ 1 1 [.int .i64 x] rfl rfl (cell_one_new _ _ _) (one_cell _ _) ?e3 ?e4 (by simp; omega) ?_)
            case e3 => unfold maxLen; omega
            case e4 => omega
            intro v3 w3 hown3 hgr3 _
            have hb4 : Below w.heap.size w w3 := (hB.alloc hsz2 _).grown hgr3 (by simp; omega) (own_block hown2)
            have hown4 : w3.ownsRow w.heap.size 3 1 v3 (k + 1) ((acc ++ [x]).map (Value.int .i64)) := by
              rw [List.map_append]; exact hown3
            clear hown3 hgr3 hown2 hB
            go_wp2_with fail
            go_roundw
            case rel => exact ⟨k + 1, X, acc ++ [x], by rw [List.length_append, Hk0.out]; rfl, by omega, by omega, by go_num, rfl, hR2, Lib.hid (fun y hy => (List.mem_append.1 hy).elim (hacc.out y) (fun h => by simp at h; subst h; exact WalkArith.wf_i64 (by omega))), hb4, hown4⟩
            case measure => simp [intOf]; omega
        · obtain rfl : k = m := by omega
          have hyes : Hid (r = some (acc, (s : Int))) := Lib.hid (by rw [hR.out, Nat.sub_self]; rfl)
          have hwr := Lib.hid (own_wr (by rw [Hk0.out]; exact hown) hacc.out)
          clear hown hR
          go_wp2_with fail
          go_ret3
          obtain ⟨b', hb', hw'⟩ := hwr.out
          exact ⟨_, b', by rw [hyes.out]; rfl, hb', by rw [hyes.out]; exact hw', hb2⟩
    · have hno : Hid (r = none) := Lib.hid (by rw [hr1]; exact if_neg (by rw [← hL]; exact hin))
      rw [← hL]
      clear hr1 hL
      go_enter Try.func35, Try.ntmps35
      go_wp2_with fail
      refine (in_any _ _ _ _ true (by simp; omega)).mono ?_
      rintro e _w ⟨rfl, rfl⟩
      go_wp2_with fail
      refine (in_any _ _ _ _ false (by simp; omega)).mono ?_
      rintro e _w ⟨rfl, rfl⟩
      go_wp2_with fail
      go_ret3
      exact ⟨_, w.heap.size, by rw [hno.out]; rfl, Nat.le_refl _, by rw [hno.out]; exact WrAt.nil _ _ _ _ _ ⟨Nat.zero_le _, fun h => by cases h⟩, (Below.refl _ _).alloc (Nat.le_refl _) _⟩
  · have hno : Hid (r = none) := Lib.hid (by rw [hr]; exact if_neg hn)
    clear hr
    go_enter Try.func35, Try.ntmps35
    go_wp2_with fail
    refine (in_any _ _ _ _ false (by simp; omega)).mono ?_
    rintro e _w ⟨rfl, rfl⟩
    go_wp2_with fail
    go_ret3
    exact ⟨_, w.heap.size, by rw [hno.out]; rfl, Nat.le_refl _, by rw [hno.out]; exact WrAt.nil _ _ _ _ _ ⟨Nat.zero_le _, fun h => by cases h⟩, (Below.refl _ _).alloc (Nat.le_refl _) _⟩

def uX : Option (Int × Int) → Int
  | some (x, _) => x
  | none => 0
def uN : Option (Int × Int) → Int
  | some (_, n) => n
  | none => 0
def uB : Option (Int × Int) → Bool
  | some _ => true
  | none => false
theorem rdV_t (o : Option (Int × Int)) : rdV o = .tuple #[.int .i64 (uX o), .int .i64 (uN o), .bool (uB o)] := by
  rcases o with _ | ⟨x, n⟩ <;> rfl
theorem sReadUvarint_t (v : Value) (zs : List Int) (b : Nat) (c : Int) (w : World) (h : RdAt .u8 w v zs b) (hl : zs.length ≤ 1099511627776) (wc : (Lit.int .i64 c).wf = true) :
    Calls Try.prog 24 #[v, .int .i64 c] w fun e w' => e = .returned (.tuple #[.int .i64 (uX (rdU zs c)), .int .i64 (uN (rdU zs c)), .bool (uB (rdU zs c))]) ∧ Below w.heap.size w w' := by
  rw [← rdV_t]; exact sReadUvarint_any v zs b c w h hl wc
theorem readUvarint_t (v : Value) (zs : List Int) (b : Nat) (c : Int) (w : World) (h : RdAt .u8 w v zs b) (hl : zs.length ≤ 1099511627776) (wc : (Lit.int .i64 c).wf = true) :
    Calls Try.prog 25 #[v, .int .i64 c] w fun e w' => e = .returned (.tuple #[.int .i64 (uX (rdU zs c)), .int .i64 (uN (rdU zs c)), .bool (uB (rdU zs c))]) ∧ Below w.heap.size w w' := by
  rw [← rdV_t]; exact readUvarint_any v zs b c w h hl wc
end Go.Proofs.Ytjfnmofmmipibaa
