/-
  KindName by contract, both sides.
-/
import Derived.Test.YtjigglnepcabmaaMarksI
import Derived.Lib.OthersKept
import Derived.Laws.Cover4
namespace Go.Proofs.Ytjigglnepcabmaa
open Go.RowKit

def knS : ByteArray := ⟨#[104, 105, 103, 104, 32, 112, 97, 105, 114, 32, 116, 119, 111, 32, 116, 104, 114, 101, 101, 32, 115, 116, 114, 97, 105, 103, 104, 116, 32, 102, 108, 117, 115, 104, 32, 102, 117, 108, 108, 32, 102, 111, 117, 114, 32, 115, 116, 114, 97, 105, 103, 104, 116, 102, 108, 117, 115, 104]⟩
def knL : List Nat := [104, 105, 103, 104, 32, 112, 97, 105, 114, 32, 116, 119, 111, 32, 116, 104, 114, 101, 101, 32, 115, 116, 114, 97, 105, 103, 104, 116, 32, 102, 108, 117, 115, 104, 32, 102, 117, 108, 108, 32, 102, 111, 117, 114, 32, 115, 116, 114, 97, 105, 103, 104, 116, 102, 108, 117, 115, 104]
def knAt (p : Nat) : Nat := ((knL.take p).filter (· == 32)).length
/-- The letters of the name so far. -/
def knRun (k : Int) : Nat → List Int
  | 0 => []
  | p + 1 => if knL.getD p 0 = 32 then knRun k p else if (knAt p : Int) = k then knRun k p ++ [(knL.getD p 0 : Int)] else knRun k p
def kName (k : Int) : ByteArray := runesBytes (knRun k 58)
theorem kn_byte : ∀ p : Fin 58, ∀ h : p.1 < knS.size, (knS[p.1]'h).toNat = knL.getD p.1 0 ∧ knL.getD p.1 0 < 128 := by decide +kernel
theorem kn_size : knS.size = 58 := by decide +kernel
theorem kn_at : ∀ p : Fin 58, knAt (p.1 + 1) = knAt p.1 + (if knL.getD p.1 0 = 32 then 1 else 0) := by decide +kernel
theorem kn_at_le : ∀ p : Fin 59, knAt p.1 ≤ 8 := by decide +kernel
theorem kn_len (k : Int) : ∀ p, (knRun k p).length ≤ p
  | 0 => by simp [knRun]
  | p + 1 => by
    have := kn_len k p
    rw [knRun]; split
    · omega
    · split
      · simp; omega
      · omega
theorem kn_none (k : Int) (h : k < 0 ∨ 8 < k) : ∀ p, p ≤ 58 → knRun k p = []
  | 0, _ => rfl
  | p + 1, hp => by
    have ih := kn_none k h p (by omega)
    have := kn_at_le ⟨p, by omega⟩
    rw [knRun, ih]
    split
    · rfl
    · rw [if_neg (by simp at this; omega)]
theorem kn_wf (k : Int) : ∀ p, p ≤ 58 → ∀ x ∈ knRun k p, (Lit.int .i32 x).wf = true
  | 0, _, x, h => by simp [knRun] at h
  | p + 1, hp, x, h => by
    have ih := kn_wf k p (by omega)
    rw [knRun] at h
    split at h
    · exact ih x h
    · split at h
      · rcases List.mem_append.1 h with h | h
        · exact ih x h
        · simp only [List.mem_singleton] at h
          have h1 := (kn_byte ⟨p, by omega⟩ (by rw [kn_size]; show p < 58; omega)).2
          obtain ⟨c, hc⟩ : ∃ c, c = knL.getD p 0 := ⟨_, rfl⟩
          have h2 : c < 128 := by rw [hc]; exact h1
          rw [← hc] at h
          subst h
          clear h1 hc
          simp [Lit.wf, IntKind.min, IntKind.max, IntKind.signed, IntKind.bits]
          omega
      · exact ih x h
theorem kName_0 : kName 0 = ⟨#[104, 105, 103, 104]⟩ := by decide +kernel
theorem kName_1 : kName 1 = ⟨#[112, 97, 105, 114]⟩ := by decide +kernel
theorem kName_2 : kName 2 = ⟨#[116, 119, 111]⟩ := by decide +kernel
theorem kName_3 : kName 3 = ⟨#[116, 104, 114, 101, 101]⟩ := by decide +kernel
theorem kName_4 : kName 4 = ⟨#[115, 116, 114, 97, 105, 103, 104, 116]⟩ := by decide +kernel
theorem kName_5 : kName 5 = ⟨#[102, 108, 117, 115, 104]⟩ := by decide +kernel
theorem kName_6 : kName 6 = ⟨#[102, 117, 108, 108]⟩ := by decide +kernel
theorem kName_7 : kName 7 = ⟨#[102, 111, 117, 114]⟩ := by decide +kernel
theorem kName_8 : kName 8 = ⟨#[115, 116, 114, 97, 105, 103, 104, 116, 102, 108, 117, 115, 104]⟩ := by decide +kernel
theorem kName_out (k : Int) (h : k < 0 ∨ 8 < k) : kName k = ⟨#[]⟩ := by unfold kName; rw [kn_none k h 58 (Nat.le_refl _)]; rfl
theorem info_i32 : (Try.prog.info? 21).map (fun i => (i.zero, i.size, i.bytes)) = some (some (.int .i32 0), 1, 4) := by kernel_rfl
theorem iter_grown (w : World) (k : Nat) (s : ByteArray) (pos : Nat) : w.grownBy (w.iterAt k s pos) (some k) :=
  ⟨rfl, rfl, rfl, by rw [Lib.iterAt_size]; exact Nat.le_refl _, fun i _ hne => Lib.iterAt_other w k i s pos (fun e => hne (by rw [e]))⟩
theorem own_off_iter {w : World} {B e size n : Nat} {v : Value} {xs : List Value} {k : Nat} {s : ByteArray} {pos : Nat} (h : w.ownsRow B e size v n xs) (hk : w.heap[k]? = some (.stringIter s pos)) : v.ownBlock ≠ some k := by
  rcases h.2 with ⟨rfl, -⟩ | ⟨g, cap, cur, rfl, -, hg, -⟩
  · simp [Value.ownBlock]
  · intro e
    have e2 : g = k := by simpa [Value.ownBlock] using e
    rw [e2, hk] at hg
    cases hg

set_option maxRecDepth 100000 in
set_option maxHeartbeats 1000000 in
theorem kindName_any (k : Int) (w : World) :
    Calls Try.prog 59 #[.int .i64 k] w fun e w' => e = .returned (.string (kName k)) ∧ Below w.heap.size w w' := by
  obtain ⟨i0, hi, hz0, hz1, hz2⟩ := info_parts info_i32
  have hown0 := World.ownsRow_lit (base := w.heap.size) (e := 21) (size := 1) w #[] 0 (Nat.le_refl _) (Nat.zero_le _) rfl
  go_enter Try.func59, Try.ntmps59
  go_wp2_with fail
  go_loopw [3, 4, 6] (fun o t _ wr => ∃ p : Nat, p ≤ 58 ∧ t = .int .i64 (knAt p) ∧ wr.heap[w.heap.size + 1]? = some (.stringIter knS p) ∧ Below w.heap.size w wr ∧ wr.ownsRow w.heap.size 21 1 o (knRun k p).length ((knRun k p).map (Value.int .i32))) (fun _ _ _ wr => 58 - wr.iterPos (w.heap.size + 1))
  case atStart => exact ⟨0, Nat.zero_le _, rfl, by have := World.iter_heap (w.alloc (.cells #[] 21)) knS 0; simp at this; exact this, ((Below.refl _ _).alloc (Nat.le_refl _) _).alloc (by simp) _, hown0.alloc _⟩
  case round =>
    clear hown0
    obtain ⟨p, hp, rfl, hit, B, hown⟩ := hrel
    have hlt1 := (Array.getElem?_eq_some_iff.1 hit).1
    by_cases hlt : p < 58
    · have hps : p < knS.size := by rw [kn_size]; exact hlt
      obtain ⟨hb1, hb2⟩ := kn_byte ⟨p, hlt⟩ hps
      have hat := kn_at ⟨p, hlt⟩
      have hrn : knRun k (p + 1) = if knL.getD p 0 = 32 then knRun k p else if (knAt p : Int) = k then knRun k p ++ [(knL.getD p 0 : Int)] else knRun k p := by rw [knRun]
      obtain ⟨c, hc⟩ : ∃ c, c = knL.getD p 0 := ⟨_, rfl⟩
      simp only at hb1 hb2 hat
      rw [← hc] at hb1 hb2 hat hrn
      have hal := kn_at_le ⟨p, by omega⟩
      simp only at hal
      have hnx : ∀ ty, (Instr.next (.pointer (some ⟨w.heap.size + 1, 0, none⟩)) true ty).run Try.prog wr = .ok (.tuple #[.bool true, .int .i64 p, .int .i32 (c : Nat)]) (wr.iterAt (w.heap.size + 1) knS (p + 1)) := fun ty => by
        rw [Lib.run_next_ascii_at wr (w.heap.size + 1) knS p ty hit hps (by rw [hb1]; exact hb2), hb1]
      have hit2 := Lib.iterAt_heap wr (w.heap.size + 1) knS p (p + 1) hit
      have B2 := Lib.below_iterAt B (k := w.heap.size + 1) (by omega) knS (p + 1)
      have hown2 := hown.kept (iter_grown wr (w.heap.size + 1) knS (p + 1)) (.inr (own_off_iter hown hit))
      have hpos : Hid (wr.iterPos (w.heap.size + 1) = p) := Lib.hid (by simp only [World.iterPos, hit])
      have hlen := kn_len k p
      generalize wr.iterAt (w.heap.size + 1) knS (p + 1) = w2 at hnx hit2 B2 hown2
      clear hb1 hc hown B hps hlt1
      by_cases h32 : c = 32
      · have hat2 : Hid (((knAt (p + 1) : Nat) : Int) = (knAt p : Int) + 1) := Lib.hid (by rw [hat, if_pos h32]; simp)
        have hrn2 : Hid (knRun k (p + 1) = knRun k p) := Lib.hid (by rw [hrn, if_pos h32])
        subst h32
        clear hat hrn hit
        go_wp2_with fail
        go_roundw
        case rel => exact ⟨p + 1, by omega, by rw [hat2.out], hit2, B2, by rw [hrn2.out]; exact hown2⟩
        case measure => rw [hpos.out]; simp only [World.iterPos, hit2]; omega
      · have hq : (((c : Nat) : Int) == 32) = false := by simp; omega
        have hat2 : Hid (knAt (p + 1) = knAt p) := Lib.hid (by rw [hat, if_neg h32]; rfl)
        by_cases hk : (knAt p : Int) = k
        · have hq2 : ((knAt p : Int) == k) = true := by simpa using hk
          have hrn2 : Hid (knRun k (p + 1) = knRun k p ++ [(c : Int)]) := Lib.hid (by rw [hrn, if_neg h32, if_pos hk])
          have hne := own_off_iter hown2 hit2
          have hlt2 := (Array.getElem?_eq_some_iff.1 hit2).1
          generalize knRun k p = F at *
          clear hat hrn hit h32 hk
          have hsz := B2.size
          go_wp2_with (at_builtin; refine wpList_append_own _ rfl _ _ 86 rfl w.heap.size 21 i0 (.int .i32 0) 1 4 Try.underlying86 hi hz0 hz1 hz2 rfl (by decide) _ _ _ rfl (hown2.alloc _) ⟨w2.heap.size, 0, none⟩ 1 1 [.int .i32 (c : Nat)] rfl rfl (cell_one_new _ _ _) (one_cell _ _) ?g3 ?g4 (by simp; omega) ?_)
          case g3 => unfold maxLen; omega
          case g4 => omega
          intro v5 w5 hown5 hgr5 _
          have B5 : Below w.heap.size w w5 := (B2.alloc hsz _).grown hgr5 (by simp; omega) (own_block hown2)
          have hit5 : w5.heap[w.heap.size + 1]? = some (.stringIter knS (p + 1)) := by
            rw [hgr5.block _ (by simp; omega) (fun e => hne e.symm), (((Below.refl w2.heap.size w2).alloc (Nat.le_refl _) _).block _ hlt2)]
            exact hit2
          have hown6 := own_snoc hown5
          clear hown5 hgr5 hown2 B2 hnx hit2 hne
          go_wp2_with fail
          go_roundw
          case rel => exact ⟨p + 1, by omega, by rw [hat2.out], hit5, B5, by rw [hrn2.out]; exact hown6⟩
          case measure => rw [hpos.out]; simp only [World.iterPos, hit5]; omega
        · have hq2 : ((knAt p : Int) == k) = false := by simpa using hk
          have hrn2 : Hid (knRun k (p + 1) = knRun k p) := Lib.hid (by rw [hrn, if_neg h32, if_neg hk])
          clear hat hrn hit h32 hk
          go_wp2_with fail
          go_roundw
          case rel => exact ⟨p + 1, by omega, by rw [hat2.out], hit2, B2, by rw [hrn2.out]; exact hown2⟩
          case measure => rw [hpos.out]; simp only [World.iterPos, hit2]; omega
    · obtain rfl : p = 58 := by omega
      have hnx : ∀ ty, (Instr.next (.pointer (some ⟨w.heap.size + 1, 0, none⟩)) true ty).run Try.prog wr = .ok (.tuple #[.bool false]) wr := fun ty => Lib.run_next_end_at wr (w.heap.size + 1) knS _ ty hit (by rw [kn_size]; omega)
      obtain ⟨b', -, hw'⟩ := own_wr hown (kn_wf k 58 (Nat.le_refl _))
      have hcv : (convert 86 9 u3).run Try.prog wr = .ok (.string (kName k)) wr := by
        rcases hw'.open with ⟨h0, a, cap, rfl, -, hnil⟩ | ⟨hz, off, cap, rfl, hcap, hc, -⟩
        · unfold kName
          rw [h0]
          cases a with
          | none => exact run_convert_runes_nil wr _ _ 21 _ _ Try.underlying86 Try.underlying21 Try.underlying9
          | some ad => exact run_convert_runes wr _ _ 21 ad 0 cap [] (Nat.le_refl _) Try.underlying86 Try.underlying21 Try.underlying9 (fun j hj => by simp at hj)
        · have h1 := run_convert_runes wr 86 9 21 ⟨b', off, none⟩ (knRun k 58).length cap (knRun k 58) (Nat.le_refl _) Try.underlying86 Try.underlying21 Try.underlying9 (fun j hj => by
            have e : (⟨b', off, none⟩ : Addr).add j = ⟨b', off + j, none⟩ := by simp [Addr.add]
            rw [e, hc j hj]; simp [List.getD, hj])
          rw [List.take_length] at h1
          exact h1
      clear hown hw' hlt1
      go_wp2_with fail
      go_ret
      exact ⟨rfl, B⟩

theorem in1_any (n lo hi : Int) (w : World) (r : Bool) (hr : r = decide (lo ≤ n ∧ n ≤ hi)) :
    Calls Try.prog 82 #[.int .i64 n, .int .i64 lo, .int .i64 hi] w fun e w' => e = .returned (.bool r) ∧ w = w' := by
  by_cases h0 : lo ≤ n
  · by_cases h1 : n ≤ hi
    · have e : r = true := by rw [hr]; simp; omega
      subst e; clear hr
      go_enter Try.func82, Try.ntmps82
      go_wp2
      go_ret
      exact ⟨rfl, rfl⟩
    · have e : r = false := by rw [hr]; simp; omega
      have hd : decide (n ≤ hi) = false := by simp; omega
      subst e; clear hr
      go_enter Try.func82, Try.ntmps82
      go_wp2
      go_ret
      exact ⟨rfl, rfl⟩
  · have e : r = false := by rw [hr]; simp; omega
    subst e; clear hr
    go_enter Try.func82, Try.ntmps82
    go_wp2
    go_ret
    exact ⟨rfl, rfl⟩

set_option maxRecDepth 100000 in
set_option maxHeartbeats 1000000 in
theorem sKindName_any (k : Int) (w : World) :
    Calls Try.prog 58 #[.int .i64 k] w fun e w' => e = .returned (.string (kName k)) ∧ Below w.heap.size w w' := by
  by_cases hk : 0 ≤ k ∧ k ≤ 8
  · obtain ⟨m, rfl⟩ := Int.eq_ofNat_of_zero_le hk.1
    have hm : m = 0 ∨ m = 1 ∨ m = 2 ∨ m = 3 ∨ m = 4 ∨ m = 5 ∨ m = 6 ∨ m = 7 ∨ m = 8 := by omega
    clear hk
    rcases hm with rfl | rfl | rfl | rfl | rfl | rfl | rfl | rfl | rfl
    · have Hr := Lib.hid kName_0
      go_enter Try.func58, Try.ntmps58
      go_wp2_with fail
      refine (in1_any _ _ _ _ true (by simp)).mono ?_
      rintro e _w ⟨rfl, rfl⟩
      go_wp2_with fail
      go_ret
      exact ⟨by show _ = Ending.returned (.string (kName 0)); rw [Hr.out]; rfl, (Below.refl _ _).alloc (Nat.le_refl _) _⟩
    · have Hr := Lib.hid kName_1
      go_enter Try.func58, Try.ntmps58
      go_wp2_with fail
      refine (in1_any _ _ _ _ true (by simp)).mono ?_
      rintro e _w ⟨rfl, rfl⟩
      go_wp2_with fail
      go_ret
      exact ⟨by show _ = Ending.returned (.string (kName 1)); rw [Hr.out]; rfl, (Below.refl _ _).alloc (Nat.le_refl _) _⟩
    · have Hr := Lib.hid kName_2
      go_enter Try.func58, Try.ntmps58
      go_wp2_with fail
      refine (in1_any _ _ _ _ true (by simp)).mono ?_
      rintro e _w ⟨rfl, rfl⟩
      go_wp2_with fail
      go_ret
      exact ⟨by show _ = Ending.returned (.string (kName 2)); rw [Hr.out]; rfl, (Below.refl _ _).alloc (Nat.le_refl _) _⟩
    · have Hr := Lib.hid kName_3
      go_enter Try.func58, Try.ntmps58
      go_wp2_with fail
      refine (in1_any _ _ _ _ true (by simp)).mono ?_
      rintro e _w ⟨rfl, rfl⟩
      go_wp2_with fail
      go_ret
      exact ⟨by show _ = Ending.returned (.string (kName 3)); rw [Hr.out]; rfl, (Below.refl _ _).alloc (Nat.le_refl _) _⟩
    · have Hr := Lib.hid kName_4
      go_enter Try.func58, Try.ntmps58
      go_wp2_with fail
      refine (in1_any _ _ _ _ true (by simp)).mono ?_
      rintro e _w ⟨rfl, rfl⟩
      go_wp2_with fail
      go_ret
      exact ⟨by show _ = Ending.returned (.string (kName 4)); rw [Hr.out]; rfl, (Below.refl _ _).alloc (Nat.le_refl _) _⟩
    · have Hr := Lib.hid kName_5
      go_enter Try.func58, Try.ntmps58
      go_wp2_with fail
      refine (in1_any _ _ _ _ true (by simp)).mono ?_
      rintro e _w ⟨rfl, rfl⟩
      go_wp2_with fail
      go_ret
      exact ⟨by show _ = Ending.returned (.string (kName 5)); rw [Hr.out]; rfl, (Below.refl _ _).alloc (Nat.le_refl _) _⟩
    · have Hr := Lib.hid kName_6
      go_enter Try.func58, Try.ntmps58
      go_wp2_with fail
      refine (in1_any _ _ _ _ true (by simp)).mono ?_
      rintro e _w ⟨rfl, rfl⟩
      go_wp2_with fail
      go_ret
      exact ⟨by show _ = Ending.returned (.string (kName 6)); rw [Hr.out]; rfl, (Below.refl _ _).alloc (Nat.le_refl _) _⟩
    · have Hr := Lib.hid kName_7
      go_enter Try.func58, Try.ntmps58
      go_wp2_with fail
      refine (in1_any _ _ _ _ true (by simp)).mono ?_
      rintro e _w ⟨rfl, rfl⟩
      go_wp2_with fail
      go_ret
      exact ⟨by show _ = Ending.returned (.string (kName 7)); rw [Hr.out]; rfl, (Below.refl _ _).alloc (Nat.le_refl _) _⟩
    · have Hr := Lib.hid kName_8
      go_enter Try.func58, Try.ntmps58
      go_wp2_with fail
      refine (in1_any _ _ _ _ true (by simp)).mono ?_
      rintro e _w ⟨rfl, rfl⟩
      go_wp2_with fail
      go_ret
      exact ⟨by show _ = Ending.returned (.string (kName 8)); rw [Hr.out]; rfl, (Below.refl _ _).alloc (Nat.le_refl _) _⟩
  · have Hr := Lib.hid (kName_out k (by omega))
    have Hd : Hid (false = decide ((0 : Int) ≤ k ∧ k ≤ 8)) := Lib.hid (by simp; omega)
    clear hk
    go_enter Try.func58, Try.ntmps58
    go_wp2_with fail
    refine (in1_any _ _ _ _ false Hd.out).mono ?_
    rintro e _w ⟨rfl, rfl⟩
    go_wp2_with fail
    go_ret
    exact ⟨by rw [Hr.out]; rfl, Below.refl _ _⟩
end Go.Proofs.Ytjigglnepcabmaa
