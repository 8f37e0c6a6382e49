/-
  KeyOf: the program's.
-/
import Derived.Test.YtcafbnddbddijaaFiveP
namespace Go.Proofs.Ytcafbnddbddijaa
open Go.RowKit
set_option linter.unusedVariables false
set_option linter.unusedSimpArgs false

/-- The key's places from the front, the first p of them. -/
def unp (K : Nat) : Nat → List Nat
  | 0 => [K / 1048576]
  | p + 1 => if K / 16 ^ (4 - p) % 16 = 0 then unp K p else unp K p ++ [K / 16 ^ (4 - p) % 16 - 1]
theorem unp_eq (K : Nat) : fiveUnpack K = unp K 5 := by
  have e : ∀ s : Nat, Nat.beq (K / s % 16) 0 = decide (K / s % 16 = 0) := fun s => by
    by_cases h : K / s % 16 = 0
    · rw [h]; rfl
    · rw [decide_eq_false h, beq_ne h]
  have p0 : (16 : Nat) ^ (4 - 0) = 65536 := rfl
  have p1 : (16 : Nat) ^ (4 - 1) = 4096 := rfl
  have p2 : (16 : Nat) ^ (4 - 2) = 256 := rfl
  have p3 : (16 : Nat) ^ (4 - 3) = 16 := rfl
  have p4 : (16 : Nat) ^ (4 - 4) = 1 := rfl
  simp only [fiveUnpack, unp, p0, p1, p2, p3, p4, e, List.filterMap_cons, List.filterMap_nil]
  by_cases h0 : K / 65536 % 16 = 0 <;> by_cases h1 : K / 4096 % 16 = 0 <;> by_cases h2 : K / 256 % 16 = 0 <;> by_cases h3 : K / 16 % 16 = 0 <;> by_cases h4 : K / 1 % 16 = 0 <;>
    simp only [h0, h1, h2, h3, h4, decide_true, decide_false, if_true, if_false, Bool.false_eq_true, List.cons_append, List.nil_append]
theorem unp_len (K : Nat) : ∀ p, (unp K p).length ≤ p + 1
  | 0 => by simp [unp]
  | p + 1 => by
    have := unp_len K p
    unfold unp
    split
    · omega
    · rw [List.length_append]; simp; omega
theorem unp_bd {K : Nat} (h : K < 9437184) : ∀ p, ∀ x ∈ unp K p, x < 16
  | 0, x, hx => by simp [unp] at hx; omega
  | p + 1, x, hx => by
    have ih := unp_bd h p x
    unfold unp at hx
    split at hx
    · exact ih hx
    · rw [List.mem_append] at hx
      rcases hx with hx | hx
      · exact ih hx
      · simp at hx; omega
theorem ofN_snoc (l : List Nat) (x : Nat) : ofN (l ++ [x]) = ofN l ++ [((x : Nat) : Int)] := by simp [ofN]
theorem and15 (x : Nat) (h : x < 4294967296) : bits .and .u32 (x : Int) 15 = ((x % 16 : Nat) : Int) := by
  show IntKind.u32.wrap ((BitVec.ofInt 32 (x : Int) &&& BitVec.ofInt 32 15).toNat : Nat) = _
  rw [BitVec.toNat_and, ofInt32_nat h]
  have e : (BitVec.ofInt 32 15).toNat = 2 ^ 4 - 1 := rfl
  rw [e, Nat.and_two_pow_sub_one_eq_mod]
  unfold IntKind.wrap; simp [IntKind.bits, IntKind.signed]; omega

set_option maxRecDepth 100000 in
set_option maxHeartbeats 2000000 in
theorem list5_any (K : Nat) (w : World) (hK : K < 9437184) :
    Calls Try.prog 43 #[.int .u32 (K : Nat)] w fun e w' => ∃ v' b', e = .returned v' ∧ w.heap.size ≤ b' ∧ WrAt .i64 w' v' (ofN (fiveUnpack K)) b' ∧ Below w.heap.size w w' := by
  obtain ⟨i0, hi, hz0, hz1, hz2⟩ := info_parts info_i64
  have HK := Lib.hid (kind5_any K w (by omega))
  have Hl := Lib.hid (unp_len K)
  have Hb := Lib.hid (unp_bd hK)
  have He := Lib.hid (unp_eq K)
  have k0 : Hid (K / 1048576 < 9) := Lib.hid (by omega)
  go_enter Try.func43, Try.ntmps43
  go_wp2_with fail
  refine HK.out.mono ?_
  rintro e _w ⟨rfl, rfl⟩
  go_wp2_with fail
  have hown0 := World.ownsRow_lit (base := w.heap.size) (e := 3) (size := 1) w #[.int .i64 (K / 1048576 : Nat)] 1 (Nat.le_refl _) (by decide) rfl
  have hb0 : Below w.heap.size w (w.alloc (.cells #[.int .i64 (K / 1048576 : Nat)] 3)) := (Below.refl _ _).alloc (Nat.le_refl _) _
  go_loopw [3, 4, 5] (fun o i _ wr => ∃ (p : Nat) (L : List Nat), p ≤ 5 ∧ i = .int .i64 (16 - 4 * (p : Int)) ∧ Below w.heap.size w wr ∧ wr.ownsRow w.heap.size 3 1 o (ofN L).length ((ofN L).map (Value.int .i64)) ∧ Hid (L = unp K p)) (fun _ i _ _ => (intOf i + 4).toNat)
  case atStart => exact ⟨0, unp K 0, Nat.zero_le _, rfl, hb0, by simpa [unp, ofN] using hown0, Lib.hid rfl⟩
  case round =>
    clear hown0 hb0
    obtain ⟨p, L, hp, rfl, hb2, hown, hL⟩ := hrel
    by_cases hlt : p < 5
    · match p, hlt with
      | 0, _ =>
        have hx : ((K : Int) / 65536) = ((K / 65536 : Nat) : Int) := by omega
        have hbits := and15 (K / 65536) (by omega)
        rw [← hx] at hbits
        have hun : unp K 1 = if K / 65536 % 16 = 0 then unp K 0 else unp K 0 ++ [K / 65536 % 16 - 1] := rfl
        have hd : K / 65536 % 16 < 16 := Nat.mod_lt _ (by omega)
        have hlen : (ofN L).length ≤ 1 := by rw [ofN_len, hL.out]; exact Hl.out 0
        clear hx
        generalize K / 65536 % 16 = d at hbits hun hd
        match d, hd with
        | 0, _ =>
          have HL2 : Hid (L = unp K 1) := Lib.hid (by rw [hun, if_pos rfl, hL.out])
          clear hun hlen
          go_wp2_with fail
          go_roundw
          case rel => exact ⟨1, L, by omega, by go_num, hb2, hown, HL2⟩
          case measure => simp [intOf]
        | c + 1, hd =>
          have HL2 : Hid (L ++ [c] = unp K 1) := Lib.hid (by rw [hun, if_neg (by omega), hL.out]; rfl)
          have hcc : ((c + 1 : Nat) : Int) = (c : Int) + 1 := by omega
          rw [hcc] at hbits
          have hc0 : (0 : Int) < (c : Int) + 1 := by omega
          have Hsn := Lib.hid (ofN_snoc L c)
          have hsz := hb2.size
          clear hun hcc hL
          generalize ofN L = F at *
          go_wp2_with (at_builtin; refine wpList_append_own _ rfl _ _ 22 rfl w.heap.size 3 i0 (.int .i64 0) 1 8 Try.underlying22 hi hz0 hz1 hz2 rfl (by decide) _ _ _ rfl (hown.alloc _) ⟨wr.heap.size, 0, none⟩ 1 1 [.int .i64 c] rfl rfl (cell_one_new _ _ _) ?e2 ?e3 ?e4 (by simp; omega) ?_)
          case e2 => intro u hu; simp at hu; subst hu; rfl
          case e3 => unfold maxLen; omega
          case e4 => omega
          intro v2 w2 hown2 hgr2 _
          have hb3 : Below w.heap.size w w2 := (hb2.alloc hb2.size _).grown hgr2 (by have := hb2.size; simp; omega) (own_block hown)
          have hown3 := own_snoc hown2
          rw [← Hsn.out] at hown3
          clear hown2 hgr2 hown hb2
          go_wp2_with fail
          go_roundw
          case rel => exact ⟨1, L ++ [c], by omega, by go_num, hb3, hown3, HL2⟩
          case measure => simp [intOf]
      | 1, _ =>
        have hx : ((K : Int) / 4096) = ((K / 4096 : Nat) : Int) := by omega
        have hbits := and15 (K / 4096) (by omega)
        rw [← hx] at hbits
        have hun : unp K 2 = if K / 4096 % 16 = 0 then unp K 1 else unp K 1 ++ [K / 4096 % 16 - 1] := rfl
        have hd : K / 4096 % 16 < 16 := Nat.mod_lt _ (by omega)
        have hlen : (ofN L).length ≤ 2 := by rw [ofN_len, hL.out]; exact Hl.out 1
        clear hx
        generalize K / 4096 % 16 = d at hbits hun hd
        match d, hd with
        | 0, _ =>
          have HL2 : Hid (L = unp K 2) := Lib.hid (by rw [hun, if_pos rfl, hL.out])
          clear hun hlen
          go_wp2_with fail
          go_roundw
          case rel => exact ⟨2, L, by omega, by go_num, hb2, hown, HL2⟩
          case measure => simp [intOf]
        | c + 1, hd =>
          have HL2 : Hid (L ++ [c] = unp K 2) := Lib.hid (by rw [hun, if_neg (by omega), hL.out]; rfl)
          have hcc : ((c + 1 : Nat) : Int) = (c : Int) + 1 := by omega
          rw [hcc] at hbits
          have hc0 : (0 : Int) < (c : Int) + 1 := by omega
          have Hsn := Lib.hid (ofN_snoc L c)
          have hsz := hb2.size
          clear hun hcc hL
          generalize ofN L = F at *
          go_wp2_with (at_builtin; refine wpList_append_own _ rfl _ _ 22 rfl w.heap.size 3 i0 (.int .i64 0) 1 8 Try.underlying22 hi hz0 hz1 hz2 rfl (by decide) _ _ _ rfl (hown.alloc _) ⟨wr.heap.size, 0, none⟩ 1 1 [.int .i64 c] rfl rfl (cell_one_new _ _ _) ?e2 ?e3 ?e4 (by simp; omega) ?_)
          case e2 => intro u hu; simp at hu; subst hu; rfl
          case e3 => unfold maxLen; omega
          case e4 => omega
          intro v2 w2 hown2 hgr2 _
          have hb3 : Below w.heap.size w w2 := (hb2.alloc hb2.size _).grown hgr2 (by have := hb2.size; simp; omega) (own_block hown)
          have hown3 := own_snoc hown2
          rw [← Hsn.out] at hown3
          clear hown2 hgr2 hown hb2
          go_wp2_with fail
          go_roundw
          case rel => exact ⟨2, L ++ [c], by omega, by go_num, hb3, hown3, HL2⟩
          case measure => simp [intOf]
      | 2, _ =>
        have hx : ((K : Int) / 256) = ((K / 256 : Nat) : Int) := by omega
        have hbits := and15 (K / 256) (by omega)
        rw [← hx] at hbits
        have hun : unp K 3 = if K / 256 % 16 = 0 then unp K 2 else unp K 2 ++ [K / 256 % 16 - 1] := rfl
        have hd : K / 256 % 16 < 16 := Nat.mod_lt _ (by omega)
        have hlen : (ofN L).length ≤ 3 := by rw [ofN_len, hL.out]; exact Hl.out 2
        clear hx
        generalize K / 256 % 16 = d at hbits hun hd
        match d, hd with
        | 0, _ =>
          have HL2 : Hid (L = unp K 3) := Lib.hid (by rw [hun, if_pos rfl, hL.out])
          clear hun hlen
          go_wp2_with fail
          go_roundw
          case rel => exact ⟨3, L, by omega, by go_num, hb2, hown, HL2⟩
          case measure => simp [intOf]
        | c + 1, hd =>
          have HL2 : Hid (L ++ [c] = unp K 3) := Lib.hid (by rw [hun, if_neg (by omega), hL.out]; rfl)
          have hcc : ((c + 1 : Nat) : Int) = (c : Int) + 1 := by omega
          rw [hcc] at hbits
          have hc0 : (0 : Int) < (c : Int) + 1 := by omega
          have Hsn := Lib.hid (ofN_snoc L c)
          have hsz := hb2.size
          clear hun hcc hL
          generalize ofN L = F at *
          go_wp2_with (at_builtin; refine wpList_append_own _ rfl _ _ 22 rfl w.heap.size 3 i0 (.int .i64 0) 1 8 Try.underlying22 hi hz0 hz1 hz2 rfl (by decide) _ _ _ rfl (hown.alloc _) ⟨wr.heap.size, 0, none⟩ 1 1 [.int .i64 c] rfl rfl (cell_one_new _ _ _) ?e2 ?e3 ?e4 (by simp; omega) ?_)
          case e2 => intro u hu; simp at hu; subst hu; rfl
          case e3 => unfold maxLen; omega
          case e4 => omega
          intro v2 w2 hown2 hgr2 _
          have hb3 : Below w.heap.size w w2 := (hb2.alloc hb2.size _).grown hgr2 (by have := hb2.size; simp; omega) (own_block hown)
          have hown3 := own_snoc hown2
          rw [← Hsn.out] at hown3
          clear hown2 hgr2 hown hb2
          go_wp2_with fail
          go_roundw
          case rel => exact ⟨3, L ++ [c], by omega, by go_num, hb3, hown3, HL2⟩
          case measure => simp [intOf]
      | 3, _ =>
        have hx : ((K : Int) / 16) = ((K / 16 : Nat) : Int) := by omega
        have hbits := and15 (K / 16) (by omega)
        rw [← hx] at hbits
        have hun : unp K 4 = if K / 16 % 16 = 0 then unp K 3 else unp K 3 ++ [K / 16 % 16 - 1] := rfl
        have hd : K / 16 % 16 < 16 := Nat.mod_lt _ (by omega)
        have hlen : (ofN L).length ≤ 4 := by rw [ofN_len, hL.out]; exact Hl.out 3
        clear hx
        generalize K / 16 % 16 = d at hbits hun hd
        match d, hd with
        | 0, _ =>
          have HL2 : Hid (L = unp K 4) := Lib.hid (by rw [hun, if_pos rfl, hL.out])
          clear hun hlen
          go_wp2_with fail
          go_roundw
          case rel => exact ⟨4, L, by omega, by go_num, hb2, hown, HL2⟩
          case measure => simp [intOf]
        | c + 1, hd =>
          have HL2 : Hid (L ++ [c] = unp K 4) := Lib.hid (by rw [hun, if_neg (by omega), hL.out]; rfl)
          have hcc : ((c + 1 : Nat) : Int) = (c : Int) + 1 := by omega
          rw [hcc] at hbits
          have hc0 : (0 : Int) < (c : Int) + 1 := by omega
          have Hsn := Lib.hid (ofN_snoc L c)
          have hsz := hb2.size
          clear hun hcc hL
          generalize ofN L = F at *
          go_wp2_with (at_builtin; refine wpList_append_own _ rfl _ _ 22 rfl w.heap.size 3 i0 (.int .i64 0) 1 8 Try.underlying22 hi hz0 hz1 hz2 rfl (by decide) _ _ _ rfl (hown.alloc _) ⟨wr.heap.size, 0, none⟩ 1 1 [.int .i64 c] rfl rfl (cell_one_new _ _ _) ?e2 ?e3 ?e4 (by simp; omega) ?_)
          case e2 => intro u hu; simp at hu; subst hu; rfl
          case e3 => unfold maxLen; omega
          case e4 => omega
          intro v2 w2 hown2 hgr2 _
          have hb3 : Below w.heap.size w w2 := (hb2.alloc hb2.size _).grown hgr2 (by have := hb2.size; simp; omega) (own_block hown)
          have hown3 := own_snoc hown2
          rw [← Hsn.out] at hown3
          clear hown2 hgr2 hown hb2
          go_wp2_with fail
          go_roundw
          case rel => exact ⟨4, L ++ [c], by omega, by go_num, hb3, hown3, HL2⟩
          case measure => simp [intOf]
      | 4, _ =>
        have hx : ((K : Int)) = ((K / 1 : Nat) : Int) := by omega
        have hbits := and15 (K / 1) (by omega)
        rw [← hx] at hbits
        have hun : unp K 5 = if K / 1 % 16 = 0 then unp K 4 else unp K 4 ++ [K / 1 % 16 - 1] := rfl
        have hd : K / 1 % 16 < 16 := Nat.mod_lt _ (by omega)
        have hlen : (ofN L).length ≤ 5 := by rw [ofN_len, hL.out]; exact Hl.out 4
        clear hx
        generalize K / 1 % 16 = d at hbits hun hd
        match d, hd with
        | 0, _ =>
          have HL2 : Hid (L = unp K 5) := Lib.hid (by rw [hun, if_pos rfl, hL.out])
          clear hun hlen
          go_wp2_with fail
          go_roundw
          case rel => exact ⟨5, L, by omega, by go_num, hb2, hown, HL2⟩
          case measure => simp [intOf]
        | c + 1, hd =>
          have HL2 : Hid (L ++ [c] = unp K 5) := Lib.hid (by rw [hun, if_neg (by omega), hL.out]; rfl)
          have hcc : ((c + 1 : Nat) : Int) = (c : Int) + 1 := by omega
          rw [hcc] at hbits
          have hc0 : (0 : Int) < (c : Int) + 1 := by omega
          have Hsn := Lib.hid (ofN_snoc L c)
          have hsz := hb2.size
          clear hun hcc hL
          generalize ofN L = F at *
          go_wp2_with (at_builtin; refine wpList_append_own _ rfl _ _ 22 rfl w.heap.size 3 i0 (.int .i64 0) 1 8 Try.underlying22 hi hz0 hz1 hz2 rfl (by decide) _ _ _ rfl (hown.alloc _) ⟨wr.heap.size, 0, none⟩ 1 1 [.int .i64 c] rfl rfl (cell_one_new _ _ _) ?e2 ?e3 ?e4 (by simp; omega) ?_)
          case e2 => intro u hu; simp at hu; subst hu; rfl
          case e3 => unfold maxLen; omega
          case e4 => omega
          intro v2 w2 hown2 hgr2 _
          have hb3 : Below w.heap.size w w2 := (hb2.alloc hb2.size _).grown hgr2 (by have := hb2.size; simp; omega) (own_block hown)
          have hown3 := own_snoc hown2
          rw [← Hsn.out] at hown3
          clear hown2 hgr2 hown hb2
          go_wp2_with fail
          go_roundw
          case rel => exact ⟨5, L ++ [c], by omega, by go_num, hb3, hown3, HL2⟩
          case measure => simp [intOf]
    · obtain rfl : p = 5 := by omega
      have hwf : ∀ x ∈ ofN L, (Lit.int .i64 x).wf = true := fun x hx => by
        obtain ⟨y, hy, rfl⟩ := List.mem_map.1 hx
        rw [hL.out] at hy
        have := Hb.out 5 y hy
        exact WalkArith.wf_i64 (by omega)
      have HW := Lib.hid (own_wr hown hwf)
      clear hown hwf
      go_wp2_with fail
      go_ret
      obtain ⟨b2, hb2', hw2⟩ := HW.out
      exact ⟨_, b2, rfl, hb2', by rw [He.out, ← hL.out]; exact hw2, hb2⟩
end Go.Proofs.Ytcafbnddbddijaa
