/-
  The helper big of the laws; l1Bytes by contract.
-/
import Derived.Test.YtjigglnepcabmaaCur
import Derived.Test.YtjigglnepcabmaaMarksB
namespace Go.Proofs.Ytjigglnepcabmaa
open Go.RowKit

theorem big_t (a : Option Addr) (len cap : Nat) (w : World) (h : 1048576 < len) :
    Calls Try.prog 14 #[.slice a len cap] w fun e w' => e = .returned (.bool true) ∧ w = w' := by
  have hd : decide (1048576 < (len : Int)) = true := by simp; omega
  go_enter Try.func14, Try.ntmps14
  go_wp2
  go_ret
  exact ⟨rfl, rfl⟩
theorem big_f (a : Option Addr) (len cap : Nat) (w : World) (h : len ≤ 1048576) :
    Calls Try.prog 14 #[.slice a len cap] w fun e w' => e = .returned (.bool false) ∧ w = w' := by
  have hd : decide (1048576 < (len : Int)) = false := by simp; omega
  go_enter Try.func14, Try.ntmps14
  go_wp2
  go_ret
  exact ⟨rfl, rfl⟩
/-- What the call owns stays its own where another block is turned. -/
theorem own_kept {w w' : World} {B b : Nat} {E : TypeId} {size n : Nat} {v : Value} {xs : List Value} (h : w.ownsRow B E size v n xs) (hg : w.grownBy w' (some b)) (hb : b < B) : w'.ownsRow B E size v n xs :=
  h.kept (row := some b) hg (by
    rcases Classical.em (v.ownBlock = none) with h0 | h0
    · exact .inl h0
    · refine .inr (fun e => ?_)
      have := own_block h b e
      omega)
theorem grown_then_below {w w1 w2 : World} {r : Option Nat} (h : w.grownBy w1 r) (hb : Below w.heap.size w1 w2) : w.grownBy w2 r :=
  ⟨hb.os.trans h.os, hb.tape.trans h.tape, hb.output.trans h.output, Nat.le_trans h.size hb.size, fun j hj hne => (hb.block j hj).trans (h.block j hj hne)⟩
set_option maxRecDepth 100000 in
set_option maxHeartbeats 400000 in
theorem l1Bytes_any (B b : Nat) (n : Int) (w : World) (hC : Cur B b w) (hn : n ≤ 1000) :
    Calls Try.prog 61 #[.pointer (some ⟨b, 0, none⟩), .int .i64 n] w fun e w' => (∃ v, e = .returned v ∧ ∃ zs : List Int, zs.length ≤ 1000 ∧ ((zs.length : Int) = n ∨ zs = []) ∧ ∃ r, w.heap.size ≤ r ∧ WrAt .u8 w' v zs r) ∧ Cur B b w' ∧ w.grownBy w' (some b) := by
  obtain ⟨i0, hi, hz0, hz1, hz2⟩ := info_parts info_u8
  have hlt0 := hC.lt
  go_enter Try.func61, Try.ntmps61
  go_wp2_with fail
  have hown0 := World.ownsRow_lit (base := w.heap.size) (e := 5) (size := 1) w #[] 0 (Nat.le_refl _) (Nat.zero_le _) rfl
  go_loopw [5, 6] (fun o i wr => ∃ (zs : List Int) (k : Nat), Hid (zs.length = k) ∧ Hid (k = 0 ∨ (k : Int) ≤ n) ∧ i = .int .i64 k ∧ Hid (∀ x ∈ zs, (Lit.int .u8 x).wf = true) ∧ Cur B b wr ∧ w.grownBy wr (some b) ∧ wr.ownsRow w.heap.size 5 1 o k (zs.map (Value.int .u8))) (fun _ i _ => n.toNat - (intOf i).toNat)
  case atStart => exact ⟨[], 0, Lib.hid rfl, Lib.hid (.inl rfl), rfl, Lib.hid (by simp), hC.alloc _, grown_alloc (grown_refl _ _) _, hown0⟩
  case round =>
    clear hown0
    obtain ⟨zs, k, hzk, hk, rfl, hwf, hC2, hg, hown⟩ := hrel
    by_cases hlt : (k : Int) < n
    · go_wp2_with fail
      refine (l1Byte_any B b _ hC2).mono ?_
      rintro e w1 ⟨⟨x, x0, x1, rfl⟩, hC3, hg1⟩
      have hg2 := grown_trans hg hg1
      have hown1 := own_kept hown hg1 hlt0
      have hsz := hg2.size
      clear hC2 hg hown hg1
      go_wp2_with (at_builtin; refine wpList_append_own _ rfl _ _ 22 rfl w.heap.size 5 i0 (.int .u8 0) 1 1 Try.underlying22 hi hz0 hz1 hz2 rfl (by decide) _ _ _ rfl (hown1.alloc _) ⟨w1.heap.size, 0, none⟩ 1 1 [.int .u8 x] rfl rfl (cell_one_new _ _ _) (one_cell _ _) ?e3 ?e4 (by simp; omega) ?_)
      case e3 => unfold maxLen; omega
      case e4 => omega
      intro v2 w2 hown2 hgr2 _
      have hB12 : Below w.heap.size w1 w2 := ((Below.refl _ _).alloc hsz _).grown hgr2 (by simp; omega) (own_block hown1)
      have hg3 := grown_then_below hg2 hB12
      have hC4 := hC3.keep (hB12.block b hlt0) (hB12.mono (Nat.le_trans hC.le (Nat.le_of_lt hlt0)))
      have hown3 : w2.ownsRow w.heap.size 5 1 v2 (k + 1) ((zs ++ [x]).map (Value.int .u8)) := by
        rw [List.map_append]; exact hown2
      have hwf2 : Hid (∀ y ∈ zs ++ [x], (Lit.int .u8 y).wf = true) := Lib.hid (fun y hy => (List.mem_append.1 hy).elim (hwf.out y) (fun h => by
        simp at h; subst h
        simp [Lit.wf, IntKind.min, IntKind.max, IntKind.signed, IntKind.bits]; omega))
      clear hown2 hgr2 hown1 hC3 hg2 hB12
      go_wp2_with fail
      go_roundw
      case rel => exact ⟨zs ++ [x], k + 1, Lib.hid (by rw [List.length_append, hzk.out]; rfl), Lib.hid (by omega), by go_num, hwf2, hC4, hg3, hown3⟩
      case measure => simp [intOf]; omega
    · have hwr := Lib.hid (own_wr (by rw [hzk.out]; exact hown) hwf.out)
      clear hown
      go_wp2_with fail
      go_ret
      obtain ⟨r, hr, hw'⟩ := hwr.out
      have hz := hzk.out
      have hk2 := hk.out
      refine ⟨⟨_, rfl, zs, by omega, ?_, r, hr, hw'⟩, hC2, hg⟩
      rcases hk2 with h | h
      · subst h; exact .inr (List.length_eq_zero_iff.1 hz)
      · left; omega
end Go.Proofs.Ytjigglnepcabmaa
