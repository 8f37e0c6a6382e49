/-
  The model's ReadBytes by contract.
-/
import Derived.Test.YtjfnmofmmipibaaRead02
namespace Go.Proofs.Ytjfnmofmmipibaa
open Go.RowKit

set_option maxRecDepth 100000 in
set_option maxHeartbeats 4000000 in
theorem sReadBytes_any (v : Value) (zs : List Int) (b : Nat) (c most : Int) (w : World) (h : RdAt .u8 w v zs b) (hl : zs.length ≤ 1099511627776) (wc : (Lit.int .i64 c).wf = true) :
    Calls Try.prog 28 #[v, .int .i64 c, .int .i64 most] w fun e w' => ∃ v' b', e = .returned (.tuple #[v', .int .i64 (rdN (rdBy zs c most)), .bool (rdB (rdBy zs c most))]) ∧ w.heap.size ≤ b' ∧ WrAt .u8 w' v' (rdZ (rdBy zs c most)) b' ∧ Below w.heap.size w w' := by
  have hc := sReadUvarint_any v zs b c w h hl wc
  cases hu : rdU zs c with
  | none =>
    rw [hu] at hc
    have Hc := Lib.hid hc
    have Hr := Lib.hid (rdBy_none (most := most) hu)
    clear hc hu
    obtain ⟨p0, cap0, rfl, -⟩ := id h
    go_enter Try.func28, Try.ntmps28
    go_wp2_with fail
    refine Hc.out.mono ?_
    rintro e w1 ⟨rfl, hB⟩
    simp only [rdV]
    go_wp2_with fail
    go_ret3
    exact ⟨_, w.heap.size, by rw [Hr.out]; rfl, Nat.le_refl _, by rw [Hr.out]; exact WrAt.nil _ _ _ _ _ ⟨Nat.zero_le _, fun h => by cases h⟩, hB.alloc hB.size _⟩
  | some p =>
    obtain ⟨n, nx⟩ := p
    have hf := rdU_some hu
    obtain ⟨hf0, hf1, hf2, hf3, hf4⟩ := hf
    rw [hu] at hc
    have Hc := Lib.hid hc
    obtain ⟨L, hL⟩ : ∃ L, L = zs.length := ⟨_, rfl⟩
    rw [← hL] at hl hf4
    rcases h.open with ⟨h0, -⟩ | ⟨hz, off, cap, rfl, hcap, hcc⟩
    · subst h0; simp at hL; omega
    by_cases hfar : most < n ∨ (L : Int) - nx < n
    · have Hr := Lib.hid (rdBy_far hu (most := most) (by rw [← hL]; exact hfar))
      rw [← hL] at Hc ⊢
      clear hc hu hcap hcc hz
      by_cases h1 : most < n
      · clear hfar h hL
        go_enter Try.func28, Try.ntmps28
        go_wp2_with fail
        refine Hc.out.mono ?_
        rintro e w1 ⟨rfl, hB⟩
        simp only [rdV]
        go_wp2_with fail
        go_ret3
        exact ⟨_, w.heap.size, by rw [Hr.out]; rfl, Nat.le_refl _, by rw [Hr.out]; exact WrAt.nil _ _ _ _ _ ⟨Nat.zero_le _, fun h => by cases h⟩, hB.alloc hB.size _⟩
      · have h2 : (L : Int) - nx < n := hfar.resolve_left h1
        have hd : decide (most < n) = false := by simp; omega
        clear hfar h hL
        go_enter Try.func28, Try.ntmps28
        go_wp2_with fail
        refine Hc.out.mono ?_
        rintro e w1 ⟨rfl, hB⟩
        simp only [rdV]
        go_wp2_with fail
        go_ret3
        exact ⟨_, w.heap.size, by rw [Hr.out]; rfl, Nat.le_refl _, by rw [Hr.out]; exact WrAt.nil _ _ _ _ _ ⟨Nat.zero_le _, fun h => by cases h⟩, hB.alloc hB.size _⟩
    · have Hr := Lib.hid (rdBy_some hu (most := most) (by rw [← hL]; exact hfar))
      have h1 : ¬ most < n := fun x => hfar (.inl x)
      have h2 : ¬ (L : Int) - nx < n := fun x => hfar (.inr x)
      have hd1 : decide (most < n) = false := by simp; omega
      have hd2 : decide ((L : Int) - nx < n) = false := by simp; omega
      obtain ⟨N, rfl⟩ := Int.eq_ofNat_of_zero_le hf1
      obtain ⟨X, rfl⟩ := Int.eq_ofNat_of_zero_le (show 0 ≤ nx by omega)
      have hwf := h.wf
      have hlt := h.lt hz
      have hcapL : L ≤ cap ∧ cap ≤ 9223372036854775807 := by have := hcap.1; have := hcap.2; unfold maxLen at this; omega
      have hpart : ∀ w' : World, w'.heap[b]? = w.heap[b]? → ∀ a' : Addr, (N = 0 ∨ a' = ⟨b, off + X, none⟩) → RdAt .u8 w' (.slice (some a') N (cap - X)) ((zs.drop X).take N) b := fun w' hb a' ha => by
        rcases ha with rfl | rfl
        · exact (WrAt.nil .u8 w' (some a') (cap - X) b ⟨by unfold maxLen; omega, fun h => by cases h⟩).rd
        · exact RdAt.part (w := w') hwf (fun j hj => by rw [World.cell?_of_block (w := w) (a := ⟨b, off + j, none⟩) hb]; exact hcc j hj) X N (cap - X) (by rw [← hL]; omega) ⟨by omega, by unfold maxLen; omega⟩
      have Hpart := Lib.hid hpart
      have hlen : ((zs.drop X).take N).length = N := by simp; omega
      have Hlen := Lib.hid hlen
      rw [← hL] at Hc ⊢
      simp only [Int.toNat_natCast] at Hr
      clear hc hu hcap hcc hz hfar h hL hpart hlen
      by_cases hN : N = 0
      · subst hN
        have Hr0 : Hid (rdBy zs c most = some ([], (X : Int))) := Lib.hid (by rw [Hr.out]; simp)
        go_enter Try.func28, Try.ntmps28
        go_wp2_with fail
        refine Hc.out.mono ?_
        rintro e w1 ⟨rfl, hB⟩
        simp only [rdV]
        clear Hpart Hlen Hc
        go_wp2_with fail
        all_goals go_ret3
        all_goals exact ⟨_, w1.heap.size, by rw [Hr0.out]; rfl, hB.size, by rw [Hr0.out]; exact WrAt.nil _ _ _ _ _ ⟨Nat.zero_le _, fun h => by cases h⟩, hB.alloc hB.size _⟩
      · obtain ⟨i0, hi, hz0, hz1, hz2⟩ := info_parts info_u8
        go_enter Try.func28, Try.ntmps28
        go_wp2_with fail
        refine Hc.out.mono ?_
        rintro e w1 ⟨rfl, hB⟩
        simp only [rdV]
        have hown0 := World.ownsRow_lit (base := w1.heap.size) (e := 5) (size := 1) w1 #[] 0 (Nat.le_refl _) (Nat.zero_le _) rfl
        have hB2 := hB.alloc hB.size (.cells #[] 5)
        have hrd0 := Hpart.out _ (hB2.block b hlt) ⟨b, off + X, none⟩ (.inr rfl)
        have hrd : RdAt .u8 (w1.alloc (.cells #[] 5)) (.slice (some ⟨b, off + X, none⟩) (X + N - X) (cap - X)) ((zs.drop X).take N) b := by
          rw [Nat.add_sub_cancel_left]; exact hrd0
        clear Hpart Hc hrd0
        go_wp2_with (at_builtin; refine wpList_append_rd _ rfl _ _ 22 rfl w1.heap.size 5 i0 (.int .u8 0) 1 Try.underlying22 hi hz0 hz1 hz2 rfl _ _ _ rfl hown0 .u8 _ _ b rfl hrd ?d3 ?d4 (by simp) ?_)
        case d3 => have := Nat.min_le_left N (zs.length - X); unfold maxLen; omega
        case d4 => have := Nat.min_le_left N (zs.length - X); omega
        intro v1 w2 hown hgr
        have hb3 : Below w.heap.size w w2 := hB2.grown hgr hB2.size (fun k hk => Nat.le_trans hB.size (own_block hown0 k hk))
        try simp only [Nat.zero_add, List.nil_append] at hown
        have hown2 : w2.ownsRow w1.heap.size 5 1 v1 ((zs.drop X).take N).length (((zs.drop X).take N).map (Value.int .u8)) := by simpa using hown
        have hwr := Lib.hid (own_wr hown2 hrd.wf)
        have hsz := hB.size
        clear hrd hown hown2 hgr hown0 hB2
        go_wp2_with fail
        go_ret3
        obtain ⟨b', hb', hw'⟩ := hwr.out
        exact ⟨_, b', by rw [Hr.out]; rfl, Nat.le_trans hsz hb', by rw [Hr.out]; exact hw', hb3⟩
end Go.Proofs.Ytjfnmofmmipibaa
