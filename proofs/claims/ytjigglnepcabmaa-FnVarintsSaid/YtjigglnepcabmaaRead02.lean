/-
  ReadUvarint, ReadBytes and DecodeInts by contract, both sides.
-/
import Derived.Test.YtjigglnepcabmaaVarints
namespace Go.Proofs.Ytjigglnepcabmaa
open Go.RowKit

theorem rdGo_some {zs : List Int} {s : Nat} : ∀ {j k : Nat} {m x nx : Int}, 0 ≤ m → rdGo zs s j k m = some (x, nx) → 0 ≤ x ∧ x ≤ 1000000000000 ∧ (s : Int) < nx ∧ nx ≤ (zs.length : Int)
  | 0, _, _, _, _, _, h => by simp [rdGo] at h
  | j + 1, k, m, x, nx, hm, h => by
    have hp : (0 : Int) ≤ zs.getD (s + k) 0 % 128 * 128 ^ k := Int.mul_nonneg (Int.emod_nonneg _ (by omega)) (Int.pow_nonneg (by omega))
    rw [rdGo] at h
    split at h
    · cases h
    · split at h
      · split at h
        · cases h
        · rename_i h1 h2 h3
          simp only [Option.some.injEq, Prod.mk.injEq] at h
          obtain ⟨rfl, rfl⟩ := h
          omega
      · exact rdGo_some (by omega) h
theorem rdU_some {zs : List Int} {c x nx : Int} (h : rdU zs c = some (x, nx)) : 0 ≤ c ∧ 0 ≤ x ∧ x ≤ 1000000000000 ∧ c < nx ∧ nx ≤ (zs.length : Int) := by
  unfold rdU at h
  split at h
  · cases h
  · rename_i hc
    have := rdGo_some (by omega) h
    omega
theorem rdU_out {zs : List Int} {c : Int} (h : ¬ (0 ≤ c ∧ c ≤ (zs.length : Int))) : rdU zs c = none := by
  cases e : rdU zs c with
  | none => rfl
  | some p =>
    obtain ⟨x, nx⟩ := p
    have := rdU_some e
    omega
theorem rdList_none {zs : List Int} {c : Int} (h : rdU zs c = none) : rdList zs c 1 = none := by
  unfold rdList
  split
  · exact rdAll_none h
  · rfl
theorem rdList_some {zs : List Int} {c x nx : Int} (h : rdU zs c = some (x, nx)) : rdList zs c 1 = some ([x], nx) := by
  have := rdU_some h
  unfold rdList
  rw [if_pos (by omega), rdAll_some h]
  rfl

set_option maxRecDepth 100000 in
set_option maxHeartbeats 1000000 in
theorem readUvarint_any (v : Value) (zs : List Int) (b : Nat) (c : Int) (w : World) (h : RdAt .u8 w v zs b) (hl : zs.length ≤ 1099511627776) (wc : (Lit.int .i64 c).wf = true) :
    Calls Try.prog 17 #[v, .int .i64 c] w fun e w' => e = .returned (rdV (rdU zs c)) ∧ Below w.heap.size w w' := by
  have hc := readVarints_any v zs b c 1 w h hl wc (by omega)
  cases hu : rdU zs c with
  | none =>
    rw [rdList_none hu] at hc
    have Hc := Lib.hid hc
    clear hc hu
    obtain ⟨p0, cap0, rfl, -⟩ := id h
    go_enter Try.func17, Try.ntmps17
    go_wp2_with fail
    refine Hc.out.mono ?_
    rintro e w1 ⟨v1, b1, rfl, hb1, hw1, hB⟩
    try simp only [rdN, rdB]
    go_wp2_with fail
    go_ret3
    exact ⟨rfl, hB⟩
  | some p =>
    obtain ⟨x, nx⟩ := p
    rw [rdList_some hu] at hc
    have Hc := Lib.hid hc
    clear hc hu
    obtain ⟨p0, cap0, rfl, -⟩ := id h
    go_enter Try.func17, Try.ntmps17
    go_wp2_with fail
    refine Hc.out.mono ?_
    rintro e w1 ⟨v1, b1, rfl, hb1, hw1, hB⟩
    have hop := hw1.open
    rcases hop with ⟨h0, -⟩ | ⟨-, off, cap, rfl, hcap, hcc, -⟩
    · cases h0
    have hcell : w1.cell? ⟨b1, off, none⟩ = some (.int .i64 x) := hcc 0 (by simp [rdZ])
    have hcap2 : 1 ≤ cap := hcap.1
    clear hcc hw1 hcap
    try simp only [rdN, rdB, rdZ, List.length_cons, List.length_nil]
    go_wp2_with fail
    go_ret3
    exact ⟨rfl, hB⟩

/-- A byte string read at an offset. -/
def rdBy (zs : List Int) (c most : Int) : Option (List Int × Int) := match rdU zs c with
  | none => none
  | some (n, nx) => if most < n ∨ (zs.length : Int) - nx < n then none else some ((zs.drop nx.toNat).take n.toNat, nx + n)
theorem rdBy_none {zs : List Int} {c most : Int} (h : rdU zs c = none) : rdBy zs c most = none := by unfold rdBy; rw [h]
theorem rdBy_far {zs : List Int} {c most n nx : Int} (h : rdU zs c = some (n, nx)) (h2 : most < n ∨ (zs.length : Int) - nx < n) : rdBy zs c most = none := by unfold rdBy; rw [h]; exact if_pos h2
theorem rdBy_some {zs : List Int} {c most n nx : Int} (h : rdU zs c = some (n, nx)) (h2 : ¬ (most < n ∨ (zs.length : Int) - nx < n)) : rdBy zs c most = some ((zs.drop nx.toNat).take n.toNat, nx + n) := by unfold rdBy; rw [h]; exact if_neg h2
theorem rdBy_len (zs : List Int) (c most : Int) : (rdZ (rdBy zs c most)).length ≤ zs.length := by
  unfold rdBy
  split
  · simp [rdZ]
  · split
    · simp [rdZ]
    · simp [rdZ]; omega

set_option maxRecDepth 100000 in
set_option maxHeartbeats 1000000 in
theorem readBytes_any (v : Value) (zs : List Int) (b : Nat) (c most : Int) (w : World) (h : RdAt .u8 w v zs b) (hl : zs.length ≤ 1099511627776) (wc : (Lit.int .i64 c).wf = true) :
    Calls Try.prog 23 #[v, .int .i64 c, .int .i64 most] w fun e w' => ∃ v' b', e = .returned (.tuple #[v', .int .i64 (rdN (rdBy zs c most)), .bool (rdB (rdBy zs c most))]) ∧ w.heap.size ≤ b' ∧ WrAt .u8 w' v' (rdZ (rdBy zs c most)) b' ∧ Below w.heap.size w w' := by
  have hc := readUvarint_any v zs b c w h hl wc
  cases hu : rdU zs c with
  | none =>
    rw [hu] at hc
    have Hc := Lib.hid hc
    have Hr := Lib.hid (rdBy_none (most := most) hu)
    clear hc hu
    obtain ⟨p0, cap0, rfl, -⟩ := id h
    go_enter Try.func23, Try.ntmps23
    go_wp2_with fail
    refine Hc.out.mono ?_
    rintro e w1 ⟨rfl, hB⟩
    simp only [rdV]
    go_wp2_with fail
    go_ret3
    exact ⟨_, w.heap.size, by rw [Hr.out]; rfl, Nat.le_refl _, by rw [Hr.out]; exact WrAt.nil _ _ _ _ _ ⟨Nat.zero_le _, fun h => by cases h⟩, hB.alloc hB.size _⟩
  | some p =>
    obtain ⟨n, nx⟩ := p
    have hf := rdU_some hu
    obtain ⟨hf0, hf1, hf2, hf3, hf4⟩ := hf
    rw [hu] at hc
    have Hc := Lib.hid hc
    obtain ⟨L, hL⟩ : ∃ L, L = zs.length := ⟨_, rfl⟩
    rw [← hL] at hl hf4
    rcases h.open with ⟨h0, -⟩ | ⟨hz, off, cap, rfl, hcap, hcc⟩
    · subst h0; simp at hL; omega
    by_cases hfar : most < n ∨ (L : Int) - nx < n
    · have Hr := Lib.hid (rdBy_far hu (most := most) (by rw [← hL]; exact hfar))
      rw [← hL] at Hc ⊢
      clear hc hu hcap hcc hz
      by_cases h1 : most < n
      · clear hfar h hL
        go_enter Try.func23, Try.ntmps23
        go_wp2_with fail
        refine Hc.out.mono ?_
        rintro e w1 ⟨rfl, hB⟩
        simp only [rdV]
        go_wp2_with fail
        go_ret3
        exact ⟨_, w.heap.size, by rw [Hr.out]; rfl, Nat.le_refl _, by rw [Hr.out]; exact WrAt.nil _ _ _ _ _ ⟨Nat.zero_le _, fun h => by cases h⟩, hB.alloc hB.size _⟩
      · have h2 : (L : Int) - nx < n := hfar.resolve_left h1
        have hd : decide (most < n) = false := by simp; omega
        clear hfar h hL
        go_enter Try.func23, Try.ntmps23
        go_wp2_with fail
        refine Hc.out.mono ?_
        rintro e w1 ⟨rfl, hB⟩
        simp only [rdV]
        go_wp2_with fail
        go_ret3
        exact ⟨_, w.heap.size, by rw [Hr.out]; rfl, Nat.le_refl _, by rw [Hr.out]; exact WrAt.nil _ _ _ _ _ ⟨Nat.zero_le _, fun h => by cases h⟩, hB.alloc hB.size _⟩
    · have Hr := Lib.hid (rdBy_some hu (most := most) (by rw [← hL]; exact hfar))
      have h1 : ¬ most < n := fun x => hfar (.inl x)
      have h2 : ¬ (L : Int) - nx < n := fun x => hfar (.inr x)
      have hd1 : decide (most < n) = false := by simp; omega
      have hd2 : decide ((L : Int) - nx < n) = false := by simp; omega
      obtain ⟨N, rfl⟩ := Int.eq_ofNat_of_zero_le hf1
      obtain ⟨X, rfl⟩ := Int.eq_ofNat_of_zero_le (show 0 ≤ nx by omega)
      have hwf := h.wf
      have hlt := h.lt hz
      have hcapL : L ≤ cap ∧ cap ≤ 9223372036854775807 := by have := hcap.1; have := hcap.2; unfold maxLen at this; omega
      have hpart : ∀ w' : World, w'.heap[b]? = w.heap[b]? → ∀ a' : Addr, (N = 0 ∨ a' = ⟨b, off + X, none⟩) → RdAt .u8 w' (.slice (some a') N N) ((zs.drop X).take N) b := fun w' hb a' ha => by
        rcases ha with rfl | rfl
        · exact (WrAt.nil .u8 w' (some a') 0 b ⟨Nat.zero_le _, fun h => by cases h⟩).rd
        · exact RdAt.part (w := w') hwf (fun j hj => by rw [World.cell?_of_block (w := w) (a := ⟨b, off + j, none⟩) hb]; exact hcc j hj) X N N (by rw [← hL]; omega) ⟨Nat.le_refl _, by unfold maxLen; omega⟩
      have Hpart := Lib.hid hpart
      have hlen : ((zs.drop X).take N).length = N := by simp; omega
      have Hlen := Lib.hid hlen
      rw [← hL] at Hc ⊢
      simp only [Int.toNat_natCast] at Hr
      clear hc hu hcap hcc hz hfar h hL hpart hlen
      by_cases hN : N = 0
      · subst hN
        have Hr0 : Hid (rdBy zs c most = some ([], (X : Int))) := Lib.hid (by rw [Hr.out]; simp)
        go_enter Try.func23, Try.ntmps23
        go_wp2_with fail
        refine Hc.out.mono ?_
        rintro e w1 ⟨rfl, hB⟩
        simp only [rdV]
        go_wp2_with fail
        have hrd := Hpart.out w1 (hB.block b hlt) ⟨b, off, none⟩ (.inl trivial)
        refine (copyBytes_own _ _ b w1 hrd (by rw [Hlen.out]; omega)).mono ?_
        rintro e w2 ⟨v2, rfl, hown, hb2⟩
        have hwr := Lib.hid (own_wr hown hrd.wf)
        have hb3 := hB.trans (hb2.mono hB.size)
        have hsz := hB.size
        clear hrd hown hb2
        go_wp2_with fail
        go_ret3
        obtain ⟨b', hb', hw'⟩ := hwr.out
        exact ⟨_, b', by rw [Hr0.out]; rfl, Nat.le_trans hsz hb', by rw [Hr0.out]; exact hw', hb3⟩
      · go_enter Try.func23, Try.ntmps23
        go_wp2_with fail
        refine Hc.out.mono ?_
        rintro e w1 ⟨rfl, hB⟩
        simp only [rdV]
        go_wp2_with fail
        have hrd := Hpart.out w1 (hB.block b hlt) ⟨b, off + X, none⟩ (.inr rfl)
        refine (copyBytes_own _ _ b w1 hrd (by rw [Hlen.out]; omega)).mono ?_
        rintro e w2 ⟨v2, rfl, hown, hb2⟩
        have hwr := Lib.hid (own_wr hown hrd.wf)
        have hb3 := hB.trans (hb2.mono hB.size)
        have hsz := hB.size
        clear hrd hown hb2
        go_wp2_with fail
        go_ret3
        obtain ⟨b', hb', hw'⟩ := hwr.out
        exact ⟨_, b', by rw [Hr.out]; rfl, Nat.le_trans hsz hb', by rw [Hr.out]; exact hw', hb3⟩
end Go.Proofs.Ytjigglnepcabmaa
