/-
  What is read as a number is its own least encoding.
-/
import Derived.Test.YtjigglnepcabmaaModel02b
namespace Go.Proofs.Ytjigglnepcabmaa
open Go.RowKit

theorem rdGo_back (zs : List Int) (hb : ∀ x ∈ zs, 0 ≤ x ∧ x ≤ 255) (s : Nat) : ∀ (j k : Nat) (n x nx : Int), rdGo zs s j k n = some (x, nx) →
    ∃ d L : Nat, x = n + (d : Int) * 128 ^ k ∧ (0 < k → 0 < d) ∧ nx = (s : Int) + k + L ∧ s + k + L ≤ zs.length ∧ (zs.drop (s + k)).take L = uvar d := by
  intro j
  induction j with
  | zero => intro k n x nx h; simp [rdGo] at h
  | succ j ih =>
    intro k n x nx h
    rw [rdGo] at h
    by_cases hl : zs.length ≤ s + k
    · rw [if_pos hl] at h; cases h
    rw [if_neg hl] at h
    have hlt : s + k < zs.length := by omega
    have hd : zs.drop (s + k) = zs[s + k] :: zs.drop (s + k + 1) := List.drop_eq_getElem_cons hlt
    have hg : zs.getD (s + k) 0 = zs[s + k] := by simp [List.getD, hlt]
    have hy := hb zs[s + k] (List.getElem_mem hlt)
    rw [hg] at h
    generalize zs[s + k] = y at *
    obtain ⟨yn, rfl⟩ := Int.eq_ofNat_of_zero_le hy.1
    by_cases h1 : (yn : Int) < 128
    · rw [if_pos h1] at h
      split at h
      · cases h
      rename_i hno
      have h2 := Option.some.inj h
      have h3 := (Prod.mk.inj h2).1
      have h4 := (Prod.mk.inj h2).2
      have e : ((yn : Int) % 128) = yn := by omega
      rw [e] at h3
      refine ⟨yn, 1, h3.symm, fun hk => ?_, by omega, by omega, ?_⟩
      · rcases Nat.eq_zero_or_pos yn with h0 | h0
        · exact absurd (.inl ⟨by rw [h0]; rfl, hk⟩) hno
        · exact h0
      · rw [hd, uvar_small yn (by omega)]; rfl
    · rw [if_neg h1] at h
      obtain ⟨d, L, e1, e2, e3, e4, e5⟩ := ih _ _ _ _ h
      have hd0 := e2 (by omega)
      refine ⟨yn % 128 + 128 * d, L + 1, ?_, fun _ => by omega, by omega, by omega, ?_⟩
      · rw [e1]
        have e6 : (((yn % 128 + 128 * d : Nat)) : Int) = (yn : Int) % 128 + (d : Int) * 128 := by omega
        rw [e6, Int.pow_succ, Int.mul_comm (128 ^ k) 128, ← Int.mul_assoc, Int.add_assoc, ← Int.add_mul]
      · rw [hd, uvar_big _ (by omega), List.take_succ_cons, show (yn % 128 + 128 * d) / 128 = d by omega, ← e5, show s + k + 1 = s + (k + 1) by omega, show (yn % 128 + 128 * d) % 128 + 128 = yn by omega]
theorem rdU_back {zs : List Int} (hb : ∀ x ∈ zs, 0 ≤ x ∧ x ≤ 255) {c x nx : Int} (h : rdU zs c = some (x, nx)) : (zs.drop c.toNat).take (nx.toNat - c.toNat) = uvar x.toNat := by
  unfold rdU at h
  by_cases hc : c < 0
  · rw [if_pos hc] at h; cases h
  rw [if_neg hc] at h
  obtain ⟨d, L, e1, -, e3, -, e5⟩ := rdGo_back zs hb c.toNat 6 0 0 x nx h
  have e6 : x.toNat = d := by rw [e1]; simp
  have e7 : nx.toNat - c.toNat = L := by omega
  rw [e6, e7, ← e5]; rfl
end Go.Proofs.Ytjigglnepcabmaa
