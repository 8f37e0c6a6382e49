/-
  Two lists in turn, without the program.
-/
import Derived.Test.YtcneogkokganpaaMarksI
namespace Go.Proofs.Ytcneogkokganpaa
open Go.RowKit

/-- The first k rounds. -/
def rif (a b : List Int) : Nat → List Int
  | 0 => []
  | k + 1 => rif a b k ++ ((if k < a.length then [a.getD k 0] else []) ++ (if k < b.length then [b.getD k 0] else []))
theorem rif_len (a b : List Int) : ∀ k, (rif a b k).length = min k a.length + min k b.length
  | 0 => by simp [rif]
  | k + 1 => by
    rw [rif, List.length_append, List.length_append, rif_len a b k]
    by_cases h1 : k < a.length <;> by_cases h2 : k < b.length <;> simp [h1, h2] <;> omega
theorem rif_stop (a b : List Int) {k : Nat} (h1 : a.length ≤ k) (h2 : b.length ≤ k) : rif a b (k + 1) = rif a b k := by
  rw [rif, if_neg (by omega), if_neg (by omega)]; simp
theorem rif_end (a b : List Int) : ∀ m, rif a b (max a.length b.length + m) = rif a b (max a.length b.length)
  | 0 => rfl
  | m + 1 => by rw [← Nat.add_assoc, rif_stop a b (by omega) (by omega)]; exact rif_end a b m
def riffle (a b : List Int) : List Int := rif a b (max a.length b.length)
theorem riffle_at {a b : List Int} {k : Nat} (h1 : a.length ≤ k) (h2 : b.length ≤ k) : rif a b k = riffle a b := by
  obtain ⟨m, rfl⟩ : ∃ m, k = max a.length b.length + m := ⟨k - max a.length b.length, by omega⟩
  exact rif_end a b m
theorem rif_wf {a b : List Int} (ha : ∀ x ∈ a, (Lit.int .i64 x).wf = true) (hb : ∀ x ∈ b, (Lit.int .i64 x).wf = true) : ∀ k, ∀ x ∈ rif a b k, (Lit.int .i64 x).wf = true
  | 0, x, h => by simp [rif] at h
  | k + 1, x, h => by
    rw [rif] at h
    rcases List.mem_append.1 h with h | h
    · exact rif_wf ha hb k x h
    · rcases List.mem_append.1 h with h | h
      · split at h
        · rename_i hk
          simp only [List.mem_singleton] at h
          subst h
          have e : a.getD k 0 = a[k] := by simp [List.getD, hk]
          rw [e]; exact ha _ (List.getElem_mem hk)
        · simp at h
      · split at h
        · rename_i hk
          simp only [List.mem_singleton] at h
          subst h
          have e : b.getD k 0 = b[k] := by simp [List.getD, hk]
          rw [e]; exact hb _ (List.getElem_mem hk)
        · simp at h
/-- Round k, half done: the first list has given. -/
def rifA (a b : List Int) (k : Nat) : List Int := rif a b k ++ (if k < a.length then [a.getD k 0] else [])
theorem rif_succ (a b : List Int) (k : Nat) : rif a b (k + 1) = rifA a b k ++ (if k < b.length then [b.getD k 0] else []) := by
  rw [rif, rifA, List.append_assoc]
end Go.Proofs.Ytcneogkokganpaa
