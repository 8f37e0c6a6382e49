/-
  Texts joined: no program in the first part; the model's join of words; a slice of words that a call owns.
-/
import Derived.Test.YtcafbnddbddijaaMarksI
import Derived.Lib.Join
import Derived.Laws.Concat
namespace Go.Proofs.Ytcafbnddbddijaa
open Go.RowKit
set_option linter.unusedVariables false
set_option linter.unusedSimpArgs false

def strV (l : List UInt8) : Value := .string ⟨l.toArray⟩
theorem strV_of (s : ByteArray) : strV s.data.toList = .string s := by cases s; rfl
/-- The words, one behind the other, with the separator between them. -/
def jl (sep : List UInt8) (ls : List (List UInt8)) : List UInt8 := Lib.join ls sep
theorem jl_snoc (sep : List UInt8) : ∀ (ls : List (List UInt8)) (y : List UInt8), jl sep (ls ++ [y]) = if ls = [] then y else jl sep ls ++ sep ++ y
  | [], y => by simp [jl, Lib.join_one]
  | x :: r, y => by
    unfold jl
    rw [if_neg (by simp), List.cons_append, Lib.join_cons, Lib.join_cons]
    simp [Lib.joinTail]
theorem jl_take (sep : List UInt8) (ls : List (List UInt8)) (k : Nat) (h : k < ls.length) : jl sep (ls.take (k + 1)) = if k = 0 then ls[k] else jl sep (ls.take k) ++ sep ++ ls[k] := by
  rw [List.take_succ_eq_append_getElem h, jl_snoc]
  by_cases hk : k = 0
  · subst hk; simp
  · rw [if_neg (by intro e; have := congrArg List.length e; rw [List.length_take, List.length_nil] at this; omega), if_neg hk]
/-- How long the joined words may be. -/
def jlen (sep : List UInt8) (ls : List (List UInt8)) : Nat := sep.length * ls.length + Lib.lens ls
theorem jl_len (sep : List UInt8) : ∀ ls : List (List UInt8), (jl sep ls).length ≤ jlen sep ls
  | [] => by simp [jl, Lib.join_nil]
  | x :: r => by
    unfold jl jlen
    rw [Lib.join_length, List.length_cons, Nat.mul_add]; omega
theorem jlen_take (sep : List UInt8) (ls : List (List UInt8)) (k : Nat) : jlen sep (ls.take k) ≤ jlen sep ls := by
  unfold jlen
  have h1 := Lib.lens_take_le ls k
  have h2 : (ls.take k).length ≤ ls.length := by rw [List.length_take]; omega
  have h3 := Nat.mul_le_mul_left sep.length h2
  omega
theorem jl_take_len (sep : List UInt8) (ls : List (List UInt8)) (k : Nat) : (jl sep (ls.take k)).length ≤ jlen sep ls := Nat.le_trans (jl_len _ _) (jlen_take _ _ _)
theorem lens_le {ls : List (List UInt8)} {c : Nat} (h : ∀ l ∈ ls, l.length ≤ c) : Lib.lens ls ≤ c * ls.length := by
  induction ls with
  | nil => simp [Lib.lens]
  | cons x r ih =>
    have h1 := h x (by simp)
    have h2 := ih (fun l hl => h l (by simp [hl]))
    have : Lib.lens (x :: r) = x.length + Lib.lens r := by simp [Lib.lens]
    rw [this, List.length_cons, Nat.mul_add]; omega
theorem elem_le_lens : ∀ {ls : List (List UInt8)} {l : List UInt8}, l ∈ ls → l.length ≤ Lib.lens ls
  | x :: r, l, h => by
    have e : Lib.lens (x :: r) = x.length + Lib.lens r := by simp [Lib.lens]
    rcases List.mem_cons.1 h with rfl | h
    · omega
    · have := elem_le_lens h; omega
/-- The joined words; a dash where there are none. -/
def lineT (sep : List UInt8) (ls : List (List UInt8)) : ByteArray := if ls.length = 0 then ⟨#[45]⟩ else ⟨(jl sep ls).toArray⟩
theorem lineT_nil (sep : List UInt8) (ls : List (List UInt8)) (h : ls.length = 0) : lineT sep ls = ⟨#[45]⟩ := if_pos h
theorem lineT_some (sep : List UInt8) (ls : List (List UInt8)) (h : 0 < ls.length) : lineT sep ls = ⟨(jl sep ls).toArray⟩ := if_neg (by omega)
theorem addL_run (w : World) (x y : List UInt8) (h : x.length + y.length ≤ 9223372036854775807) : (Op.stringOp .add ⟨x.toArray⟩ ⟨y.toArray⟩).run Try.prog w = .ok (.string ⟨(x ++ y).toArray⟩) w := by
  rw [run_string_add_sum w ⟨x.toArray⟩ ⟨y.toArray⟩ (by show x.toArray.size + y.toArray.size ≤ _; simp; omega), ByteArray.mk_append_mk]
  try simp

/-- The value v is a slice of these words, all of them readable, in block b. -/
def RdStr (w : World) (v : Value) (ls : List (List UInt8)) (b : Nat) : Prop :=
  ∃ (a : Option Addr) (cap : Nat), v = .slice a ls.length cap ∧ (ls.length ≤ cap ∧ cap ≤ maxLen ∧ (a = none → cap = 0)) ∧
    (ls = [] ∨ ∃ off, a = some ⟨b, off, none⟩ ∧ ∀ j (hj : j < ls.length), w.cell? ⟨b, off + j, none⟩ = some (strV ls[j]))
theorem RdStr.lt {w : World} {v : Value} {ls : List (List UInt8)} {b : Nat} (h : RdStr w v ls b) (hz : ls ≠ []) : b < w.heap.size := by
  obtain ⟨a, cap, h1, hcap, h3⟩ := h
  rcases h3 with h3 | ⟨off, h4, h5⟩
  · exact absurd h3 hz
  · exact World.block_lt_of_cell? _ _ (h5 0 (List.length_pos_iff.2 hz))
theorem RdStr.below {w w' : World} {v : Value} {ls : List (List UInt8)} {b : Nat} (h : RdStr w v ls b) (hb : Below w.heap.size w w') : RdStr w' v ls b := by
  obtain ⟨a, cap, h1, hcap, h3⟩ := h
  refine ⟨a, cap, h1, hcap, h3.imp id ?_⟩
  rintro ⟨off, h4, h5⟩
  exact ⟨off, h4, fun j hj => (hb.cell (World.block_lt_of_cell? _ _ (h5 j hj))).trans (h5 j hj)⟩
theorem own_str {w : World} {B : Nat} {E : TypeId} {v : Value} {ls : List (List UInt8)} (h : w.ownsRow B E 1 v ls.length (ls.map strV)) : ∃ b, RdStr w v ls b := by
  have hcell := h
  obtain ⟨h1, h2⟩ := h
  rcases h2 with ⟨rfl, h0⟩ | ⟨g, cap, cur, rfl, hg, hh, hnc, hcm, hcs, htake⟩
  · exact ⟨0, none, 0, by rw [h0], ⟨by omega, Nat.zero_le _, fun _ => rfl⟩, .inl (List.eq_nil_of_length_eq_zero h0)⟩
  · refine ⟨g, _, cap, rfl, ⟨hnc, hcm, fun h => by cases h⟩, .inr ⟨0, rfl, fun j hj => ?_⟩⟩
    have := hcell.cellAt j (by simpa using hj)
    rw [Nat.zero_add, this]
    simp [hj]
theorem info_str : (Try.prog.info? 9).map (fun i => (i.zero, i.size, i.bytes)) = some (some (.string ⟨#[]⟩), 1, 16) := by kernel_rfl
theorem one_word (w : World) (l : List UInt8) (t : TypeId) : ∀ (j : Nat) (u : Value), [strV l][j]? = some u → (w.alloc (.cells #[strV l] t)).cell? ((⟨w.heap.size, 0, none⟩ : Addr).add j) = some u := by
  intro j u hj
  have : j = 0 := by have := (List.getElem?_eq_some_iff.1 hj).1; simpa using this
  subst this
  simp at hj
  subst hj
  have e0 : (⟨w.heap.size, 0, none⟩ : Addr).add 0 = ⟨w.heap.size, 0, none⟩ := by simp [Addr.add]
  rw [e0, World.cell?_alloc_new]
  rfl
theorem one_word1 (l : List UInt8) : ∀ u ∈ [strV l], u.oneCell' = true := by intro u hu; simp at hu; subst hu; rfl

end Go.Proofs.Ytcafbnddbddijaa
