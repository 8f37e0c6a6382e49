/-
  What lies in which blocks: facts that survive where other blocks are written; slices of integers and slices of slices, marked and found marked.
-/
import Derived.Test.YtmfammgdcdlceaaDoorIntRows
import Derived.Test.YtmfammgdcdlceaaDoorMarksI
import Derived.Laws.Rows
namespace Go.Proofs.YtmfammgdcdlceaaDoor
open Go.RowKit
set_option linter.unusedVariables false
set_option linter.unusedSimpArgs false

def In (lo hi : Nat) : Nat → Prop := fun b => lo ≤ b ∧ b < hi
/-- All blocks but those of S are as they were. -/
structure Touch (S : Nat → Prop) (w w' : World) : Prop where
  os : w'.os = w.os
  tape : w'.tape = w.tape
  output : w'.output = w.output
  size : w.heap.size ≤ w'.heap.size
  block : ∀ k, k < w.heap.size → ¬ S k → w'.heap[k]? = w.heap[k]?
theorem Touch.refl (S : Nat → Prop) (w : World) : Touch S w w := ⟨rfl, rfl, rfl, Nat.le_refl _, fun _ _ _ => rfl⟩
theorem Touch.trans {S : Nat → Prop} {a b c : World} (h : Touch S a b) (k : Touch S b c) : Touch S a c :=
  ⟨k.os.trans h.os, k.tape.trans h.tape, k.output.trans h.output, Nat.le_trans h.size k.size, fun i hi hn => (k.block i (Nat.lt_of_lt_of_le hi h.size) hn).trans (h.block i hi hn)⟩
theorem Touch.mono {S T : Nat → Prop} {a b : World} (h : Touch S a b) (hs : ∀ k, S k → T k) : Touch T a b := ⟨h.os, h.tape, h.output, h.size, fun i hi hn => h.block i hi (fun e => hn (hs i e))⟩
theorem Below.touch {S : Nat → Prop} {w w' : World} (h : Below w.heap.size w w') : Touch S w w' := ⟨h.os, h.tape, h.output, h.size, fun i hi _ => h.block i hi⟩
/-- What touches blocks of the call's own leaves all that was there when it began. -/
theorem Below.thenTouch {S : Nat → Prop} {B : Nat} {w0 w w' : World} (h : Below B w0 w) (t : Touch S w w') (hB : B ≤ w.heap.size) (hS : ∀ k, S k → B ≤ k) : Below B w0 w' :=
  h.trans ⟨t.os, t.tape, t.output, t.size, fun k hk => t.block k (by omega) (fun e => by have := hS k e; omega)⟩
theorem touch_grown {w w' : World} {b : Nat} (h : w.grownBy w' (some b)) : Touch (fun k => k = b) w w' := ⟨h.os, h.tape, h.output, h.size, fun k hk hn => h.block k hk (fun e => hn (Option.some.inj e))⟩
theorem touch_heap {S : Nat → Prop} {w w' : World} (t : Touch S w w') {b : Nat} {o : Obj} (h : w.heap[b]? = some o) (hn : ¬ S b) : w'.heap[b]? = some o :=
  (t.block b (Array.getElem?_eq_some_iff.1 h).1 hn).trans h

theorem box_cell {w : World} {b : Nat} {c : Array Value} {t : TypeId} {fr : Nat × Nat} (h : w.heap[b]? = some (.cells c t fr)) (i : Nat) : w.cell? ⟨b, i, none⟩ = c[i]? := by
  simp [World.cell?, h]
theorem box_free {w : World} {b : Nat} {c : Array Value} {t : TypeId} (h : w.heap[b]? = some (.cells c t (0, 0))) (i : Nat) : w.frozen? ⟨b, i, none⟩ = false := by
  simp [World.frozen?, h]
theorem box_set {w : World} {b : Nat} {c : Array Value} {t : TypeId} {fr : Nat × Nat} (h : w.heap[b]? = some (.cells c t fr)) (i : Nat) (v : Value) : (w.setCell ⟨b, i, none⟩ v).heap[b]? = some (.cells (c.setIfInBounds i v) t fr) := by
  simp [World.setCell, Array.getElem?_modify, h]
theorem threeBoxes (w : World) (o1 o2 o3 : Obj) : (((w.alloc o1).alloc o2).alloc o3).heap[w.heap.size]? = some o1 ∧ (((w.alloc o1).alloc o2).alloc o3).heap[w.heap.size + 1]? = some o2 ∧ (((w.alloc o1).alloc o2).alloc o3).heap[w.heap.size + 2]? = some o3 := by
  refine ⟨?_, ?_, ?_⟩ <;> show (((w.heap.push o1).push o2).push o3)[_]? = _
  · rw [Array.getElem?_push, if_neg (by simp; omega), Array.getElem?_push, if_neg (by simp)]; simp
  · rw [Array.getElem?_push, if_neg (by simp), Array.getElem?_push, if_pos (by simp)]
  · rw [Array.getElem?_push, if_pos (by simp)]
def FrAt (k : IntKind) (S : Nat → Prop) (w : World) (v : Value) (zs : List Int) : Prop := ∃ b, RdAt k w v zs b ∧ (zs ≠ [] → S b)
def WrIn (k : IntKind) (S : Nat → Prop) (w : World) (v : Value) (zs : List Int) : Prop := ∃ b, WrAt k w v zs b ∧ (zs ≠ [] → S b)
theorem FrAt.touch {k : IntKind} {S T : Nat → Prop} {w w' : World} {v : Value} {zs : List Int} (h : FrAt k S w v zs) (t : Touch T w w') (hd : ∀ b, S b → ¬ T b) : FrAt k S w' v zs := by
  obtain ⟨b, hr, hs⟩ := h
  exact ⟨b, hr.keep fun hz => t.block b (hr.lt hz) (hd b (hs hz)), hs⟩
theorem WrIn.touch {k : IntKind} {S T : Nat → Prop} {w w' : World} {v : Value} {zs : List Int} (h : WrIn k S w v zs) (t : Touch T w w') (hd : ∀ b, S b → ¬ T b) : WrIn k S w' v zs := by
  obtain ⟨b, hr, hs⟩ := h
  exact ⟨b, hr.keep fun hz => t.block b (hr.rd.lt hz) (hd b (hs hz)), hs⟩
theorem WrIn.mono {k : IntKind} {S T : Nat → Prop} {w : World} {v : Value} {zs : List Int} (h : WrIn k S w v zs) (hs : ∀ b, S b → T b) : WrIn k T w v zs := by
  obtain ⟨b, hr, h2⟩ := h
  exact ⟨b, hr, fun hz => hs b (h2 hz)⟩
theorem WrIn.fr {k : IntKind} {S : Nat → Prop} {w : World} {v : Value} {zs : List Int} (h : WrIn k S w v zs) : FrAt k S w v zs := by
  obtain ⟨b, hr, h2⟩ := h; exact ⟨b, hr.rd, h2⟩
theorem WrIn.rd {k : IntKind} {S : Nat → Prop} {w : World} {v : Value} {zs : List Int} (h : WrIn k S w v zs) : ∃ b, RdAt k w v zs b := by
  obtain ⟨b, hr, h2⟩ := h; exact ⟨b, hr.rd⟩
theorem WrIn.of {k : IntKind} {lo : Nat} {w : World} {v : Value} {zs : List Int} {b : Nat} (h : WrAt k w v zs b) (hb : lo ≤ b) : WrIn k (In lo w.heap.size) w v zs := ⟨b, h, fun hz => ⟨hb, h.rd.lt hz⟩⟩
theorem WrIn.shape {k : IntKind} {S : Nat → Prop} {w : World} {v : Value} {zs : List Int} (h : WrIn k S w v zs) : ∃ p c, v = .slice p zs.length c := by
  obtain ⟨b, ⟨p, c, e, -⟩, -⟩ := h; exact ⟨p, c, e⟩
theorem RdAt.len {k : IntKind} {w : World} {v : Value} {zs : List Int} {b : Nat} (h : RdAt k w v zs b) : zs.length ≤ maxLen := by
  obtain ⟨a, cap, h1, hcap, h2⟩ := h; exact Nat.le_trans hcap.1 hcap.2.1
theorem WrAt.anyNil {k : IntKind} {w : World} {v : Value} {b : Nat} (h : WrAt k w v [] b) (b' : Nat) : WrAt k w v [] b' := by
  obtain ⟨a, cap, h1, hcap, h2, -⟩ := h; exact ⟨a, cap, h1, hcap, h2, .inl rfl⟩

/-- Slices of slices, to be written row by row: each row in a block of its own, apart from that of the heads. -/
def WrSS (k : IntKind) (S : Nat → Prop) (w : World) (v : Value) (zss : List (List Int)) : Prop :=
  ∃ (a : Option Addr) (cap : Nat), v = .slice a zss.length cap ∧ (zss.length ≤ cap ∧ cap ≤ maxLen ∧ (a = none → cap = 0)) ∧
    (zss = [] ∨ ∃ (hb off : Nat) (bf : Nat → Nat), a = some ⟨hb, off, none⟩ ∧ S hb ∧ (∀ j (hj : j < zss.length), ∃ r, w.cell? ⟨hb, off + j, none⟩ = some r ∧ WrAt k w r zss[j] (bf j) ∧ (zss[j] ≠ [] → S (bf j) ∧ bf j ≠ hb)) ∧
      ∀ i j (hi : i < zss.length) (hj : j < zss.length), i ≠ j → zss[i] ≠ [] → zss[j] ≠ [] → bf i ≠ bf j)
theorem WrSS.rd {k : IntKind} {S : Nat → Prop} {w : World} {v : Value} {zss : List (List Int)} (h : WrSS k S w v zss) : RdRows k w v zss := by
  obtain ⟨a, cap, e, hc, h3⟩ := h
  refine ⟨a, cap, e, hc, h3.imp id ?_⟩
  rintro ⟨hb, off, bf, e, -, hr, -⟩
  refine ⟨hb, off, e, fun j hj => ?_⟩
  obtain ⟨r, h1, h2, -⟩ := hr j hj
  exact ⟨r, bf j, h1, h2.rd⟩
theorem WrSS.shape {k : IntKind} {S : Nat → Prop} {w : World} {v : Value} {zss : List (List Int)} (h : WrSS k S w v zss) : ∃ p c, v = .slice p zss.length c := by
  obtain ⟨p, c, e, -⟩ := h; exact ⟨p, c, e⟩
theorem WrSS.touch {k : IntKind} {S T : Nat → Prop} {w w' : World} {v : Value} {zss : List (List Int)} (h : WrSS k S w v zss) (t : Touch T w w') (hd : ∀ b, S b → ¬ T b) : WrSS k S w' v zss := by
  obtain ⟨a, cap, e, hc, h3⟩ := h
  refine ⟨a, cap, e, hc, h3.imp id ?_⟩
  rintro ⟨hb, off, bf, e, hsb, hr, hap⟩
  refine ⟨hb, off, bf, e, hsb, fun j hj => ?_, hap⟩
  obtain ⟨r, h1, h2, h3⟩ := hr j hj
  have hlt : hb < w.heap.size := World.block_lt_of_cell? _ _ h1
  exact ⟨r, by rw [World.cell?_of_block (w := w) (a := ⟨hb, off + j, none⟩) (t.block hb hlt (hd hb hsb))]; exact h1, h2.keep fun hz => t.block _ (h2.rd.lt hz) (hd _ (h3 hz).1), h3⟩
theorem WrSS.mono {k : IntKind} {S T : Nat → Prop} {w : World} {v : Value} {zss : List (List Int)} (h : WrSS k S w v zss) (hs : ∀ b, S b → T b) : WrSS k T w v zss := by
  obtain ⟨a, cap, e, hc, h3⟩ := h
  refine ⟨a, cap, e, hc, h3.imp id ?_⟩
  rintro ⟨hb, off, bf, e, hsb, hr, hap⟩
  refine ⟨hb, off, bf, e, hs _ hsb, fun j hj => ?_, hap⟩
  obtain ⟨r, h1, h2, h3⟩ := hr j hj
  exact ⟨r, h1, h2, fun hz => ⟨hs _ (h3 hz).1, (h3 hz).2⟩⟩
/-- The helper's copy lies in blocks of its own. -/
theorem WrRows.ss {k : IntKind} {w : World} {B : Nat} {v : Value} {zss : List (List Int)} (h : WrRows k w B v zss) : WrSS k (In B w.heap.size) w v zss := by
  obtain ⟨blk, cap, bf, rfl, ⟨h1, h2⟩, hB, hlt, hm, h3⟩ := h
  refine ⟨_, cap, rfl, ⟨h1, h2, fun h => by cases h⟩, ?_⟩
  by_cases h0 : zss = []
  · exact .inl h0
  · refine .inr ⟨blk, 0, bf, rfl, ⟨hB, hlt⟩, fun j hj => ?_, fun i j hi hj hij _ _ => ?_⟩
    · obtain ⟨q1, q2, -, r, hc, hr⟩ := h3 j hj
      exact ⟨r, by rw [Nat.zero_add]; exact hc, hr, fun _ => ⟨⟨by omega, q2⟩, by omega⟩⟩
    · rcases Nat.lt_or_gt_of_ne hij with h | h
      · have := hm i j h hj; omega
      · have := hm j i h hi; omega
/-- The marks k, k + 1, .. row by row. -/
def marksII (k : Int) : List (List Int) → List (List Int)
  | [] => []
  | zs :: zss => marksI k zs.length :: marksII (k + zs.length) zss
theorem marksII_length (zss : List (List Int)) : ∀ k, (marksII k zss).length = zss.length := by
  induction zss with
  | nil => intro k; rfl
  | cons zs zss ih => intro k; simp [marksII, ih]
theorem marksII_at (zss : List (List Int)) : ∀ (k : Int) (j : Nat) (h : j < zss.length), (marksII k zss)[j]'(by rw [marksII_length]; exact h) = marksI (k + sumLen (zss.take j)) zss[j].length := by
  induction zss with
  | nil => intro k j h; simp at h
  | cons zs zss ih =>
    intro k j h
    cases j with
    | zero => simp [marksII, sumLen]
    | succ j =>
      have h' : j < zss.length := by simpa using h
      have := ih (k + zs.length) j h'
      simp only [marksII, List.getElem_cons_succ, List.take_succ_cons]
      rw [this]
      congr 1
      simp [sumLen]; omega
end Go.Proofs.YtmfammgdcdlceaaDoor
namespace Go.Proofs.YtmfammgdcdlceaaDoor
open Go.RowKit
theorem WrAt.touchS {k : IntKind} {S : Nat → Prop} {w w' : World} {v : Value} {zs : List Int} {b : Nat} (h : WrAt k w v zs b) (t : Touch S w w') (hn : zs ≠ [] → ¬ S b) : WrAt k w' v zs b :=
  h.keep fun hz => t.block b (h.rd.lt hz) (hn hz)
end Go.Proofs.YtmfammgdcdlceaaDoor
