/-
  What lies in which blocks: facts that survive where other blocks are written; slices of integers and slices of slices, marked and found marked.
-/
import Derived.Test.YtbojhbhniollaaaDoorIntRows
import Derived.Test.YtbojhbhniollaaaDoorMarksI
import Derived.Laws.Rows
namespace Go.Proofs.YtbojhbhniollaaaDoor
open Go.RowKit
set_option linter.unusedVariables false
set_option linter.unusedSimpArgs false

def In (lo hi : Nat) : Nat → Prop := fun b => lo ≤ b ∧ b < hi
/-- All blocks but those of S are as they were. -/
structure Touch (S : Nat → Prop) (w w' : World) : Prop where
  os : w'.os = w.os
  tape : w'.tape = w.tape
  output : w'.output = w.output
  size : w.heap.size ≤ w'.heap.size
  block : ∀ k, k < w.heap.size → ¬ S k → w'.heap[k]? = w.heap[k]?
theorem Touch.refl (S : Nat → Prop) (w : World) : Touch S w w := ⟨rfl, rfl, rfl, Nat.le_refl _, fun _ _ _ => rfl⟩
theorem Touch.trans {S : Nat → Prop} {a b c : World} (h : Touch S a b) (k : Touch S b c) : Touch S a c :=
  ⟨k.os.trans h.os, k.tape.trans h.tape, k.output.trans h.output, Nat.le_trans h.size k.size, fun i hi hn => (k.block i (Nat.lt_of_lt_of_le hi h.size) hn).trans (h.block i hi hn)⟩
theorem Touch.mono {S T : Nat → Prop} {a b : World} (h : Touch S a b) (hs : ∀ k, S k → T k) : Touch T a b := ⟨h.os, h.tape, h.output, h.size, fun i hi hn => h.block i hi (fun e => hn (hs i e))⟩
theorem Below.touch {S : Nat → Prop} {w w' : World} (h : Below w.heap.size w w') : Touch S w w' := ⟨h.os, h.tape, h.output, h.size, fun i hi _ => h.block i hi⟩
/-- What touches blocks of the call's own leaves all that was there when it began. -/
theorem Below.thenTouch {S : Nat → Prop} {B : Nat} {w0 w w' : World} (h : Below B w0 w) (t : Touch S w w') (hB : B ≤ w.heap.size) (hS : ∀ k, S k → B ≤ k) : Below B w0 w' :=
  h.trans ⟨t.os, t.tape, t.output, t.size, fun k hk => t.block k (by omega) (fun e => by have := hS k e; omega)⟩
theorem touch_grown {w w' : World} {b : Nat} (h : w.grownBy w' (some b)) : Touch (fun k => k = b) w w' := ⟨h.os, h.tape, h.output, h.size, fun k hk hn => h.block k hk (fun e => hn (Option.some.inj e))⟩
theorem touch_heap {S : Nat → Prop} {w w' : World} (t : Touch S w w') {b : Nat} {o : Obj} (h : w.heap[b]? = some o) (hn : ¬ S b) : w'.heap[b]? = some o :=
  (t.block b (Array.getElem?_eq_some_iff.1 h).1 hn).trans h

theorem box_cell {w : World} {b : Nat} {c : Array Value} {t : TypeId} {fr : Nat × Nat} (h : w.heap[b]? = some (.cells c t fr)) (i : Nat) : w.cell? ⟨b, i, none⟩ = c[i]? := by
  simp [World.cell?, h]
theorem box_free {w : World} {b : Nat} {c : Array Value} {t : TypeId} (h : w.heap[b]? = some (.cells c t (0, 0))) (i : Nat) : w.frozen? ⟨b, i, none⟩ = false := by
  simp [World.frozen?, h]
theorem box_set {w : World} {b : Nat} {c : Array Value} {t : TypeId} {fr : Nat × Nat} (h : w.heap[b]? = some (.cells c t fr)) (i : Nat) (v : Value) : (w.setCell ⟨b, i, none⟩ v).heap[b]? = some (.cells (c.setIfInBounds i v) t fr) := by
  simp [World.setCell, Array.getElem?_modify, h]
theorem threeBoxes (w : World) (o1 o2 o3 : Obj) : (((w.alloc o1).alloc o2).alloc o3).heap[w.heap.size]? = some o1 ∧ (((w.alloc o1).alloc o2).alloc o3).heap[w.heap.size + 1]? = some o2 ∧ (((w.alloc o1).alloc o2).alloc o3).heap[w.heap.size + 2]? = some o3 := by
  refine ⟨?_, ?_, ?_⟩ <;> show (((w.heap.push o1).push o2).push o3)[_]? = _
  · rw [Array.getElem?_push, if_neg (by simp; omega), Array.getElem?_push, if_neg (by simp)]; simp
  · rw [Array.getElem?_push, if_neg (by simp), Array.getElem?_push, if_pos (by simp)]
  · rw [Array.getElem?_push, if_pos (by simp)]
def FrAt (k : IntKind) (S : Nat → Prop) (w : World) (v : Value) (zs : List Int) : Prop := ∃ b, RdAt k w v zs b ∧ (zs ≠ [] → S b)
def WrIn (k : IntKind) (S : Nat → Prop) (w : World) (v : Value) (zs : List Int) : Prop := ∃ b, WrAt k w v zs b ∧ (zs ≠ [] → S b)
theorem FrAt.touch {k : IntKind} {S T : Nat → Prop} {w w' : World} {v : Value} {zs : List Int} (h : FrAt k S w v zs) (t : Touch T w w') (hd : ∀ b, S b → ¬ T b) : FrAt k S w' v zs := by
  obtain ⟨b, hr, hs⟩ := h
  exact ⟨b, hr.keep fun hz => t.block b (hr.lt hz) (hd b (hs hz)), hs⟩
theorem WrIn.touch {k : IntKind} {S T : Nat → Prop} {w w' : World} {v : Value} {zs : List Int} (h : WrIn k S w v zs) (t : Touch T w w') (hd : ∀ b, S b → ¬ T b) : WrIn k S w' v zs := by
  obtain ⟨b, hr, hs⟩ := h
  exact ⟨b, hr.keep fun hz => t.block b (hr.rd.lt hz) (hd b (hs hz)), hs⟩
theorem WrIn.mono {k : IntKind} {S T : Nat → Prop} {w : World} {v : Value} {zs : List Int} (h : WrIn k S w v zs) (hs : ∀ b, S b → T b) : WrIn k T w v zs := by
  obtain ⟨b, hr, h2⟩ := h
  exact ⟨b, hr, fun hz => hs b (h2 hz)⟩
theorem WrIn.fr {k : IntKind} {S : Nat → Prop} {w : World} {v : Value} {zs : List Int} (h : WrIn k S w v zs) : FrAt k S w v zs := by
  obtain ⟨b, hr, h2⟩ := h; exact ⟨b, hr.rd, h2⟩
theorem WrIn.rd {k : IntKind} {S : Nat → Prop} {w : World} {v : Value} {zs : List Int} (h : WrIn k S w v zs) : ∃ b, RdAt k w v zs b := by
  obtain ⟨b, hr, h2⟩ := h; exact ⟨b, hr.rd⟩
theorem WrIn.of {k : IntKind} {lo : Nat} {w : World} {v : Value} {zs : List Int} {b : Nat} (h : WrAt k w v zs b) (hb : lo ≤ b) : WrIn k (In lo w.heap.size) w v zs := ⟨b, h, fun hz => ⟨hb, h.rd.lt hz⟩⟩
theorem WrIn.shape {k : IntKind} {S : Nat → Prop} {w : World} {v : Value} {zs : List Int} (h : WrIn k S w v zs) : ∃ p c, v = .slice p zs.length c := by
  obtain ⟨b, ⟨p, c, e, -⟩, -⟩ := h; exact ⟨p, c, e⟩
theorem RdAt.len {k : IntKind} {w : World} {v : Value} {zs : List Int} {b : Nat} (h : RdAt k w v zs b) : zs.length ≤ maxLen := by
  obtain ⟨a, cap, h1, hcap, h2⟩ := h; exact Nat.le_trans hcap.1 hcap.2.1
theorem WrAt.anyNil {k : IntKind} {w : World} {v : Value} {b : Nat} (h : WrAt k w v [] b) (b' : Nat) : WrAt k w v [] b' := by
  obtain ⟨a, cap, h1, hcap, h2, -⟩ := h; exact ⟨a, cap, h1, hcap, h2, .inl rfl⟩

/-- Slices of slices, to be written row by row: each row in a block of its own, apart from that of the heads. -/
def WrSS (k : IntKind) (S : Nat → Prop) (w : World) (v : Value) (zss : List (List Int)) : Prop :=
  ∃ (a : Option Addr) (cap : Nat), v = .slice a zss.length cap ∧ (zss.length ≤ cap ∧ cap ≤ maxLen ∧ (a = none → cap = 0)) ∧
    (zss = [] ∨ ∃ (hb off : Nat) (bf : Nat → Nat), a = some ⟨hb, off, none⟩ ∧ S hb ∧ (∀ j (hj : j < zss.length), ∃ r, w.cell? ⟨hb, off + j, none⟩ = some r ∧ WrAt k w r zss[j] (bf j) ∧ (zss[j] ≠ [] → S (bf j) ∧ bf j ≠ hb)) ∧
      ∀ i j (hi : i < zss.length) (hj : j < zss.length), i ≠ j → zss[i] ≠ [] → zss[j] ≠ [] → bf i ≠ bf j)
theorem WrSS.rd {k : IntKind} {S : Nat → Prop} {w : World} {v : Value} {zss : List (List Int)} (h : WrSS k S w v zss) : RdRows k w v zss := by
  obtain ⟨a, cap, e, hc, h3⟩ := h
  refine ⟨a, cap, e, hc, h3.imp id ?_⟩
  rintro ⟨hb, off, bf, e, -, hr, -⟩
  refine ⟨hb, off, e, fun j hj => ?_⟩
  obtain ⟨r, h1, h2, -⟩ := hr j hj
  exact ⟨r, bf j, h1, h2.rd⟩
theorem WrSS.shape {k : IntKind} {S : Nat → Prop} {w : World} {v : Value} {zss : List (List Int)} (h : WrSS k S w v zss) : ∃ p c, v = .slice p zss.length c := by
  obtain ⟨p, c, e, -⟩ := h; exact ⟨p, c, e⟩
theorem WrSS.touch {k : IntKind} {S T : Nat → Prop} {w w' : World} {v : Value} {zss : List (List Int)} (h : WrSS k S w v zss) (t : Touch T w w') (hd : ∀ b, S b → ¬ T b) : WrSS k S w' v zss := by
  obtain ⟨a, cap, e, hc, h3⟩ := h
  refine ⟨a, cap, e, hc, h3.imp id ?_⟩
  rintro ⟨hb, off, bf, e, hsb, hr, hap⟩
  refine ⟨hb, off, bf, e, hsb, fun j hj => ?_, hap⟩
  obtain ⟨r, h1, h2, h3⟩ := hr j hj
  have hlt : hb < w.heap.size := World.block_lt_of_cell? _ _ h1
  exact ⟨r, by rw [World.cell?_of_block (w := w) (a := ⟨hb, off + j, none⟩) (t.block hb hlt (hd hb hsb))]; exact h1, h2.keep fun hz => t.block _ (h2.rd.lt hz) (hd _ (h3 hz).1), h3⟩
theorem WrSS.mono {k : IntKind} {S T : Nat → Prop} {w : World} {v : Value} {zss : List (List Int)} (h : WrSS k S w v zss) (hs : ∀ b, S b → T b) : WrSS k T w v zss := by
  obtain ⟨a, cap, e, hc, h3⟩ := h
  refine ⟨a, cap, e, hc, h3.imp id ?_⟩
  rintro ⟨hb, off, bf, e, hsb, hr, hap⟩
  refine ⟨hb, off, bf, e, hs _ hsb, fun j hj => ?_, hap⟩
  obtain ⟨r, h1, h2, h3⟩ := hr j hj
  exact ⟨r, h1, h2, fun hz => ⟨hs _ (h3 hz).1, (h3 hz).2⟩⟩
/-- The helper's copy lies in blocks of its own. -/
theorem WrRows.ss {k : IntKind} {w : World} {B : Nat} {v : Value} {zss : List (List Int)} (h : WrRows k w B v zss) : WrSS k (In B w.heap.size) w v zss := by
  obtain ⟨blk, cap, bf, rfl, ⟨h1, h2⟩, hB, hlt, hm, h3⟩ := h
  refine ⟨_, cap, rfl, ⟨h1, h2, fun h => by cases h⟩, ?_⟩
  by_cases h0 : zss = []
  · exact .inl h0
  · refine .inr ⟨blk, 0, bf, rfl, ⟨hB, hlt⟩, fun j hj => ?_, fun i j hi hj hij _ _ => ?_⟩
    · obtain ⟨q1, q2, -, r, hc, hr⟩ := h3 j hj
      exact ⟨r, by rw [Nat.zero_add]; exact hc, hr, fun _ => ⟨⟨by omega, q2⟩, by omega⟩⟩
    · rcases Nat.lt_or_gt_of_ne hij with h | h
      · have := hm i j h hj; omega
      · have := hm j i h hi; omega
/-- The marks k, k + 1, .. row by row. -/
def marksII (k : Int) : List (List Int) → List (List Int)
  | [] => []
  | zs :: zss => marksI k zs.length :: marksII (k + zs.length) zss
theorem marksII_length (zss : List (List Int)) : ∀ k, (marksII k zss).length = zss.length := by
  induction zss with
  | nil => intro k; rfl
  | cons zs zss ih => intro k; simp [marksII, ih]
theorem marksII_at (zss : List (List Int)) : ∀ (k : Int) (j : Nat) (h : j < zss.length), (marksII k zss)[j]'(by rw [marksII_length]; exact h) = marksI (k + sumLen (zss.take j)) zss[j].length := by
  induction zss with
  | nil => intro k j h; simp at h
  | cons zs zss ih =>
    intro k j h
    cases j with
    | zero => simp [marksII, sumLen]
    | succ j =>
      have h' : j < zss.length := by simpa using h
      have := ih (k + zs.length) j h'
      simp only [marksII, List.getElem_cons_succ, List.take_succ_cons]
      rw [this]
      congr 1
      simp [sumLen]; omega
/-- A slice of its own is marked. -/
theorem markIn {S : Nat → Prop} {v : Value} {zs : List Int} {k : Int} {w : World} (h : WrIn .i64 S w v zs) (hl : zs.length ≤ 1099511627776) (k0 : 0 ≤ k) (k1 : k ≤ 1099511627776) :
    Calls Tryd.prog 26 #[v, .int .i64 k] w fun e w' => e = .returned (.int .i64 (k + zs.length)) ∧ WrIn .i64 S w' v (marksI k zs.length) ∧ Touch S w w' ∧ w'.heap.size = w.heap.size := by
  obtain ⟨b, hr, hs⟩ := h
  by_cases hz : zs = []
  · subst hz
    refine (markIntS_any v [] w.heap.size k w (hr.anyNil _) hl k0 k1).mono ?_
    rintro e w' ⟨he, hw, hg, hsz⟩
    exact ⟨he, ⟨_, hw, fun h => by simp [marksI] at h⟩, ⟨hg.os, hg.tape, hg.output, hg.size, fun i hi _ => hg.block i hi (fun e => by have := Option.some.inj e; omega)⟩, hsz⟩
  · refine (markIntS_any v zs b k w hr hl k0 k1).mono ?_
    rintro e w' ⟨he, hw, hg, hsz⟩
    exact ⟨he, ⟨b, hw, fun _ => hs hz⟩, (touch_grown hg).mono (fun i hi => by subst hi; exact hs hz), hsz⟩
/-- The rows up to j are marked. -/
abbrev mixI (k : Int) (zss : List (List Int)) (j : Nat) : List (List Int) := marksII k (zss.take j) ++ zss.drop j
theorem mixI_length (k : Int) (zss : List (List Int)) (j : Nat) : (mixI k zss j).length = zss.length := by unfold mixI; rw [List.length_append, marksII_length, List.length_take, List.length_drop]; omega
theorem mixI_lt (k : Int) (zss : List (List Int)) (j i : Nat) (hi : i < j) (h : i < (mixI k zss j).length) (hz : i < zss.length) : (mixI k zss j)[i] = marksI (k + sumLen (zss.take i)) zss[i].length := by
  have hl : i < (zss.take j).length := by rw [List.length_take]; omega
  rw [List.getElem_append_left (by rw [marksII_length]; exact hl), marksII_at _ _ _ hl, List.take_take, Nat.min_eq_left (by omega)]
  simp
theorem mixI_ge (k : Int) (zss : List (List Int)) (j i : Nat) (hi : j ≤ i) (h : i < (mixI k zss j).length) (hz : i < zss.length) : (mixI k zss j)[i] = zss[i] := by
  rw [List.getElem_append_right (by rw [marksII_length, List.length_take]; omega)]
  simp only [marksII_length, List.length_take, List.getElem_drop]
  congr 1
  omega
theorem mixI_all (k : Int) (zss : List (List Int)) : mixI k zss zss.length = marksII k zss := by unfold mixI; simp
set_option maxRecDepth 100000 in
set_option maxHeartbeats 1000000 in
theorem markIntSS_any {S : Nat → Prop} (v : Value) (zss : List (List Int)) (k : Int) (w : World) (h : WrSS .i64 S w v zss) (hl : zss.length ≤ 1048576) (hl2 : sumLen zss ≤ 1048576) (k0 : 0 ≤ k) (k1 : k ≤ 1099510000000) :
    Calls Tryd.prog 43 #[v, .int .i64 k] w fun e w' => e = .returned (.int .i64 (k + sumLen zss)) ∧ WrSS .i64 S w' v (marksII k zss) ∧ Touch S w w' ∧ w'.heap.size = w.heap.size := by
  obtain ⟨a, cap, rfl, hcap, h3⟩ := h
  obtain ⟨n, hn⟩ : ∃ n, n = zss.length := ⟨_, rfl⟩
  have Hn := Lib.hid hn
  have Hsum : Hid (∀ j (hj : j < zss.length), zss[j].length ≤ 1048576) := Lib.hid (fun j hj => Nat.le_trans (len_le_sum zss hj) hl2)
  have Hst : Hid (∀ j, sumLen (zss.take j) ≤ 1048576) := Lib.hid (fun j => Nat.le_trans (sumLen_take_le zss j) hl2)
  have HTk := Lib.hid (fun j (hj : j < zss.length) => sumLen_take zss j hj)
  have HAll : Hid (sumLen (zss.take n) = sumLen zss) := Lib.hid (by rw [hn, List.take_length])
  have Hcap := Lib.hid hcap
  obtain ⟨tot, htot⟩ : ∃ t, t = sumLen zss := ⟨_, rfl⟩
  rw [← htot] at HAll ⊢
  rw [← hn] at hl ⊢
  clear hn htot hl2 hcap
  rcases h3 with h0 | ⟨hb, off, bf, rfl, hsb, hrow, hap⟩
  · subst h0
    obtain rfl : n = 0 := Hn.out
    have ht : Hid (tot = 0) := Lib.hid (by rw [← HAll.out]; rfl)
    go_enter Tryd.func43, Tryd.ntmps43
    go_wp2_with fail
    refine wp_loop_rounds 1 ?_
    rw [rounds_succ]
    go_wp2_with fail
    go_ret
    exact ⟨by rw [ht.out]; simp, ⟨a, cap, rfl, Hcap.out, .inl rfl⟩, Touch.refl _ _, rfl⟩
  have Hap := Lib.hid hap
  have H0 : Hid (∀ j (hj : j < (mixI k zss 0).length), ∃ r, w.cell? ⟨hb, off + j, none⟩ = some r ∧ WrAt .i64 w r (mixI k zss 0)[j] (bf j) ∧ ((mixI k zss 0)[j] ≠ [] → S (bf j) ∧ bf j ≠ hb)) := Lib.hid (fun j hj => by
    have hz : j < zss.length := by rw [mixI_length] at hj; exact hj
    have e := mixI_ge k zss 0 j (Nat.zero_le _) hj hz
    obtain ⟨r, h1, h2, h3⟩ := hrow j hz
    exact ⟨r, h1, by rw [e]; exact h2, fun hne => h3 (by rw [e] at hne; exact hne)⟩)
  clear hrow hap
  go_enter Tryd.func43, Tryd.ntmps43
  go_wp2_with fail
  go_loopw [1, 5] (fun kv i wr => ∃ j : Nat, j ≤ n ∧ i = .int .i64 j ∧ kv = .int .i64 (k + (sumLen (zss.take j) : Nat)) ∧ Touch S w wr ∧ wr.heap.size = w.heap.size ∧ Hid (∀ i (hi : i < (mixI k zss j).length), ∃ r, wr.cell? ⟨hb, off + i, none⟩ = some r ∧ WrAt .i64 wr r (mixI k zss j)[i] (bf i) ∧ ((mixI k zss j)[i] ≠ [] → S (bf i) ∧ bf i ≠ hb))) (fun _ i _ => n - (intOf i).toNat)
  case atStart => exact ⟨0, Nat.zero_le _, rfl, by simp [sumLen], Touch.refl _ _, rfl, H0⟩
  case round =>
    clear H0
    obtain ⟨j, hj, rfl, rfl, ht, hsz, hrow⟩ := hrel
    by_cases hlt : j < n
    · have hz : j < zss.length := by rw [← Hn.out]; exact hlt
      have hzm : j < (mixI k zss j).length := by rw [mixI_length]; exact hz
      obtain ⟨r, hc, hr, hs⟩ := hrow.out j hzm
      rw [mixI_ge k zss j j (Nat.le_refl _) hzm hz] at hr hs
      obtain ⟨p, c, e, -⟩ := id hr
      subst e
      have hsm := Hsum.out j hz
      have hst := Hst.out j
      have HTj : Hid (sumLen (zss.take (j + 1)) = sumLen (zss.take j) + zss[j].length) := Lib.hid (HTk.out j hz)
      have hhb : hb < wr.heap.size := World.block_lt_of_cell? _ _ hc
      -- the row's block: its own, or none
      obtain ⟨bb, hbb, hwr, hne⟩ : ∃ bb, (zss[j] ≠ [] → bb = bf j) ∧ WrAt .i64 wr (.slice p zss[j].length c) zss[j] bb ∧ bb ≠ hb ∧ (zss[j] = [] → bb = wr.heap.size) := by
        by_cases hz0 : zss[j] = []
        · refine ⟨wr.heap.size, fun h => absurd hz0 h, ?_, by omega, fun _ => rfl⟩
          rw [hz0] at hr ⊢
          exact hr.anyNil _
        · exact ⟨bf j, fun _ => rfl, hr, (hs hz0).2, fun h => absurd h hz0⟩
      have HC := Lib.hid (markIntS_any _ zss[j] bb (k + (sumLen (zss.take j) : Nat)) wr hwr (by omega) (by omega) (by omega))
      have HN : Hid (∀ w2, wr.grownBy w2 (some bb) → WrAt .i64 w2 (.slice p zss[j].length c) (marksI (k + (sumLen (zss.take j) : Nat)) zss[j].length) bb → w2.heap.size = wr.heap.size → Touch S w w2 ∧ ∀ i (hi : i < (mixI k zss (j + 1)).length), ∃ r, w2.cell? ⟨hb, off + i, none⟩ = some r ∧ WrAt .i64 w2 r (mixI k zss (j + 1))[i] (bf i) ∧ ((mixI k zss (j + 1))[i] ≠ [] → S (bf i) ∧ bf i ≠ hb)) := Lib.hid (fun w2 hg hw2 hs2 => by
        have hblk : ∀ i, i < wr.heap.size → i ≠ bb → w2.heap[i]? = wr.heap[i]? := fun i hi hn => hg.block i hi (fun e => hn (Option.some.inj e))
        refine ⟨ht.trans ⟨hg.os, hg.tape, hg.output, hg.size, fun i hi hn => ?_⟩, fun i hi => ?_⟩
        · by_cases hz0 : zss[j] = []
          · exact hblk i hi (by have := hne.2 hz0; omega)
          · refine hblk i hi (fun e => hn ?_)
            rw [e, hbb hz0]; exact (hs hz0).1
        · have hiz : i < zss.length := by rw [mixI_length] at hi; exact hi
          have him : i < (mixI k zss j).length := by rw [mixI_length]; exact hiz
          obtain ⟨ri, hci, hri, hsi⟩ := hrow.out i him
          have hci2 : w2.cell? ⟨hb, off + i, none⟩ = some ri := by rw [World.cell?_of_block (w := wr) (a := ⟨hb, off + i, none⟩) (hblk hb hhb (by have := hne.1; omega))]; exact hci
          by_cases e : i = j
          · subst e
            have er := Option.some.inj (hci.symm.trans hc)
            subst er
            have em := mixI_lt k zss (i + 1) i (by omega) hi hiz
            refine ⟨_, hci2, ?_, fun hnn => ?_⟩
            · rw [em]
              by_cases hz0 : zss[i] = []
              · have hw3 : WrAt .i64 w2 (.slice p zss[i].length c) [] bb := by rw [hz0] at hw2; simpa [marksI, hz0] using hw2
                rw [show marksI (k + (sumLen (zss.take i) : Nat)) zss[i].length = [] by rw [hz0]; rfl]
                exact hw3.anyNil _
              · rw [← hbb hz0]; exact hw2
            · rw [em] at hnn
              exact hs (fun h0 => hnn (by rw [h0]; rfl))
          · have em : (mixI k zss (j + 1))[i] = (mixI k zss j)[i] := by
              by_cases hlt2 : i < j
              · rw [mixI_lt k zss (j + 1) i (by omega) hi hiz, mixI_lt k zss j i hlt2 him hiz]
              · rw [mixI_ge k zss (j + 1) i (by omega) hi hiz, mixI_ge k zss j i (by omega) him hiz]
            rw [em]
            refine ⟨ri, hci2, hri.keep fun hzi => hblk _ (hri.rd.lt hzi) ?_, hsi⟩
            by_cases hz0 : zss[j] = []
            · have := hne.2 hz0; have := hri.rd.lt hzi; omega
            · rw [hbb hz0]
              refine Hap.out i j hiz hz e (fun h0 => hzi ?_) hz0
              by_cases hlt2 : i < j
              · rw [mixI_lt k zss j i hlt2 him hiz, h0]; rfl
              · rw [mixI_ge k zss j i (by omega) him hiz]; exact h0)
      have hap2 := Lib.hid ht
      clear hr hs hwr hne hbb hrow ht
      obtain ⟨m, hm⟩ : ∃ m, m = zss[j].length := ⟨_, rfl⟩
      obtain ⟨s, hs⟩ : ∃ s, s = sumLen (zss.take j) := ⟨_, rfl⟩
      rw [← hm, ← hs] at HC HN
      rw [← hm] at hc hsm
      rw [← hs] at hst ⊢
      rw [← hm, ← hs] at HTj
      clear hm hs
      go_wp2_with fail
      refine HC.out.mono ?_
      rintro e w2 ⟨rfl, hw2, hg, hs2⟩
      obtain ⟨n1, n2⟩ := HN.out w2 hg hw2 hs2
      have hn2 := Lib.hid n2
      clear hw2 hg n2
      go_wp2_with fail
      go_roundw
      case rel => exact ⟨j + 1, by omega, by go_num, by rw [HTj.out]; go_num, n1, by omega, hn2⟩
      case measure => simp [intOf]; omega
    · obtain rfl : j = n := by omega
      rw [HAll.out]
      have hfin : Hid (WrSS .i64 S wr (.slice (some ⟨hb, off, none⟩) j cap) (marksII k zss)) := Lib.hid (by
        rw [← mixI_all k zss, ← Hn.out]
        refine ⟨_, cap, by rw [mixI_length, ← Hn.out], by rw [mixI_length]; exact Hcap.out, .inr ⟨hb, off, bf, rfl, hsb, hrow.out, fun i j' hi hj' hij hi0 hj0 => ?_⟩⟩
        have hiz : i < zss.length := by rw [mixI_length] at hi; exact hi
        have hjz : j' < zss.length := by rw [mixI_length] at hj'; exact hj'
        have l1 := Hn.out
        refine Hap.out i j' hiz hjz hij (fun h0 => hi0 ?_) (fun h0 => hj0 ?_)
        · rw [mixI_lt k zss j i (by omega) hi hiz, h0]; rfl
        · rw [mixI_lt k zss j j' (by omega) hj' hjz, h0]; rfl)
      clear hrow
      go_wp2_with fail
      go_ret
      exact ⟨rfl, hfin.out, ht, hsz⟩
end Go.Proofs.YtbojhbhniollaaaDoor
namespace Go.Proofs.YtbojhbhniollaaaDoor
open Go.RowKit
theorem WrAt.touchS {k : IntKind} {S : Nat → Prop} {w w' : World} {v : Value} {zs : List Int} {b : Nat} (h : WrAt k w v zs b) (t : Touch S w w') (hn : zs ≠ [] → ¬ S b) : WrAt k w' v zs b :=
  h.keep fun hz => t.block b (h.rd.lt hz) (hn hz)
set_option maxRecDepth 100000 in
set_option maxHeartbeats 1000000 in
theorem heldIntSS_q (v : Value) (zss : List (List Int)) (k : Int) (w : World) (h : RdRows .i64 w v (marksII k zss)) (hl : zss.length ≤ 1048576) (hl2 : sumLen zss ≤ 1048576) (k0 : 0 ≤ k) (k1 : k ≤ 1099510000000) :
    Calls Tryd.prog 48 #[v, .int .i64 k] w fun e w' => e = .returned (.int .i64 (k + sumLen zss)) ∧ w = w' := by
  have hrow := fun j (hj : j < (marksII k zss).length) => h.row hj
  obtain ⟨a, cap, rfl, -, -⟩ := id h
  rw [marksII_length]
  obtain ⟨n, hn⟩ : ∃ n, n = zss.length := ⟨_, rfl⟩
  have Hn := Lib.hid hn
  have Hrow : Hid (∀ j (hj : j < zss.length), ∃ (blk off cap' : Nat) (p : Option Addr) (c b : Nat), a = some ⟨blk, off, none⟩ ∧ w.cell? ⟨blk, off + j, none⟩ = some (.slice p zss[j].length c) ∧ RdAt .i64 w (.slice p zss[j].length c) (marksI (k + sumLen (zss.take j)) zss[j].length) b) := Lib.hid (fun j hj => by
    obtain ⟨blk, off, cap', p, c, b, hv, hc, hr, -⟩ := hrow j (by rw [marksII_length]; exact hj)
    have ha := (Value.slice.inj hv).1
    have hml : ((marksII k zss)[j]'(by rw [marksII_length]; exact hj)).length = zss[j].length := by rw [marksII_at zss k j hj, marksI_length]
    rw [hml] at hc hr
    rw [marksII_at zss k j hj] at hr
    exact ⟨blk, off, cap', p, c, b, ha, hc, hr⟩)
  have Hsum : Hid (∀ j (hj : j < zss.length), zss[j].length ≤ 1048576) := Lib.hid (fun j hj => Nat.le_trans (len_le_sum zss hj) hl2)
  have Hst : Hid (∀ j, sumLen (zss.take j) ≤ 1048576) := Lib.hid (fun j => Nat.le_trans (sumLen_take_le zss j) hl2)
  have HTk := Lib.hid (fun j (hj : j < zss.length) => sumLen_take zss j hj)
  have HAll : Hid (sumLen (zss.take n) = sumLen zss) := Lib.hid (by rw [hn, List.take_length])
  obtain ⟨tot, htot⟩ : ∃ t, t = sumLen zss := ⟨_, rfl⟩
  rw [← htot] at HAll ⊢
  rw [← hn] at hl ⊢
  clear hn hrow h htot hl2
  go_enter Tryd.func48, Tryd.ntmps48
  go_wp2_with fail
  go_loop [1, 5] (fun kv i => ∃ j : Nat, j ≤ n ∧ i = .int .i64 j ∧ kv = .int .i64 (k + (sumLen (zss.take j) : Nat))) (fun _ i => n - (intOf i).toNat)
  case atStart => exact ⟨0, Nat.zero_le _, rfl, by simp [sumLen]⟩
  case round =>
    obtain ⟨j, hj, rfl, rfl⟩ := hrel
    by_cases hlt : j < n
    · have hz : j < zss.length := by rw [← Hn.out]; exact hlt
      obtain ⟨blk, off, cap', p, c, b, rfl, hc, hr⟩ := Hrow.out j hz
      have hsm := Hsum.out j hz
      have hst := Hst.out j
      have HTj : Hid (sumLen (zss.take (j + 1)) = sumLen (zss.take j) + zss[j].length) := Lib.hid (HTk.out j hz)
      have HC := Lib.hid (heldIntS_any _ b (k + (sumLen (zss.take j) : Nat)) (zss[j]'hz).length w hr (by omega) (by omega) (by omega))
      obtain ⟨m, hm⟩ : ∃ m, m = zss[j].length := ⟨_, rfl⟩
      obtain ⟨s, hs⟩ : ∃ s, s = sumLen (zss.take j) := ⟨_, rfl⟩
      rw [← hm, ← hs] at HC HTj
      rw [← hm] at hc hsm
      rw [← hs] at hst ⊢
      clear hm hs hr
      go_wp2_with fail
      refine HC.out.mono ?_
      rintro e _w ⟨rfl, rfl⟩
      go_wp2_with fail
      go_round
      case rel => exact ⟨j + 1, by omega, by go_num, by rw [HTj.out]; go_num⟩
      case measure => simp [intOf]; omega
    · obtain rfl : j = n := by omega
      rw [HAll.out]
      go_wp2_with fail
      go_ret
      exact ⟨rfl, rfl⟩
theorem heldIntSS_any (v : Value) (zss : List (List Int)) (k : Int) (w : World) (h : RdRows .i64 w v (marksII k zss)) (hl : zss.length ≤ 1048576) (hl2 : sumLen zss ≤ 1048576) (k0 : 0 ≤ k) (k1 : k ≤ 1099510000000) :
    Calls Tryd.prog 48 #[v, .int .i64 k] w fun e w' => e = .returned (.int .i64 (k + sumLen zss)) ∧ Below w.heap.size w w' :=
  (heldIntSS_q v zss k w h hl hl2 k0 k1).mono fun e w' ⟨he, hw⟩ => ⟨he, by subst hw; exact Below.refl _ _⟩
end Go.Proofs.YtbojhbhniollaaaDoor
