/-
  What the operations of a drawn region make, as a table: values, slices and slices of slices of their own, fresh boxes.
-/
import Derived.Test.YtmfammgdcdlceaaDoorJoint
import Derived.Test.YtmfammgdcdlceaaDoorOwn
import Derived.Laws.Tables
import Derived.ArgAppend
import Derived.Lib.AppendZerosOnto
namespace Go.Proofs.YtmfammgdcdlceaaDoor
open Go.RowKit
set_option linter.unusedVariables false
set_option linter.unusedSimpArgs false
section
variable {P : Program} {ops : Array Oper} {md : Region.Mode}

/-- What an operation of the list yields: this value; a slice, or a slice of slices, of its own; the empty literal; a fresh box; something else that stays where blocks are only added. -/
inductive Made where
  | is (v : Value)
  | ints (zs : List Int)
  | rows (zss : List (List Int))
  | zero
  | box (cs : Array Value) (t : TypeId)
  | fn (ps : List Nat) (f : List Value → Value)
  | own (F : (Nat → Prop) → World → Value → Prop) (h : ∀ S w w' v, F S w v → Below w.heap.size w w' → F S w' v)
def Made.means (m : Made) (val : Nat → Value) (v : Value) (lo hi : Nat) (w : World) : Prop :=
  match m with
  | .is u => v = u
  | .ints zs => OwnI (In lo hi) w v zs
  | .rows zss => OwnR (In lo hi) w v zss
  | .zero => ∃ g, v = .slice (some ⟨g, 0, none⟩) 0 0
  | .box cs t => v = .pointer (some ⟨lo, 0, none⟩) ∧ w.heap[lo]? = some (.cells cs t (0, 0)) ∧ lo < hi
  | .fn ps f => v = f (ps.map val)
  | .own F _ => F (In lo hi) w v
def Made.val (m : Made) (x : Value) : Value := match m with | .is v => v | _ => x
theorem Made.stable {m : Made} {val : Nat → Value} {v : Value} {lo hi : Nat} {w w' : World} (h : m.means val v lo hi w) (b : Below w.heap.size w w') : m.means val v lo hi w' := by
  cases m with
  | is u => exact h
  | ints zs => exact OwnI.below h b
  | rows zss => exact OwnR.below h b
  | zero => exact h
  | box cs t => exact ⟨h.1, (b.block _ (Array.getElem?_eq_some_iff.1 h.2.1).1).trans h.2.1, h.2.2⟩
  | fn ps f => exact h
  | own F hF => exact hF _ _ _ _ h b
theorem Made.val_eq {m : Made} {val : Nat → Value} {x : Value} {lo hi : Nat} {w : World} (h : m.means val x lo hi w) : m.val x = x := by
  cases m with
  | is u => exact h.symm
  | _ => rfl
abbrev Row := Nat × Option Tmp × Made
def putT (val : Nat → Value) (T : List Row) (a : Act) : Act := T.foldl (fun a e => a.put e.2.1 (e.2.2.val (val e.1))) a
/-- The table's row numbers, in order, each but once; each row's slot is its operation's. -/
def Made.deps (m : Made) : List Nat := match m with | .fn ps _ => ps | _ => []
def tabB (md : Region.Mode) (ops : Array Oper) (T : List Row) : Bool := T.all fun e => dstOf ops e.1 == e.2.1 && e.2.2.deps.all fun p => (T.map (·.1)).contains p && predOf md ops e.1 p
theorem Made.cong {m : Made} {val val' : Nat → Value} {v : Value} {lo hi : Nat} {w : World} (h : m.means val v lo hi w) (hd : ∀ p ∈ m.deps, val p = val' p) : m.means val' v lo hi w := by
  cases m with
  | fn ps f =>
    show v = f (ps.map val')
    have e : ps.map val = ps.map val' := List.map_congr_left (fun p hp => hd p hp)
    rw [← e]; exact h
  | _ => exact h
/-- The rows that must have come up ahead of operation j. -/
def predsT (md : Region.Mode) (ops : Array Oper) (T : List Row) (j : Nat) : List Row := T.filter fun e => predOf md ops j e.1
def StepsT (P : Program) (md : Region.Mode) (ops : Array Oper) (w0 : World) (a0 : Act) (T : List Row) (L : List Row) : Prop :=
  ∀ e ∈ L, ∀ w val (iv : Nat → Nat × Nat), Below w0.heap.size w0 w → (∀ p ∈ predsT md ops T e.1, p.2.2.means val (val p.1) (iv p.1).1 (iv p.1).2 w) →
    wpOp P ops (fun _ _ _ => False) e.1 (fun a' w' => ∃ v, a' = (putT val (predsT md ops T e.1) a0).put e.2.1 v ∧ e.2.2.means val v w.heap.size w'.heap.size w' ∧ Below w.heap.size w w') (putT val (predsT md ops T e.1) a0) w
theorem StepsT.nil {w0 : World} {a0 : Act} {T : List Row} : StepsT P md ops w0 a0 T [] := fun j hj => by cases hj
/-- One step: o its operation, ps the rows ahead of it. -/
theorem StepsT.cons {w0 : World} {a0 : Act} {T L : List Row} {e : Row} {o : Oper} (ps : List Row) (ho : ops[e.1]? = some o) (hp : predsT md ops T e.1 = ps) (hd : o.dst = e.2.1)
    (h : ∀ w val (iv : Nat → Nat × Nat), Below w0.heap.size w0 w → (∀ p ∈ ps, p.2.2.means val (val p.1) (iv p.1).1 (iv p.1).2 w) → ∀ K : Act → World → Prop, Shut (∀ v w', e.2.2.means val v w.heap.size w'.heap.size w' → Below w.heap.size w w' → K ((putT val ps a0).put o.dst v) w') →
      if Region.wanted o (yielded ops (putT val ps a0).tmps) = true then Oper.wp P o (putT val ps a0) w K (fun _ _ _ => False) else K ((putT val ps a0).put o.dst undef) w)
    (hs : StepsT P md ops w0 a0 T L) : StepsT P md ops w0 a0 T (e :: L) := fun i hi => by
  rcases List.mem_cons.1 hi with rfl | hi
  · intro w val iv hB hV
    rw [hp] at hV ⊢
    exact wpOp_step ho (fun K hK => h w val iv hB hV K (fun v w' hv hb => hK _ _ ⟨v, by rw [hd], hv, hb⟩))
  · exact hs i hi
theorem tab_find {T : List Row} (hn : (T.map (·.1)).Nodup) {e : Row} (he : e ∈ T) : T.find? (fun x => x.1 == e.1) = some e := by
  induction T with
  | nil => cases he
  | cons x T ih =>
    rw [List.map_cons, List.nodup_cons] at hn
    by_cases h : x.1 = e.1
    · rcases List.mem_cons.1 he with rfl | he
      · simp
      · exact absurd (List.mem_map.2 ⟨e, he, h.symm⟩) hn.1
    · have he' : e ∈ T := by
        rcases List.mem_cons.1 he with rfl | he
        · exact absurd rfl h
        · exact he
      rw [List.find?_cons_of_neg (by simpa using h)]
      exact ih hn.2 he'
theorem putT_eq {val : Nat → Value} {L : List Row} (hd : ∀ e ∈ L, dstOf ops e.1 = e.2.1) (hv : ∀ e ∈ L, e.2.2.val (val e.1) = val e.1) : ∀ a : Act, putAll ops val (L.map (·.1)) a = putT val L a := by
  induction L with
  | nil => intro a; rfl
  | cons x L ih =>
    intro a
    show putAll ops val (L.map (·.1)) (a.put (dstOf ops x.1) (val x.1)) = putT val L (a.put x.2.1 (x.2.2.val (val x.1)))
    rw [hd x List.mem_cons_self, hv x List.mem_cons_self, ih (fun e he => hd e (List.mem_cons_of_mem _ he)) (fun e he => hv e (List.mem_cons_of_mem _ he))]
/-- All operations of the table come up, in whatever order: each by its own contract; what they have made lies apart. -/
theorem wpAny_table {Q : Exit → Act → World → Prop} (T : List Row) {w0 ws : World} {a0 : Act} (n : Nat) {listed : Array Bool} (B0 : Below w0.heap.size w0 ws) (hB : jointB md ops listed (T.map (·.1)) = true) (hT : tabB md ops T = true) (hsel : Region.noSelect ops = true)
    (step : StepsT P md ops w0 a0 T T)
    (fin : ∀ w val (iv : Nat → Nat × Nat), Below w0.heap.size w0 w → (∀ e ∈ T, e.2.2.means val (val e.1) (iv e.1).1 (iv e.1).2 w ∧ w0.heap.size ≤ (iv e.1).1 ∧ (iv e.1).2 ≤ w.heap.size) → (∀ i ∈ T.map (·.1), ∀ j ∈ T.map (·.1), i ≠ j → (iv i).2 ≤ (iv j).1 ∨ (iv j).2 ≤ (iv i).1) → wpAny P md ops Q n (listAll listed (T.map (·.1))) (putT val T a0) w) :
    wpAny P md ops Q (n + T.length) listed a0 ws := by
  have hOK := jointOK hB
  have hT2 : ∀ e ∈ T, dstOf ops e.1 = e.2.1 ∧ ∀ p ∈ e.2.2.deps, p ∈ T.map (·.1) ∧ predOf md ops e.1 p = true := fun e he => by
    have := List.all_eq_true.1 hT e he
    simp only [Bool.and_eq_true, beq_iff_eq, List.all_eq_true, List.contains_iff_mem] at this
    exact this
  have hd : ∀ e ∈ T, dstOf ops e.1 = e.2.1 := fun e he => (hT2 e he).1
  have hf := fun {e : Row} (he : e ∈ T) => tab_find hOK.nodup he
  have hmem : ∀ {e : Row}, e ∈ T → e.1 ∈ T.map (·.1) := fun he => List.mem_map.2 ⟨_, he, rfl⟩
  have hpre : ∀ j, (T.map (·.1)).filter (predOf md ops j) = (predsT md ops T j).map (·.1) := fun j => by unfold predsT; rw [List.filter_map]; rfl
  have hirr : ∀ e ∈ T, predOf md ops e.1 e.1 = false := fun e he => by
    obtain ⟨-, -, ⟨o, ho, h⟩, -⟩ := hOK.each e.1 (hmem he)
    cases hp : predOf md ops e.1 e.1 with
    | false => rfl
    | true =>
      obtain ⟨ed, hed, hb, hon⟩ := (predOf_iff ho).1 hp
      have hun := (hOK.each e.1 (hmem he)).2.1
      rcases h ed hed hb with h | ⟨-, h⟩
      · rw [hon] at h
        have hs : e.1 < listed.size := by rw [hOK.size]; exact (hOK.each e.1 (hmem he)).1
        simp [hs] at h hun
        rw [hun] at h; cases h
      · omega
  have h := wpAny_core (P := P) (Q := Q) (V := fun j val iv w => match T.find? (fun x => x.1 == j) with | some e => e.2.2.means val (val j) (iv j).1 (iv j).2 w | none => True) (w0 := w0) (a0 := a0) (n := n) hOK hsel
    (fun j hj val val' iv iv' w hc hv => by
      obtain ⟨e, he, rfl⟩ := List.mem_map.1 hj
      simp only [hf he] at hv ⊢
      obtain ⟨c1, c2⟩ := hc e.1 (.inl rfl)
      rw [← c1, ← c2]
      exact Made.cong hv (fun p hp => (hc p (.inr ((hT2 e he).2 p hp))).1))
    (fun j hj val iv w w' hv b => by
      obtain ⟨e, he, rfl⟩ := List.mem_map.1 hj
      simp only [hf he] at hv ⊢
      exact Made.stable hv b)
    (fun j hj w val iv B hV => by
      obtain ⟨e, he, rfl⟩ := List.mem_map.1 hj
      simp only [hf he]
      have hV2 : ∀ p ∈ predsT md ops T e.1, p.2.2.means val (val p.1) (iv p.1).1 (iv p.1).2 w := fun p hp => by
        obtain ⟨h1, h2⟩ := List.mem_filter.1 hp
        have := hV p.1 (hmem h1) h2
        simp only [hf h1] at this
        exact this
      have := step e he w val iv B hV2
      rw [hpre, putT_eq (L := predsT md ops T e.1) (fun p hp => hd p (List.mem_filter.1 hp).1) (fun p hp => Made.val_eq (hV2 p hp)), hd e he]
      refine wpOp_mono ?_ this
      rintro a' w' ⟨v, h1, h2, h3⟩
      refine ⟨v, h1, ?_, h3⟩
      simp only [if_true]
      exact Made.cong h2 (fun p hp => by
        have hne : p ≠ e.1 := fun e2 => by
          have := ((hT2 e he).2 p hp).2
          rw [e2, hirr e he] at this; cases this
        simp only [if_neg hne]))
    (fun w val iv B hV hD => by
      have hV2 : ∀ e ∈ T, e.2.2.means val (val e.1) (iv e.1).1 (iv e.1).2 w ∧ w0.heap.size ≤ (iv e.1).1 ∧ (iv e.1).2 ≤ w.heap.size := fun e he => by
        have := hV e.1 (hmem he)
        simp only [hf he] at this
        exact this
      rw [putT_eq hd (fun e he => Made.val_eq (hV2 e he).1)]
      exact fin w val iv B hV2 hD)
    T.length (fun _ => false) (fun _ => undef) (fun _ => (0, 0)) ws ((congrArg List.length (List.filter_eq_self.2 (fun _ _ => rfl))).trans (List.length_map ..)) (fun _ _ h => by cases h) B0 (fun _ _ h => by cases h) (fun _ _ _ _ h => by cases h)
  have e : (T.map (·.1)).filter (fun _ => false) = [] := List.filter_eq_nil_iff.2 (fun _ _ => by simp)
  rw [e] at h
  exact h
/-- The next operation is forced. -/
theorem wpAny_one {Q : Exit → Act → World → Prop} {i : Nat} {o : Oper} {fuel : Nat} {listed : Array Bool} {a : Act} {w : World} (hr : Region.ready md ops listed = [i]) (ho : ops[i]? = some o)
    (h : ∀ K : Act → World → Prop, Shut (∀ a w, wpAny P md ops Q fuel (listed.setIfInBounds i true) a w → K a w) → if Region.wanted o (yielded ops a.tmps) = true then Oper.wp P o a w K Q else K (a.put o.dst undef) w) : wpAny P md ops Q (fuel + 1) listed a w :=
  ⟨fun e => (by rw [hr] at e; cases e), fun j hj => by
    rw [hr] at hj
    obtain rfl : j = i := by simpa using hj
    exact wpOp_step ho h⟩
theorem wpAny_end {Q : Exit → Act → World → Prop} {fuel : Nat} {listed : Array Bool} {a : Act} {w : World} (hr : Region.ready md ops listed = []) (h : Q .normal a w) : wpAny P md ops Q fuel listed a w := by
  cases fuel with
  | zero => exact ⟨hr, h⟩
  | succ n => exact ⟨fun _ => h, fun i hi => by rw [hr] at hi; cases hi⟩
/-- **A region that draws its order**: the table's operations in whatever order, then the rest. -/
theorem wp_region_table {Q : Exit → Act → World → Prop} {id : Nat} {a : Act} {w : World} (T : List Row) (n : Nat) (hm : P.follows .mixedOrders = true) (hn : ops.size = n + T.length) (hB : jointB .any ops (Array.replicate ops.size false) (T.map (·.1)) = true) (hT : tabB .any ops T = true) (hsel : Region.noSelect ops = true) {L : Array Bool} (hL : listAll (Array.replicate ops.size false) (T.map (·.1)) = L)
    (step : StepsT P .any ops w a T T)
    (fin : ∀ w' val (iv : Nat → Nat × Nat), Below w.heap.size w w' → (∀ e ∈ T, e.2.2.means val (val e.1) (iv e.1).1 (iv e.1).2 w' ∧ w.heap.size ≤ (iv e.1).1 ∧ (iv e.1).2 ≤ w'.heap.size) → (∀ i ∈ T.map (·.1), ∀ j ∈ T.map (·.1), i ≠ j → (iv i).2 ≤ (iv j).1 ∨ (iv j).2 ≤ (iv i).1) → wpAny P .any ops Q n L (putT val T a) w') :
    (Code.region id ops true).wp P Q a w :=
  wp_region_any hm (by
    have h := wpAny_table (P := P) (Q := Q) T n (w0 := w) (ws := w.drew) (a0 := a) ((Below.refl _ _).drew) hB hT hsel step (by rw [hL]; exact fin)
    rw [← hn] at h
    exact h)
theorem step_append_runM {Q : Exit → Act → World → Prop} {o : Oper} {a : Act} {w : World} {K : Act → World → Prop} {E : Prop} (hg : o.guard = none) (s x : Operand) (t tn : TypeId)
    (ho : o.op = .call { callee := .builtin .append, args := #[s, x], argTypes := #[t, tn] }) (vs vx : Value) (hs : a.eval s = vs) (hx : a.eval x = vx)
    (v' : Value) (w' : World) (hr : (Builtin.append_ #[t, tn] o.type #[vs, vx]).run P w = .ok v' w') (h : K (a.put o.dst v') w') : if Region.wanted o (yielded ops a.tmps) = true then Oper.wp P o a w K Q else E := by
  have hw : Region.wanted o (yielded ops a.tmps) = true := by simp [Region.wanted, hg]
  rw [if_pos hw]
  exact Lib.wp_append_run w s x t tn ho vs vx hs hx v' w' hr h
/-- An appended copy: to an empty literal. -/
theorem append_copy {w : World} {g : Nat} {vr : Value} {zs : List Int} {b : Nat} (hr : RdAt .i64 w vr zs b) (hl : zs.length ≤ 1048576) (ty : TypeId) :
    ∃ v' w', (Builtin.append_ #[30, 30] ty #[.slice (some ⟨g, 0, none⟩) 0 0, vr]).run Tryd.prog w = .ok v' w' ∧ OwnI (In w.heap.size w'.heap.size) w' v' zs ∧ Below w.heap.size w w' := by
  obtain ⟨i0, hi, hz0, hz1, hz2⟩ := info_parts info_i64
  have hwf := hr.wf
  rcases hr.open with ⟨rfl, ad, cap, rfl, hcm, hnil⟩ | ⟨hne, off, cap, rfl, hcap, hc⟩
  · refine ⟨.slice (some ⟨g, 0, none⟩) 0 0, w, ?_, OwnI.nil _ _ _, Below.refl _ _⟩
    cases ad with
    | none =>
      have hc0 := hnil rfl
      subst hc0
      simp [Builtin.append_, run_underlying Tryd.underlying30, sizeOf, typeInfo, hi, Builtin.lenOf, Builtin.firstCells, storeCells]
    | some ad => simp [Builtin.append_, run_underlying Tryd.underlying30, sizeOf, typeInfo, hi, Builtin.lenOf, Builtin.firstCells, storeCells, loadCells, loadCellsFrom]
  · obtain ⟨v', w', hrun, hown, hgr⟩ := run_append_arg_grows (P := Tryd.prog) w 30 ty 3 i0 (.int .i64 0) 1 8 Tryd.underlying30 hi hz0 hz1 hz2 rfl (by decide) ⟨g, 0, none⟩ 0 0 [] rfl (by intro j u hu; simp at hu) ⟨b, off, none⟩ zs.length cap (zs.map (Value.int .i64)) (by simp) (fun j u hu => by
        have hj : j < zs.length := by have := (List.getElem?_eq_some_iff.1 hu).1; simpa using this
        have e2 : (⟨b, off, none⟩ : Addr).add j = ⟨b, off + j, none⟩ := by simp [Addr.add]
        rw [e2, hc j hj]
        simpa [hj] using hu) (by have := List.length_pos_iff.2 hne; omega) (by unfold maxLen; omega) (by omega)
    exact ⟨v', w', hrun, OwnI.of (zs := zs) (by simpa using hown) hwf, (Below.refl _ _).grown hgr (Nat.le_refl _) (fun k hk => by cases hk)⟩
end
end Go.Proofs.YtmfammgdcdlceaaDoor
