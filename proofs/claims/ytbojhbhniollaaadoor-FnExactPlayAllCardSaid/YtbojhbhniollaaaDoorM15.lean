/-
  Several texts in one: As XMade, with rows whose values other rows' values bound (own2).   What the operations of a drawn region make, as a table: values, slices and slices of slices of their own, fresh boxes. A region that draws its order, one of whose operations may lag behind the others: then the rest may begin before it.
-/
import Derived.Test.YtbojhbhniollaaaDoorM5
import Derived.Test.YtbojhbhniollaaaDoorM6
import Derived.Laws.Tables
import Derived.ArgAppend
import Derived.Lib.AppendZerosOnto
import Derived.Test.YtbojhbhniollaaaDoorEarly
namespace Go.Proofs.YtbojhbhniollaaaDoor
open Go.RowKit
set_option linter.unusedVariables false
set_option linter.unusedSimpArgs false
namespace M2
section
variable {P : Program} {ops : Array Oper} {md : Region.Mode}

/-- What an operation of the list yields: this value; a slice, or a slice of slices, of its own; the empty literal; a fresh box; something else that stays where blocks are only added. -/
inductive Made where
  | is (v : Value)
  | ints (zs : List Int)
  | rows (zss : List (List Int))
  | zero
  | box (cs : Array Value) (t : TypeId)
  | fn (ps : List Nat) (f : List Value → Value)
  | own2 (ps : List Nat) (F : List Value → Value → Prop)
  | own (F : (Nat → Prop) → World → Value → Prop) (h : ∀ S w w' v, F S w v → Below w.heap.size w w' → F S w' v)
def Made.means (m : Made) (val : Nat → Value) (v : Value) (lo hi : Nat) (w : World) : Prop :=
  match m with
  | .is u => v = u
  | .ints zs => OwnI (In lo hi) w v zs
  | .rows zss => OwnR (In lo hi) w v zss
  | .zero => ∃ g, v = .slice (some ⟨g, 0, none⟩) 0 0
  | .box cs t => v = .pointer (some ⟨lo, 0, none⟩) ∧ w.heap[lo]? = some (.cells cs t (0, 0)) ∧ lo < hi
  | .fn ps f => v = f (ps.map val)
  | .own2 ps F => F (ps.map val) v
  | .own F _ => F (In lo hi) w v
def Made.val (m : Made) (x : Value) : Value := match m with | .is v => v | _ => x
theorem Made.stable {m : Made} {val : Nat → Value} {v : Value} {lo hi : Nat} {w w' : World} (h : m.means val v lo hi w) (b : Below w.heap.size w w') : m.means val v lo hi w' := by
  cases m with
  | is u => exact h
  | ints zs => exact OwnI.below h b
  | rows zss => exact OwnR.below h b
  | zero => exact h
  | box cs t => exact ⟨h.1, (b.block _ (Array.getElem?_eq_some_iff.1 h.2.1).1).trans h.2.1, h.2.2⟩
  | fn ps f => exact h
  | own2 ps F => exact h
  | own F hF => exact hF _ _ _ _ h b
theorem Made.val_eq {m : Made} {val : Nat → Value} {x : Value} {lo hi : Nat} {w : World} (h : m.means val x lo hi w) : m.val x = x := by
  cases m with
  | is u => exact h.symm
  | _ => rfl
abbrev Row := Nat × Option Tmp × Made
def putT (val : Nat → Value) (T : List Row) (a : Act) : Act := T.foldl (fun a e => a.put e.2.1 (e.2.2.val (val e.1))) a
/-- The table's row numbers, in order, each but once; each row's slot is its operation's. -/
def Made.deps (m : Made) : List Nat := match m with | .fn ps _ => ps | .own2 ps _ => ps | _ => []
def tabB (md : Region.Mode) (ops : Array Oper) (T : List Row) : Bool := T.all fun e => dstOf ops e.1 == e.2.1 && e.2.2.deps.all fun p => (T.map (·.1)).contains p && predOf md ops e.1 p
theorem Made.cong {m : Made} {val val' : Nat → Value} {v : Value} {lo hi : Nat} {w : World} (h : m.means val v lo hi w) (hd : ∀ p ∈ m.deps, val p = val' p) : m.means val' v lo hi w := by
  cases m with
  | fn ps f =>
    show v = f (ps.map val')
    have e : ps.map val = ps.map val' := List.map_congr_left (fun p hp => hd p hp)
    rw [← e]; exact h
  | own2 ps F =>
    show F (ps.map val') v
    have e : ps.map val = ps.map val' := List.map_congr_left (fun p hp => hd p hp)
    rw [← e]; exact h
  | _ => exact h
/-- The rows that must have come up ahead of operation j. -/
def predsT (md : Region.Mode) (ops : Array Oper) (T : List Row) (j : Nat) : List Row := T.filter fun e => predOf md ops j e.1
def StepsT (P : Program) (md : Region.Mode) (ops : Array Oper) (w0 : World) (a0 : Act) (T : List Row) (L : List Row) : Prop :=
  ∀ e ∈ L, ∀ w val (iv : Nat → Nat × Nat), Below w0.heap.size w0 w → (∀ p ∈ predsT md ops T e.1, p.2.2.means val (val p.1) (iv p.1).1 (iv p.1).2 w) →
    wpOp P ops (fun _ _ _ => False) e.1 (fun a' w' => ∃ v, a' = (putT val (predsT md ops T e.1) a0).put e.2.1 v ∧ e.2.2.means val v w.heap.size w'.heap.size w' ∧ Below w.heap.size w w') (putT val (predsT md ops T e.1) a0) w
theorem StepsT.nil {w0 : World} {a0 : Act} {T : List Row} : StepsT P md ops w0 a0 T [] := fun j hj => by cases hj
/-- One step: o its operation, ps the rows ahead of it. -/
theorem StepsT.cons {w0 : World} {a0 : Act} {T L : List Row} {e : Row} {o : Oper} (ps : List Row) (ho : ops[e.1]? = some o) (hp : predsT md ops T e.1 = ps) (hd : o.dst = e.2.1)
    (h : ∀ w val (iv : Nat → Nat × Nat), Below w0.heap.size w0 w → (∀ p ∈ ps, p.2.2.means val (val p.1) (iv p.1).1 (iv p.1).2 w) → ∀ K : Act → World → Prop, Shut (∀ v w', e.2.2.means val v w.heap.size w'.heap.size w' → Below w.heap.size w w' → K ((putT val ps a0).put o.dst v) w') →
      if Region.wanted o (yielded ops (putT val ps a0).tmps) = true then Oper.wp P o (putT val ps a0) w K (fun _ _ _ => False) else K ((putT val ps a0).put o.dst undef) w)
    (hs : StepsT P md ops w0 a0 T L) : StepsT P md ops w0 a0 T (e :: L) := fun i hi => by
  rcases List.mem_cons.1 hi with rfl | hi
  · intro w val iv hB hV
    rw [hp] at hV ⊢
    exact wpOp_step ho (fun K hK => h w val iv hB hV K (fun v w' hv hb => hK _ _ ⟨v, by rw [hd], hv, hb⟩))
  · exact hs i hi
theorem tab_find {T : List Row} (hn : (T.map (·.1)).Nodup) {e : Row} (he : e ∈ T) : T.find? (fun x => x.1 == e.1) = some e := by
  induction T with
  | nil => cases he
  | cons x T ih =>
    rw [List.map_cons, List.nodup_cons] at hn
    by_cases h : x.1 = e.1
    · rcases List.mem_cons.1 he with rfl | he
      · simp
      · exact absurd (List.mem_map.2 ⟨e, he, h.symm⟩) hn.1
    · have he' : e ∈ T := by
        rcases List.mem_cons.1 he with rfl | he
        · exact absurd rfl h
        · exact he
      rw [List.find?_cons_of_neg (by simpa using h)]
      exact ih hn.2 he'
theorem putT_eq {val : Nat → Value} {L : List Row} (hd : ∀ e ∈ L, dstOf ops e.1 = e.2.1) (hv : ∀ e ∈ L, e.2.2.val (val e.1) = val e.1) : ∀ a : Act, putAll ops val (L.map (·.1)) a = putT val L a := by
  induction L with
  | nil => intro a; rfl
  | cons x L ih =>
    intro a
    show putAll ops val (L.map (·.1)) (a.put (dstOf ops x.1) (val x.1)) = putT val L (a.put x.2.1 (x.2.2.val (val x.1)))
    rw [hd x List.mem_cons_self, hv x List.mem_cons_self, ih (fun e he => hd e (List.mem_cons_of_mem _ he)) (fun e he => hv e (List.mem_cons_of_mem _ he))]
/-- All operations of the table come up, in whatever order: each by its own contract; what they have made lies apart. -/
theorem wpAny_table {Q : Exit → Act → World → Prop} (T : List Row) {w0 ws : World} {a0 : Act} (n : Nat) {listed : Array Bool} (B0 : Below w0.heap.size w0 ws) (hB : jointB md ops listed (T.map (·.1)) = true) (hT : tabB md ops T = true) (hsel : Region.noSelect ops = true)
    (step : StepsT P md ops w0 a0 T T)
    (fin : ∀ w val (iv : Nat → Nat × Nat), Below w0.heap.size w0 w → (∀ e ∈ T, e.2.2.means val (val e.1) (iv e.1).1 (iv e.1).2 w ∧ w0.heap.size ≤ (iv e.1).1 ∧ (iv e.1).2 ≤ w.heap.size) → (∀ i ∈ T.map (·.1), ∀ j ∈ T.map (·.1), i ≠ j → (iv i).2 ≤ (iv j).1 ∨ (iv j).2 ≤ (iv i).1) → wpAny P md ops Q n (listAll listed (T.map (·.1))) (putT val T a0) w) :
    wpAny P md ops Q (n + T.length) listed a0 ws := by
  have hOK := jointOK hB
  have hT2 : ∀ e ∈ T, dstOf ops e.1 = e.2.1 ∧ ∀ p ∈ e.2.2.deps, p ∈ T.map (·.1) ∧ predOf md ops e.1 p = true := fun e he => by
    have := List.all_eq_true.1 hT e he
    simp only [Bool.and_eq_true, beq_iff_eq, List.all_eq_true, List.contains_iff_mem] at this
    exact this
  have hd : ∀ e ∈ T, dstOf ops e.1 = e.2.1 := fun e he => (hT2 e he).1
  have hf := fun {e : Row} (he : e ∈ T) => tab_find hOK.nodup he
  have hmem : ∀ {e : Row}, e ∈ T → e.1 ∈ T.map (·.1) := fun he => List.mem_map.2 ⟨_, he, rfl⟩
  have hpre : ∀ j, (T.map (·.1)).filter (predOf md ops j) = (predsT md ops T j).map (·.1) := fun j => by unfold predsT; rw [List.filter_map]; rfl
  have hirr : ∀ e ∈ T, predOf md ops e.1 e.1 = false := fun e he => by
    obtain ⟨-, -, ⟨o, ho, h⟩, -⟩ := hOK.each e.1 (hmem he)
    cases hp : predOf md ops e.1 e.1 with
    | false => rfl
    | true =>
      obtain ⟨ed, hed, hb, hon⟩ := (predOf_iff ho).1 hp
      have hun := (hOK.each e.1 (hmem he)).2.1
      rcases h ed hed hb with h | ⟨-, h⟩
      · rw [hon] at h
        have hs : e.1 < listed.size := by rw [hOK.size]; exact (hOK.each e.1 (hmem he)).1
        simp [hs] at h hun
        rw [hun] at h; cases h
      · omega
  have h := wpAny_core (P := P) (Q := Q) (V := fun j val iv w => match T.find? (fun x => x.1 == j) with | some e => e.2.2.means val (val j) (iv j).1 (iv j).2 w | none => True) (w0 := w0) (a0 := a0) (n := n) hOK hsel
    (fun j hj val val' iv iv' w hc hv => by
      obtain ⟨e, he, rfl⟩ := List.mem_map.1 hj
      simp only [hf he] at hv ⊢
      obtain ⟨c1, c2⟩ := hc e.1 (.inl rfl)
      rw [← c1, ← c2]
      exact Made.cong hv (fun p hp => (hc p (.inr ((hT2 e he).2 p hp))).1))
    (fun j hj val iv w w' hv b => by
      obtain ⟨e, he, rfl⟩ := List.mem_map.1 hj
      simp only [hf he] at hv ⊢
      exact Made.stable hv b)
    (fun j hj w val iv B hV => by
      obtain ⟨e, he, rfl⟩ := List.mem_map.1 hj
      simp only [hf he]
      have hV2 : ∀ p ∈ predsT md ops T e.1, p.2.2.means val (val p.1) (iv p.1).1 (iv p.1).2 w := fun p hp => by
        obtain ⟨h1, h2⟩ := List.mem_filter.1 hp
        have := hV p.1 (hmem h1) h2
        simp only [hf h1] at this
        exact this
      have := step e he w val iv B hV2
      rw [hpre, putT_eq (L := predsT md ops T e.1) (fun p hp => hd p (List.mem_filter.1 hp).1) (fun p hp => Made.val_eq (hV2 p hp)), hd e he]
      refine wpOp_mono ?_ this
      rintro a' w' ⟨v, h1, h2, h3⟩
      refine ⟨v, h1, ?_, h3⟩
      simp only [if_true]
      exact Made.cong h2 (fun p hp => by
        have hne : p ≠ e.1 := fun e2 => by
          have := ((hT2 e he).2 p hp).2
          rw [e2, hirr e he] at this; cases this
        simp only [if_neg hne]))
    (fun w val iv B hV hD => by
      have hV2 : ∀ e ∈ T, e.2.2.means val (val e.1) (iv e.1).1 (iv e.1).2 w ∧ w0.heap.size ≤ (iv e.1).1 ∧ (iv e.1).2 ≤ w.heap.size := fun e he => by
        have := hV e.1 (hmem he)
        simp only [hf he] at this
        exact this
      rw [putT_eq hd (fun e he => Made.val_eq (hV2 e he).1)]
      exact fin w val iv B hV2 hD)
    T.length (fun _ => false) (fun _ => undef) (fun _ => (0, 0)) ws ((congrArg List.length (List.filter_eq_self.2 (fun _ _ => rfl))).trans (List.length_map ..)) (fun _ _ h => by cases h) B0 (fun _ _ h => by cases h) (fun _ _ _ _ h => by cases h)
  have e : (T.map (·.1)).filter (fun _ => false) = [] := List.filter_eq_nil_iff.2 (fun _ _ => by simp)
  rw [e] at h
  exact h
/-- The next operation is forced. -/
theorem wpAny_one {Q : Exit → Act → World → Prop} {i : Nat} {o : Oper} {fuel : Nat} {listed : Array Bool} {a : Act} {w : World} (hr : Region.ready md ops listed = [i]) (ho : ops[i]? = some o)
    (h : ∀ K : Act → World → Prop, Shut (∀ a w, wpAny P md ops Q fuel (listed.setIfInBounds i true) a w → K a w) → if Region.wanted o (yielded ops a.tmps) = true then Oper.wp P o a w K Q else K (a.put o.dst undef) w) : wpAny P md ops Q (fuel + 1) listed a w :=
  ⟨fun e => (by rw [hr] at e; cases e), fun j hj => by
    rw [hr] at hj
    obtain rfl : j = i := by simpa using hj
    exact wpOp_step ho h⟩
theorem wpAny_end {Q : Exit → Act → World → Prop} {fuel : Nat} {listed : Array Bool} {a : Act} {w : World} (hr : Region.ready md ops listed = []) (h : Q .normal a w) : wpAny P md ops Q fuel listed a w := by
  cases fuel with
  | zero => exact ⟨hr, h⟩
  | succ n => exact ⟨fun _ => h, fun i hi => by rw [hr] at hi; cases hi⟩
/-- **A region that draws its order**: the table's operations in whatever order, then the rest. -/
theorem wp_region_table {Q : Exit → Act → World → Prop} {id : Nat} {a : Act} {w : World} (T : List Row) (n : Nat) (hm : P.follows .mixedOrders = true) (hn : ops.size = n + T.length) (hB : jointB .any ops (Array.replicate ops.size false) (T.map (·.1)) = true) (hT : tabB .any ops T = true) (hsel : Region.noSelect ops = true) {L : Array Bool} (hL : listAll (Array.replicate ops.size false) (T.map (·.1)) = L)
    (step : StepsT P .any ops w a T T)
    (fin : ∀ w' val (iv : Nat → Nat × Nat), Below w.heap.size w w' → (∀ e ∈ T, e.2.2.means val (val e.1) (iv e.1).1 (iv e.1).2 w' ∧ w.heap.size ≤ (iv e.1).1 ∧ (iv e.1).2 ≤ w'.heap.size) → (∀ i ∈ T.map (·.1), ∀ j ∈ T.map (·.1), i ≠ j → (iv i).2 ≤ (iv j).1 ∨ (iv j).2 ≤ (iv i).1) → wpAny P .any ops Q n L (putT val T a) w') :
    (Code.region id ops true).wp P Q a w :=
  wp_region_any hm (by
    have h := wpAny_table (P := P) (Q := Q) T n (w0 := w) (ws := w.drew) (a0 := a) ((Below.refl _ _).drew) hB hT hsel step (by rw [hL]; exact fin)
    rw [← hn] at h
    exact h)
theorem step_append_runM {Q : Exit → Act → World → Prop} {o : Oper} {a : Act} {w : World} {K : Act → World → Prop} {E : Prop} (hg : o.guard = none) (s x : Operand) (t tn : TypeId)
    (ho : o.op = .call { callee := .builtin .append, args := #[s, x], argTypes := #[t, tn] }) (vs vx : Value) (hs : a.eval s = vs) (hx : a.eval x = vx)
    (v' : Value) (w' : World) (hr : (Builtin.append_ #[t, tn] o.type #[vs, vx]).run P w = .ok v' w') (h : K (a.put o.dst v') w') : if Region.wanted o (yielded ops a.tmps) = true then Oper.wp P o a w K Q else E := by
  have hw : Region.wanted o (yielded ops a.tmps) = true := by simp [Region.wanted, hg]
  rw [if_pos hw]
  exact Lib.wp_append_run w s x t tn ho vs vx hs hx v' w' hr h
/-- An appended copy: to an empty literal. -/
theorem append_copy {w : World} {g : Nat} {vr : Value} {zs : List Int} {b : Nat} (hr : RdAt .i64 w vr zs b) (hl : zs.length ≤ 1048576) (ty : TypeId) :
    ∃ v' w', (Builtin.append_ #[23, 23] ty #[.slice (some ⟨g, 0, none⟩) 0 0, vr]).run Tryd.prog w = .ok v' w' ∧ OwnI (In w.heap.size w'.heap.size) w' v' zs ∧ Below w.heap.size w w' := by
  obtain ⟨i0, hi, hz0, hz1, hz2⟩ := info_parts info_i64
  have hwf := hr.wf
  rcases hr.open with ⟨rfl, ad, cap, rfl, hcm, hnil⟩ | ⟨hne, off, cap, rfl, hcap, hc⟩
  · refine ⟨.slice (some ⟨g, 0, none⟩) 0 0, w, ?_, OwnI.nil _ _ _, Below.refl _ _⟩
    cases ad with
    | none =>
      have hc0 := hnil rfl
      subst hc0
      simp [Builtin.append_, run_underlying Tryd.underlying23, sizeOf, typeInfo, hi, Builtin.lenOf, Builtin.firstCells, storeCells]
    | some ad => simp [Builtin.append_, run_underlying Tryd.underlying23, sizeOf, typeInfo, hi, Builtin.lenOf, Builtin.firstCells, storeCells, loadCells, loadCellsFrom]
  · obtain ⟨v', w', hrun, hown, hgr⟩ := run_append_arg_grows (P := Tryd.prog) w 23 ty 3 i0 (.int .i64 0) 1 8 Tryd.underlying23 hi hz0 hz1 hz2 rfl (by decide) ⟨g, 0, none⟩ 0 0 [] rfl (by intro j u hu; simp at hu) ⟨b, off, none⟩ zs.length cap (zs.map (Value.int .i64)) (by simp) (fun j u hu => by
        have hj : j < zs.length := by have := (List.getElem?_eq_some_iff.1 hu).1; simpa using this
        have e2 : (⟨b, off, none⟩ : Addr).add j = ⟨b, off + j, none⟩ := by simp [Addr.add]
        rw [e2, hc j hj]
        simpa [hj] using hu) (by have := List.length_pos_iff.2 hne; omega) (by unfold maxLen; omega) (by omega)
    exact ⟨v', w', hrun, OwnI.of (zs := zs) (by simpa using hown) hwf, (Below.refl _ _).grown hgr (Nat.le_refl _) (fun k hk => by cases hk)⟩
end
end M2
end Go.Proofs.YtbojhbhniollaaaDoor
namespace Go.Proofs.YtbojhbhniollaaaDoor
open Go.RowKit
set_option linter.unusedVariables false
set_option linter.unusedSimpArgs false
namespace M2
section
variable {P : Program} {ops : Array Oper} {md : Region.Mode}
def jointB1 (md : Region.Mode) (ops : Array Oper) (listed : Array Bool) (J : List Nat) (e : Nat) : Bool :=
  decide J.Nodup && (decide (listed.size = ops.size) && (J.all (fun j => decide (j < ops.size) && (!listed.getD j true &&
    (((ops[j]?).map fun o => o.after.all fun e => !Region.binds md e || (listed.getD e.on false || (J.contains e.on && decide (e.on < j)))).getD false &&
    J.all fun p => p == j || apartJ md ops j p))) &&
  (List.range ops.size).all fun k => J.contains k || (listed.getD k true || ((List.range ops.size).any (fun p => predOf md ops k p && (!J.contains p && !listed.getD p true)) || J.all fun j => j == e || reachJ md ops J ops.size k j))))

structure JointOK1 (md : Region.Mode) (ops : Array Oper) (listed : Array Bool) (J : List Nat) (e : Nat) : Prop where
  nodup : J.Nodup
  size : listed.size = ops.size
  each : ∀ j ∈ J, j < ops.size ∧ listed.getD j true = false ∧ (∃ o, ops[j]? = some o ∧ ∀ e ∈ o.after, Region.binds md e = true → listed.getD e.on false = true ∨ e.on ∈ J ∧ e.on < j) ∧ ∀ p ∈ J, p = j ∨ apartJ md ops j p = true
  tail : ∀ k, k < ops.size → k ∈ J ∨ listed.getD k true = true ∨ (∃ p, p < ops.size ∧ predOf md ops k p = true ∧ p ∉ J ∧ listed.getD p true = false) ∨ ∀ j ∈ J, j ≠ e → reachJ md ops J ops.size k j = true
theorem jointOK1 {listed : Array Bool} {J : List Nat} {e : Nat} (h : jointB1 md ops listed J e = true) : JointOK1 md ops listed J e := by
  unfold jointB1 at h
  rw [Bool.and_eq_true, Bool.and_eq_true, Bool.and_eq_true, decide_eq_true_eq, decide_eq_true_eq, List.all_eq_true, List.all_eq_true] at h
  obtain ⟨h1, h2, h3, h4⟩ := h
  refine ⟨h1, h2, fun j hj => ?_, fun k hk => ?_⟩
  · have := h3 j hj
    rw [Bool.and_eq_true, Bool.and_eq_true, Bool.and_eq_true, decide_eq_true_eq, Bool.not_eq_true', List.all_eq_true] at this
    obtain ⟨a1, a2, a3, a4⟩ := this
    refine ⟨a1, a2, ?_, fun p hp => ?_⟩
    · obtain ⟨o, ho⟩ : ∃ o, ops[j]? = some o := ⟨_, Array.getElem?_eq_getElem a1⟩
      rw [ho] at a3
      refine ⟨o, ho, fun e he hb => ?_⟩
      obtain ⟨i, hi, rfl⟩ := Array.getElem_of_mem he
      have a3 : ∀ (i : Nat) (x : i < o.after.size), Region.binds md o.after[i] = false ∨ listed[o.after[i].on]?.getD false = true ∨ o.after[i].on ∈ J ∧ o.after[i].on < j := by simpa using a3
      have := a3 i hi
      simpa [hb] using this
    · have := a4 p hp
      simpa using this
  · have := h4 k (List.mem_range.2 hk)
    simp only [Bool.or_eq_true, List.contains_iff_mem, List.any_eq_true, List.mem_range, Bool.and_eq_true, Bool.not_eq_true', List.all_eq_true, beq_iff_eq] at this
    rcases this with h | h | ⟨p, hp, h1, h2, h3⟩ | h
    · exact .inl h
    · exact .inr (.inl h)
    · exact .inr (.inr (.inl ⟨p, hp, h1, by simpa using h2, h3⟩))
    · exact .inr (.inr (.inr (fun j hj hne => (h j hj).resolve_left hne)))
theorem wpAny_core1 {e : Nat} {Q : Exit → Act → World → Prop} {J : List Nat} {V : Nat → (Nat → Value) → (Nat → Nat × Nat) → World → Prop} {w0 : World} {a0 : Act} {n : Nat} {listed : Array Bool} (hB : JointOK1 md ops listed J e) (hsel : Region.noSelect ops = true)
    (hcong : ∀ j ∈ J, ∀ val val' iv iv' w, (∀ p, (p = j ∨ p ∈ J ∧ predOf md ops j p = true) → val p = val' p ∧ iv p = iv' p) → V j val iv w → V j val' iv' w)
    (hst : ∀ j ∈ J, ∀ val iv w w', V j val iv w → Below w.heap.size w w' → V j val iv w')
    (step : ∀ j ∈ J, ∀ w val (iv : Nat → Nat × Nat), Below w0.heap.size w0 w → (∀ p ∈ J, predOf md ops j p = true → V p val iv w) → wpOp P ops (fun _ _ _ => False) j (fun a' w' => ∃ v, a' = (putAll ops val (J.filter (predOf md ops j)) a0).put (dstOf ops j) v ∧ V j (fun k => if k = j then v else val k) (fun k => if k = j then (w.heap.size, w'.heap.size) else iv k) w' ∧ Below w.heap.size w w') (putAll ops val (J.filter (predOf md ops j)) a0) w)
    (fin : ∀ w val (iv : Nat → Nat × Nat), Below w0.heap.size w0 w → (∀ j ∈ J, V j val iv w ∧ w0.heap.size ≤ (iv j).1 ∧ (iv j).2 ≤ w.heap.size) → (∀ i ∈ J, ∀ j ∈ J, i ≠ j → (iv i).2 ≤ (iv j).1 ∨ (iv j).2 ≤ (iv i).1) → wpAny P md ops Q n (listAll listed J) (putAll ops val J a0) w)
    (lag : ∀ w val (iv : Nat → Nat × Nat), Below w0.heap.size w0 w → (∀ j ∈ J, j ≠ e → V j val iv w ∧ w0.heap.size ≤ (iv j).1 ∧ (iv j).2 ≤ w.heap.size) → (∀ i ∈ J, ∀ j ∈ J, i ≠ e → j ≠ e → i ≠ j → (iv i).2 ≤ (iv j).1 ∨ (iv j).2 ≤ (iv i).1) → wpAny P md ops Q (n + 1) (listAll listed (J.filter fun j => j != e)) (putAll ops val (J.filter fun j => j != e) a0) w) :
    ∀ (m : Nat) (f : Nat → Bool) (val : Nat → Value) (iv : Nat → Nat × Nat) (w : World), (J.filter fun k => !f k).length = m → (∀ j ∈ J, f j = true → ∀ p ∈ J, predOf md ops j p = true → f p = true) → Below w0.heap.size w0 w → (∀ j ∈ J, f j = true → V j val iv w ∧ w0.heap.size ≤ (iv j).1 ∧ (iv j).2 ≤ w.heap.size) → (∀ i ∈ J, ∀ j ∈ J, f i = true → f j = true → i ≠ j → (iv i).2 ≤ (iv j).1 ∨ (iv j).2 ≤ (iv i).1) →
      wpAny P md ops Q (n + m) (listAll listed (J.filter f)) (putAll ops val (J.filter f) a0) w := by
  have hdd : ∀ x ∈ J, ∀ y ∈ J, x ≠ y → ∀ d, dstOf ops x = some d → dstOf ops y ≠ some d := fun x hx y hy hne d hd => by
    obtain ⟨-, -, ⟨o, ho, -⟩, h⟩ := hB.each y hy
    rcases h x hx with h | h
    · exact absurd h hne
    · unfold apartJ at h
      rw [hd, ho] at h
      simp only [Bool.and_eq_true, bne_iff_ne] at h
      unfold dstOf; rw [ho]; exact h.2
  intro m
  induction m with
  | zero =>
    intro f val iv w hm hdown B hV hD
    have hall : ∀ j ∈ J, f j = true := fun j hj => by
      have := List.filter_eq_nil_iff.1 (List.length_eq_zero_iff.1 hm) j hj
      simpa using this
    rw [List.filter_eq_self.2 hall]
    exact fin w val iv B (fun j hj => hV j hj (hall j hj)) (fun i hi j hj => hD i hi j hj (hall i hi) (hall j hj))
  | succ m ih =>
    intro f val iv w hm hdown B hV hD
    have hgetF : ∀ j ∈ J, f j = false → (listAll listed (J.filter f)).getD j true = false := fun j hj hf => by
      rw [listAll_not _ _ _ (by simp [hf])]; exact (hB.each j hj).2.1
    have hgetT : ∀ j ∈ J, f j = true → (listAll listed (J.filter f)).getD j false = true := fun j hj hf =>
      listAll_mem _ _ _ (List.mem_filter.2 ⟨hj, hf⟩) _ (by rw [hB.size]; exact (hB.each j hj).1)
    have hkeep : ∀ k, listed.getD k false = true → (listAll listed (J.filter f)).getD k false = true := fun k hk => by
      by_cases h : k ∈ J.filter f
      · exact listAll_mem _ _ _ h _ (by rcases Nat.lt_or_ge k listed.size with h | h; exact h; simp [Array.getElem?_eq_none h] at hk)
      · rw [listAll_not _ _ _ h]; exact hk
    -- somebody is ready
    have hsome : ∀ j, j ∈ J → f j = false → Region.ready md ops (listAll listed (J.filter f)) ≠ [] := by
      intro j
      induction j using Nat.strongRecOn with
      | _ j ihj =>
        intro hj hf
        obtain ⟨h1, h2, ⟨o, ho, h3⟩, -⟩ := hB.each j hj
        by_cases hp : ∃ p ∈ J, p < j ∧ f p = false
        · obtain ⟨p, hp, hlt, hfp⟩ := hp
          exact ihj p hlt hp hfp
        · intro hnil
          have : j ∈ Region.ready md ops (listAll listed (J.filter f)) := mem_ready.2 ⟨hgetF j hj hf, o, ho, fun e he hb => by
            rcases h3 e he hb with h | ⟨h, hlt⟩
            · exact hkeep _ h
            · refine hgetT _ h ?_
              cases hq : f e.on with
              | true => rfl
              | false => exact absurd ⟨_, h, hlt, hq⟩ hp⟩
          rw [hnil] at this
          cases this
    obtain ⟨j1, hj1, hf1⟩ : ∃ j ∈ J, f j = false := by
      have : (J.filter fun k => !f k) ≠ [] := fun e => by rw [e] at hm; cases hm
      obtain ⟨j, hj⟩ := List.exists_mem_of_ne_nil _ this
      obtain ⟨h1, h2⟩ := List.mem_filter.1 hj
      exact ⟨j, h1, by simpa using h2⟩
    by_cases hlag : ∀ j ∈ J, j ≠ e → f j = true
    · have he1 : j1 = e := Decidable.byContradiction (fun hne => by have := hlag j1 hj1 hne; rw [hf1] at this; cases this)
      subst he1
      have hfe : J.filter f = J.filter fun j => j != j1 := List.filter_congr (fun k hk => by
        by_cases hke : k = j1
        · subst hke; rw [hf1]; simp
        · rw [hlag k hk hke]; simp [hke])
      have hm1 : m = 0 := by
        have h1 : (J.filter fun k => !f k) = J.filter fun k => k == j1 := List.filter_congr (fun k hk => by
          by_cases hke : k = j1
          · subst hke; rw [hf1]; simp
          · rw [hlag k hk hke]; simp [hke])
        rw [h1] at hm
        have h2 : (J.filter fun k => k == j1).length ≤ 1 := by
          have := List.nodup_iff_count.1 hB.nodup j1
          rw [← List.countP_eq_length_filter]
          exact this
        omega
      subst hm1
      rw [hfe]
      exact lag w val iv B (fun j hj hne => hV j hj (hlag j hj hne)) (fun i hi j hj h1 h2 hne => hD i hi j hj (hlag i hi h1) (hlag j hj h2) hne)
    obtain ⟨j0, hj0, hne0, hf0⟩ : ∃ j ∈ J, j ≠ e ∧ f j = false := by
      refine Classical.byContradiction (fun hc => hlag (fun j hj hne => ?_))
      cases hq : f j with
      | true => rfl
      | false => exact absurd ⟨j, hj, hne, hq⟩ hc
    refine ⟨fun h => absurd h (hsome j0 hj0 hf0), fun i hi => ?_⟩
    obtain ⟨hun, o, ho, hpre⟩ := mem_ready.1 hi
    have hilt : i < ops.size := (Array.getElem?_eq_some_iff.1 ho).1
    have hpJ : ∀ p ∈ J, predOf md ops i p = true → f p = true := fun p hp h => by
      obtain ⟨e, he, hb, rfl⟩ := (predOf_iff ho).1 h
      have := hpre e he hb
      cases hq : f e.on with
      | true => rfl
      | false =>
        have h2 := hgetF _ hp hq
        have hs : e.on < (listAll listed (J.filter f)).size := by rw [listAll_size, hB.size]; exact (hB.each _ hp).1
        simp [hs] at h2 this
        rw [h2] at this; cases this
    have hiJ : i ∈ J := by
      rcases hB.tail i hilt with h | h | ⟨p, hp, h1, h2, h3⟩ | h
      · exact h
      · exfalso
        by_cases hm2 : i ∈ J.filter f
        · exact absurd (List.mem_filter.1 hm2).1 (fun h => by rw [listAll_mem _ _ _ hm2 _ (by rw [hB.size]; exact hilt)] at hun; cases hun)
        · rw [listAll_not _ _ _ hm2, h] at hun; cases hun
      · exfalso
        obtain ⟨e, he, hb, rfl⟩ := (predOf_iff ho).1 h1
        have := hpre e he hb
        rw [listAll_not _ _ _ (fun h => h2 (List.mem_filter.1 h).1)] at this
        have hs : e.on < listed.size := by rw [hB.size]; exact hp
        simp [hs] at h3 this
        rw [h3] at this; cases this
      · exact absurd (reach_done hdown _ i j0 hpJ hj0 (h j0 hj0 hne0)) (by rw [hf0]; decide)
    have hfi : f i = false := by
      cases hq : f i with
      | false => rfl
      | true => rw [listAll_mem _ _ _ (List.mem_filter.2 ⟨hiJ, hq⟩) _ (by rw [hB.size]; exact hilt)] at hun; cases hun
    -- the operation, behind its own predecessors alone
    have h0 := step i hiJ w val iv B (fun p hp h => (hV p hp (hpJ p hp h)).1)
    have hL : ∀ k ∈ (J.filter f).filter (fun k => !predOf md ops i k), (∀ d, dstOf ops k = some d → d ∉ o.looksAt ops) ∧ ∀ d, dstOf ops k = some d → o.dst ≠ some d := fun k hk => by
      obtain ⟨hk1, hk2⟩ := List.mem_filter.1 hk
      obtain ⟨hk3, hk4⟩ := List.mem_filter.1 hk1
      obtain ⟨-, -, -, h⟩ := hB.each i hiJ
      rcases h k hk3 with h | h
      · subst h; rw [hfi] at hk4; cases hk4
      · unfold apartJ at h
        have hk2 : predOf md ops i k = false := by simpa using hk2
        refine ⟨fun d hd => ?_, fun d hd => ?_⟩ <;> rw [hd, ho] at h <;> simp [hk2] at h
        · exact h.1
        · exact h.2
    have h1 := wpOp_moves (Q := Q) (val := val) ho (fun cs b => Region.noSelect_spec hsel i o cs b ho) _ hL h0
    have hpf : (J.filter f).filter (predOf md ops i) = J.filter (predOf md ops i) := by
      rw [List.filter_filter]
      refine List.filter_congr (fun k hk => ?_)
      cases hq : predOf md ops i k with
      | false => rfl
      | true => rw [hpJ k hk hq]; rfl
    have hperm : (J.filter (predOf md ops i) ++ (J.filter f).filter (fun k => !predOf md ops i k)).Perm (J.filter f) := by
      rw [← hpf]; exact List.filter_append_perm _ _
    have hmemJ : ∀ {g : Nat → Bool} {x : Nat}, x ∈ J.filter g → x ∈ J := fun h => (List.mem_filter.1 h).1
    have hput : ∀ a : Act, putAll ops val ((J.filter f).filter (fun k => !predOf md ops i k)) (putAll ops val (J.filter (predOf md ops i)) a) = putAll ops val (J.filter f) a := fun a => by
      rw [← putAll_append]
      refine putAll_perm hperm (fun x hx y hy => hdd x ?_ y ?_) a
      · exact hmemJ (hperm.mem_iff.1 hx)
      · exact hmemJ (hperm.mem_iff.1 hy)
    rw [hput] at h1
    refine wpOp_mono ?_ h1
    rintro a' w' ⟨a'', ⟨v, rfl, hv, B1⟩, rfl⟩
    have hfil := filter_add hB.nodup hiJ hfi
    have hset : (listAll listed (J.filter f)).setIfInBounds i true = listAll listed (J.filter fun k => f k || k == i) := by
      rw [← listAll_snoc]; exact (listAll_perm hfil listed).symm
    have hval : ∀ k ∈ J.filter f, val k = (if k = i then v else val k) := fun k hk => by
      have : k ≠ i := fun e => by subst e; have := (List.mem_filter.1 hk).2; rw [hfi] at this; cases this
      rw [if_neg this]
    have hact : putAll ops val ((J.filter f).filter (fun k => !predOf md ops i k)) ((putAll ops val (J.filter (predOf md ops i)) a0).put (dstOf ops i) v) = putAll ops (fun k => if k = i then v else val k) (J.filter fun k => f k || k == i) a0 := by
      rw [putAll_perm hfil (fun x hx y hy => hdd x (hmemJ hx) y (hmemJ hy)), putAll_append, ← putAll_congr hval, ← hput]
      show _ = (putAll ops val _ (putAll ops val _ a0)).put (dstOf ops i) (if i = i then v else val i)
      rw [if_pos rfl]
      generalize putAll ops val (J.filter (predOf md ops i)) a0 = b
      have hne : ∀ k ∈ (J.filter f).filter (fun k => !predOf md ops i k), ∀ d, dstOf ops i = some d → dstOf ops k ≠ some d := fun k hk => by
        have h1 := List.mem_filter.1 (List.mem_filter.1 hk).1
        refine hdd i hiJ k h1.1 (fun e => ?_)
        subst e; rw [hfi] at h1; cases h1.2
      exact putAll_late val _ hne b v
    rw [hset, hact]
    refine ih (fun k => f k || k == i) (fun k => if k = i then v else val k) (fun k => if k = i then (w.heap.size, w'.heap.size) else iv k) w' ?_ ?_ (B.trans (B1.mono B.size)) ?_ ?_
    · have h3 := hfil.length_eq
      rw [List.length_append] at h3
      have c1 := (List.filter_append_perm f J).length_eq
      have c2 := (List.filter_append_perm (fun k => f k || k == i) J).length_eq
      rw [List.length_append] at c1 c2
      simp only [List.length_singleton] at h3
      omega
    · intro j hj hfj p hp hpp
      simp only [Bool.or_eq_true, beq_iff_eq] at hfj ⊢
      rcases hfj with h | h
      · exact .inl (hdown j hj h p hp hpp)
      · subst h; exact .inl (hpJ p hp hpp)
    · intro j hj hfj
      by_cases e : j = i
      · subst e; simp only [if_true]; exact ⟨hv, B.size, Nat.le_refl _⟩
      · simp only [if_neg e]
        have : f j = true := by simpa [e] using hfj
        obtain ⟨q1, q2, q3⟩ := hV j hj this
        refine ⟨hcong j hj val _ iv _ w' (fun p hp => ?_) (hst j hj _ _ w w' q1 B1), q2, Nat.le_trans q3 B1.size⟩
        have hpi : p ≠ i := fun e2 => by
          subst e2
          rcases hp with h | ⟨h1, h2⟩
          · exact e h.symm
          · rw [hdown j hj this p h1 h2] at hfi; cases hfi
        simp only [if_neg hpi, and_self]
    · intro j hj k hk hfj hfk hne
      by_cases e : j = i
      · have e2 : k ≠ i := fun h => hne (e.trans h.symm)
        have h2 : f k = true := by simpa [e2] using hfk
        simp only [if_pos e, if_neg e2]
        exact .inr (hV k hk h2).2.2
      · have h1 : f j = true := by simpa [e] using hfj
        by_cases e2 : k = i
        · simp only [if_pos e2, if_neg e]
          exact .inl (hV j hj h1).2.2
        · have h2 : f k = true := by simpa [e2] using hfk
          simp only [if_neg e2, if_neg e]
          exact hD j hj k hk h1 h2 hne
theorem wpAny_table1 {Q : Exit → Act → World → Prop} (T : List Row) (el : Row) {w0 ws : World} {a0 : Act} (n : Nat) {listed : Array Bool} (B0 : Below w0.heap.size w0 ws) (hB : jointB1 md ops listed (T.map (·.1)) el.1 = true) (hT : tabB md ops T = true) (hsel : Region.noSelect ops = true)
    (step : StepsT P md ops w0 a0 T T)
    (fin : ∀ w val (iv : Nat → Nat × Nat), Below w0.heap.size w0 w → (∀ e ∈ T, e.2.2.means val (val e.1) (iv e.1).1 (iv e.1).2 w ∧ w0.heap.size ≤ (iv e.1).1 ∧ (iv e.1).2 ≤ w.heap.size) → (∀ i ∈ T.map (·.1), ∀ j ∈ T.map (·.1), i ≠ j → (iv i).2 ≤ (iv j).1 ∨ (iv j).2 ≤ (iv i).1) → wpAny P md ops Q n (listAll listed (T.map (·.1))) (putT val T a0) w)
    (lag : ∀ w val (iv : Nat → Nat × Nat), Below w0.heap.size w0 w → (∀ e ∈ T, e.1 ≠ el.1 → e.2.2.means val (val e.1) (iv e.1).1 (iv e.1).2 w ∧ w0.heap.size ≤ (iv e.1).1 ∧ (iv e.1).2 ≤ w.heap.size) → (∀ i ∈ T.map (·.1), ∀ j ∈ T.map (·.1), i ≠ el.1 → j ≠ el.1 → i ≠ j → (iv i).2 ≤ (iv j).1 ∨ (iv j).2 ≤ (iv i).1) → wpAny P md ops Q (n + 1) (listAll listed ((T.filter fun e => e.1 != el.1).map (·.1))) (putT val (T.filter fun e => e.1 != el.1) a0) w) :
    wpAny P md ops Q (n + T.length) listed a0 ws := by
  have hOK := jointOK1 hB
  have hT2 : ∀ e ∈ T, dstOf ops e.1 = e.2.1 ∧ ∀ p ∈ e.2.2.deps, p ∈ T.map (·.1) ∧ predOf md ops e.1 p = true := fun e he => by
    have := List.all_eq_true.1 hT e he
    simp only [Bool.and_eq_true, beq_iff_eq, List.all_eq_true, List.contains_iff_mem] at this
    exact this
  have hd : ∀ e ∈ T, dstOf ops e.1 = e.2.1 := fun e he => (hT2 e he).1
  have hf := fun {e : Row} (he : e ∈ T) => tab_find hOK.nodup he
  have hmem : ∀ {e : Row}, e ∈ T → e.1 ∈ T.map (·.1) := fun he => List.mem_map.2 ⟨_, he, rfl⟩
  have hpre : ∀ j, (T.map (·.1)).filter (predOf md ops j) = (predsT md ops T j).map (·.1) := fun j => by unfold predsT; rw [List.filter_map]; rfl
  have hirr : ∀ e ∈ T, predOf md ops e.1 e.1 = false := fun e he => by
    obtain ⟨-, -, ⟨o, ho, h⟩, -⟩ := hOK.each e.1 (hmem he)
    cases hp : predOf md ops e.1 e.1 with
    | false => rfl
    | true =>
      obtain ⟨ed, hed, hb, hon⟩ := (predOf_iff ho).1 hp
      have hun := (hOK.each e.1 (hmem he)).2.1
      rcases h ed hed hb with h | ⟨-, h⟩
      · rw [hon] at h
        have hs : e.1 < listed.size := by rw [hOK.size]; exact (hOK.each e.1 (hmem he)).1
        simp [hs] at h hun
        rw [hun] at h; cases h
      · omega
  have h := wpAny_core1 (P := P) (Q := Q) (V := fun j val iv w => match T.find? (fun x => x.1 == j) with | some e => e.2.2.means val (val j) (iv j).1 (iv j).2 w | none => True) (w0 := w0) (a0 := a0) (n := n) hOK hsel
    (fun j hj val val' iv iv' w hc hv => by
      obtain ⟨e, he, rfl⟩ := List.mem_map.1 hj
      simp only [hf he] at hv ⊢
      obtain ⟨c1, c2⟩ := hc e.1 (.inl rfl)
      rw [← c1, ← c2]
      exact Made.cong hv (fun p hp => (hc p (.inr ((hT2 e he).2 p hp))).1))
    (fun j hj val iv w w' hv b => by
      obtain ⟨e, he, rfl⟩ := List.mem_map.1 hj
      simp only [hf he] at hv ⊢
      exact Made.stable hv b)
    (fun j hj w val iv B hV => by
      obtain ⟨e, he, rfl⟩ := List.mem_map.1 hj
      simp only [hf he]
      have hV2 : ∀ p ∈ predsT md ops T e.1, p.2.2.means val (val p.1) (iv p.1).1 (iv p.1).2 w := fun p hp => by
        obtain ⟨h1, h2⟩ := List.mem_filter.1 hp
        have := hV p.1 (hmem h1) h2
        simp only [hf h1] at this
        exact this
      have := step e he w val iv B hV2
      rw [hpre, putT_eq (L := predsT md ops T e.1) (fun p hp => hd p (List.mem_filter.1 hp).1) (fun p hp => Made.val_eq (hV2 p hp)), hd e he]
      refine wpOp_mono ?_ this
      rintro a' w' ⟨v, h1, h2, h3⟩
      refine ⟨v, h1, ?_, h3⟩
      simp only [if_true]
      exact Made.cong h2 (fun p hp => by
        have hne : p ≠ e.1 := fun e2 => by
          have := ((hT2 e he).2 p hp).2
          rw [e2, hirr e he] at this; cases this
        simp only [if_neg hne]))
    (fun w val iv B hV hD => by
      have hV2 : ∀ e ∈ T, e.2.2.means val (val e.1) (iv e.1).1 (iv e.1).2 w ∧ w0.heap.size ≤ (iv e.1).1 ∧ (iv e.1).2 ≤ w.heap.size := fun e he => by
        have := hV e.1 (hmem he)
        simp only [hf he] at this
        exact this
      rw [putT_eq hd (fun e he => Made.val_eq (hV2 e he).1)]
      exact fin w val iv B hV2 hD)
    (fun w val iv B hV hD => by
      have hV2 : ∀ e ∈ T, e.1 ≠ el.1 → e.2.2.means val (val e.1) (iv e.1).1 (iv e.1).2 w ∧ w0.heap.size ≤ (iv e.1).1 ∧ (iv e.1).2 ≤ w.heap.size := fun e he hne => by
        have := hV e.1 (hmem he) hne
        simp only [hf he] at this
        exact this
      have hfl : (T.map (·.1)).filter (fun j => j != el.1) = (T.filter fun e => e.1 != el.1).map (·.1) := by rw [List.filter_map]; rfl
      rw [hfl, putT_eq (L := T.filter fun e => e.1 != el.1) (fun e he => hd e (List.mem_filter.1 he).1) (fun e he => Made.val_eq (hV2 e (List.mem_filter.1 he).1 (by have := (List.mem_filter.1 he).2; simpa using this)).1)]
      exact lag w val iv B hV2 hD)
    T.length (fun _ => false) (fun _ => undef) (fun _ => (0, 0)) ws ((congrArg List.length (List.filter_eq_self.2 (fun _ _ => rfl))).trans (List.length_map ..)) (fun _ _ h => by cases h) B0 (fun _ _ h => by cases h) (fun _ _ _ _ h => by cases h)
  have e : (T.map (·.1)).filter (fun _ => false) = [] := List.filter_eq_nil_iff.2 (fun _ _ => by simp)
  rw [e] at h
  exact h
/-- **A region that draws its order**: the table's operations in whatever order, then the rest. -/
theorem wp_region_table1 {Q : Exit → Act → World → Prop} {id : Nat} {a : Act} {w : World} (T : List Row) (el : Row) (n : Nat) (hm : P.follows .mixedOrders = true) (hn : ops.size = n + T.length) (hB : jointB1 .any ops (Array.replicate ops.size false) (T.map (·.1)) el.1 = true) (hT : tabB .any ops T = true) (hsel : Region.noSelect ops = true) {L : Array Bool} (hL : listAll (Array.replicate ops.size false) (T.map (·.1)) = L) {L1 : Array Bool} (hL1 : listAll (Array.replicate ops.size false) ((T.filter fun e => e.1 != el.1).map (·.1)) = L1) {T1 : List Row} (hT1 : (T.filter fun e => e.1 != el.1) = T1)
    (step : StepsT P .any ops w a T T)
    (fin : ∀ w' val (iv : Nat → Nat × Nat), Below w.heap.size w w' → (∀ e ∈ T, e.2.2.means val (val e.1) (iv e.1).1 (iv e.1).2 w' ∧ w.heap.size ≤ (iv e.1).1 ∧ (iv e.1).2 ≤ w'.heap.size) → (∀ i ∈ T.map (·.1), ∀ j ∈ T.map (·.1), i ≠ j → (iv i).2 ≤ (iv j).1 ∨ (iv j).2 ≤ (iv i).1) → wpAny P .any ops Q n L (putT val T a) w')
    (lag : ∀ w' val (iv : Nat → Nat × Nat), Below w.heap.size w w' → (∀ e ∈ T, e.1 ≠ el.1 → e.2.2.means val (val e.1) (iv e.1).1 (iv e.1).2 w' ∧ w.heap.size ≤ (iv e.1).1 ∧ (iv e.1).2 ≤ w'.heap.size) → (∀ i ∈ T.map (·.1), ∀ j ∈ T.map (·.1), i ≠ el.1 → j ≠ el.1 → i ≠ j → (iv i).2 ≤ (iv j).1 ∨ (iv j).2 ≤ (iv i).1) → wpAny P .any ops Q (n + 1) L1 (putT val T1 a) w') :
    (Code.region id ops true).wp P Q a w :=
  wp_region_any hm (by
    have h := wpAny_table1 (P := P) (Q := Q) T el n (w0 := w) (ws := w.drew) (a0 := a) ((Below.refl _ _).drew) hB hT hsel step (by rw [hL]; exact fin) (by rw [hL1, hT1]; exact lag)
    rw [← hn] at h
    exact h)
/-- Two operations are left that may come up in either order. -/
theorem wpAny_pair {Q : Exit → Act → World → Prop} {i k : Nat} {oi ok : Oper} {fuel : Nat} {listed : Array Bool} {a : Act} {w : World} (hr : Region.ready md ops listed = [i, k]) (hi : ops[i]? = some oi) (hk : ops[k]? = some ok)
    (h1 : ∀ K : Act → World → Prop, Shut (∀ a w, wpAny P md ops Q fuel (listed.setIfInBounds i true) a w → K a w) → if Region.wanted oi (yielded ops a.tmps) = true then Oper.wp P oi a w K Q else K (a.put oi.dst undef) w)
    (h2 : ∀ K : Act → World → Prop, Shut (∀ a w, wpAny P md ops Q fuel (listed.setIfInBounds k true) a w → K a w) → if Region.wanted ok (yielded ops a.tmps) = true then Oper.wp P ok a w K Q else K (a.put ok.dst undef) w) : wpAny P md ops Q (fuel + 1) listed a w :=
  ⟨fun e => (by rw [hr] at e; cases e), fun j hj => by
    rw [hr] at hj
    rcases List.mem_cons.1 hj with rfl | hj
    · exact wpOp_step hi h1
    · obtain rfl : j = k := by simpa using hj
      exact wpOp_step hk h2⟩
end
end M2
end Go.Proofs.YtbojhbhniollaaaDoor
