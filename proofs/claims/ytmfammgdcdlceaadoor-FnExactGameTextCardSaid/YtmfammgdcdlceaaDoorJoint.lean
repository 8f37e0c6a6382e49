/-
  A region that draws its order, with several calls that make memory: each operation of a list J has its own contract, whichever order is drawn; no order is gone through one by one.
-/
import Derived.OrdersHeld
import Derived.Below
import Derived.Deep.RegionHeld3
namespace Go.Proofs.YtmfammgdcdlceaaDoor
open Go.RowKit
set_option linter.unusedVariables false
set_option linter.unusedSimpArgs false

section
variable {P : Program} {ops : Array Oper} {md : Region.Mode}

def dstOf (ops : Array Oper) (i : Nat) : Option Tmp := (ops[i]?).bind (·.dst)
def putAll (ops : Array Oper) (val : Nat → Value) (L : List Nat) (a : Act) : Act := L.foldl (fun a j => a.put (dstOf ops j) (val j)) a
def listAll (l : Array Bool) (L : List Nat) : Array Bool := L.foldl (fun l j => l.setIfInBounds j true) l
/-- j must have come up ahead of i. -/
def predOf (md : Region.Mode) (ops : Array Oper) (i j : Nat) : Bool := ((ops[i]?).map fun o => o.after.any fun e => Region.binds md e && e.on == j).getD false
def reachJ (md : Region.Mode) (ops : Array Oper) (J : List Nat) : Nat → Nat → Nat → Bool
  | 0, _, _ => false
  | f + 1, k, j => predOf md ops k j || J.any fun p => predOf md ops k p && reachJ md ops J f p j
def apartJ (md : Region.Mode) (ops : Array Oper) (j p : Nat) : Bool :=
  match dstOf ops p, ops[j]? with
  | some d, some o => (!(o.looksAt ops).contains d || predOf md ops j p) && o.dst != some d
  | _, _ => true
def jointB (md : Region.Mode) (ops : Array Oper) (listed : Array Bool) (J : List Nat) : Bool :=
  decide J.Nodup && (decide (listed.size = ops.size) && (J.all (fun j => decide (j < ops.size) && (!listed.getD j true &&
    (((ops[j]?).map fun o => o.after.all fun e => !Region.binds md e || (listed.getD e.on false || (J.contains e.on && decide (e.on < j)))).getD false &&
    J.all fun p => p == j || apartJ md ops j p))) &&
  (List.range ops.size).all fun k => J.contains k || (listed.getD k true || ((List.range ops.size).any (fun p => predOf md ops k p && (!J.contains p && !listed.getD p true)) || J.all fun j => reachJ md ops J ops.size k j))))

theorem listAll_size (L : List Nat) : ∀ l : Array Bool, (listAll l L).size = l.size := by
  induction L with
  | nil => intro l; rfl
  | cons x L ih => intro l; show (listAll (l.setIfInBounds x true) L).size = _; rw [ih]; simp
theorem listAll_not (L : List Nat) (k : Nat) (b : Bool) (hk : k ∉ L) : ∀ l : Array Bool, (listAll l L).getD k b = l.getD k b := by
  induction L with
  | nil => intro l; rfl
  | cons x L ih =>
    intro l
    show (listAll (l.setIfInBounds x true) L).getD k b = _
    rw [ih (fun h => hk (List.mem_cons_of_mem _ h)), getD_set_ne b (fun e => hk (by rw [e]; exact List.mem_cons_self))]
theorem listAll_mem (L : List Nat) (k : Nat) (b : Bool) (hk : k ∈ L) : ∀ l : Array Bool, k < l.size → (listAll l L).getD k b = true := by
  induction L with
  | nil => cases hk
  | cons x L ih =>
    intro l hl
    show (listAll (l.setIfInBounds x true) L).getD k b = true
    by_cases h : k ∈ L
    · exact ih h _ (by simpa using hl)
    · rw [listAll_not _ _ _ h]
      have : k = x := by simpa [h] using hk
      subst this
      simp [hl]
theorem listAll_snoc (l : Array Bool) (L : List Nat) (j : Nat) : listAll l (L ++ [j]) = (listAll l L).setIfInBounds j true := by
  unfold listAll; rw [List.foldl_append]; rfl
theorem listAll_perm {L L' : List Nat} (h : L.Perm L') (l : Array Bool) : listAll l L = listAll l L' := by
  unfold listAll
  refine h.foldl_eq' (fun x _ y _ z => ?_) l
  by_cases e : x = y
  · subst e; rfl
  · exact Array.setIfInBounds_comm _ _ e
theorem putAll_congr {val val' : Nat → Value} {L : List Nat} (h : ∀ k ∈ L, val k = val' k) : ∀ a : Act, putAll ops val L a = putAll ops val' L a := by
  induction L with
  | nil => intro a; rfl
  | cons x L ih =>
    intro a
    show putAll ops val L (a.put (dstOf ops x) (val x)) = putAll ops val' L (a.put (dstOf ops x) (val' x))
    rw [h x List.mem_cons_self, ih (fun k hk => h k (List.mem_cons_of_mem _ hk))]
theorem putAll_append (val : Nat → Value) (L L' : List Nat) (a : Act) : putAll ops val (L ++ L') a = putAll ops val L' (putAll ops val L a) := by
  unfold putAll; rw [List.foldl_append]
theorem putAll_perm {val : Nat → Value} {L L' : List Nat} (h : L.Perm L') (hd : ∀ x ∈ L, ∀ y ∈ L, x ≠ y → ∀ d, dstOf ops x = some d → dstOf ops y ≠ some d) (a : Act) : putAll ops val L a = putAll ops val L' a := by
  unfold putAll
  refine h.foldl_eq' (fun x hx y hy z => ?_) a
  by_cases e : x = y
  · subst e; rfl
  · exact Act.put_comm z (val x) (val y) (hd x hx y hy e)
theorem filter_add {J : List Nat} (hJ : J.Nodup) {f : Nat → Bool} {j : Nat} (hj : j ∈ J) (hf : f j = false) : (J.filter fun k => f k || k == j).Perm (J.filter f ++ [j]) := by
  induction J with
  | nil => cases hj
  | cons x J ih =>
    rw [List.nodup_cons] at hJ
    by_cases e : x = j
    · subst e
      have h1 : (J.filter fun k => f k || k == x) = J.filter f := by
        refine List.filter_congr (fun k hk => ?_)
        have : k ≠ x := fun e => hJ.1 (e ▸ hk)
        simp [this]
      rw [List.filter_cons_of_pos (by simp), List.filter_cons_of_neg (by simp [hf]), h1]
      exact (List.perm_append_singleton x _).symm
    · have hj' : j ∈ J := by simpa [Ne.symm e] using hj
      by_cases hx : f x = true
      · rw [List.filter_cons_of_pos (by simp [hx]), List.filter_cons_of_pos hx, List.cons_append]
        exact (ih hJ.2 hj').cons x
      · rw [List.filter_cons_of_neg (by simp [hx, e]), List.filter_cons_of_neg hx]
        exact ih hJ.2 hj'
/-- An operation does the same behind a put that it does not look at. -/
theorem wpOp_move {Q : Exit → Act → World → Prop} {j : Nat} {oj : Oper} {x : Option Tmp} {v : Value} (hj : ops[j]? = some oj) (hlook : ∀ d, x = some d → d ∉ oj.looksAt ops) (hdst : ∀ d, x = some d → oj.dst ≠ some d)
    (hsj : ∀ cs b, oj.op ≠ .select cs b) {K : Act → World → Prop} {b : Act} {w : World} (h : wpOp P ops (fun _ _ _ => False) j K b w) : wpOp P ops Q j (fun a' w' => ∃ a'', K a'' w' ∧ a' = a''.put x v) (b.put x v) w := by
  unfold wpOp at *
  simp only [hj] at *
  rw [wanted_put oj b x v hlook]
  split
  · rename_i hw
    simp only [hw, if_true] at h
    rcases h with h | ⟨-, hlets⟩
    case inr => obtain ⟨_, _, h⟩ := hlets; exact h.elim
    refine .inl ?_
    unfold Oper.wp at *
    rw [execOp_put oj hsj b x v hlook]
    generalize (execOp b.eval oj).run P w = r at *
    cases r with
    | ok n w' =>
      cases n <;> simp only [Oper.upon] at h ⊢
      case value u => exact ⟨_, h, Act.put_comm b v u hdst⟩
      case skip => exact ⟨_, h, Act.put_comm b v undef hdst⟩
      case defer d => exact ⟨_, h, by rw [Act.put_defers]; exact Act.put_comm _ v undef hdst⟩
      case enter f args =>
        refine Calls.mono h fun e w'' he => ?_
        cases e with
        | returned u => exact ⟨_, he, Act.put_comm b v u hdst⟩
        | panicked c => exact he.elim
        | outgrown => obtain ⟨_, _, h⟩ := he; exact h.elim
      case row row args => exact Rows.mono h fun u w'' he => ⟨_, he, Act.put_comm b v u hdst⟩
    | halt y w' =>
      cases y <;> simp only [Oper.upon] at h ⊢
  · rename_i hw
    simp only [hw] at h
    exact ⟨_, h, Act.put_comm b v undef hdst⟩
theorem wpOp_moves {Q : Exit → Act → World → Prop} {j : Nat} {oj : Oper} {val : Nat → Value} (hj : ops[j]? = some oj) (hsj : ∀ cs b, oj.op ≠ .select cs b) :
    ∀ (L : List Nat) (hL : ∀ k ∈ L, (∀ d, dstOf ops k = some d → d ∉ oj.looksAt ops) ∧ ∀ d, dstOf ops k = some d → oj.dst ≠ some d) {K : Act → World → Prop} {b : Act} {w : World} (h : wpOp P ops (fun _ _ _ => False) j K b w),
      wpOp P ops Q j (fun a' w' => ∃ a'', K a'' w' ∧ a' = putAll ops val L a'') (putAll ops val L b) w := by
  have key : ∀ (L : List Nat) (hL : ∀ k ∈ L, (∀ d, dstOf ops k = some d → d ∉ oj.looksAt ops) ∧ ∀ d, dstOf ops k = some d → oj.dst ≠ some d) {K : Act → World → Prop} {b : Act} {w : World} (h : wpOp P ops (fun _ _ _ => False) j K b w),
      wpOp P ops (fun _ _ _ => False) j (fun a' w' => ∃ a'', K a'' w' ∧ a' = putAll ops val L a'') (putAll ops val L b) w := by
    intro L
    induction L with
    | nil => intro _ K b w h; exact wpOp_mono (fun a' w' h => ⟨a', h, rfl⟩) h
    | cons x L ih =>
      intro hL K b w h
      obtain ⟨h1, h2⟩ := hL x List.mem_cons_self
      have := ih (fun k hk => hL k (List.mem_cons_of_mem _ hk)) (wpOp_move (Q := fun _ _ _ => False) (x := dstOf ops x) (v := val x) hj h1 h2 hsj h)
      exact wpOp_mono (fun a' w' ⟨a1, ⟨a2, hk, e⟩, e2⟩ => ⟨a2, hk, by rw [e2, e]; rfl⟩) this
  intro L hL K b w h
  exact wpOp_mono (fun a' w' ⟨a1, ⟨a2, hk, e⟩, e2⟩ => ⟨a2, hk, by rw [e2, e]; rfl⟩) (wpOp_move (Q := Q) (x := none) (v := undef) hj (fun d h => by cases h) (fun d h => by cases h) hsj (key L hL h))

structure JointOK (md : Region.Mode) (ops : Array Oper) (listed : Array Bool) (J : List Nat) : Prop where
  nodup : J.Nodup
  size : listed.size = ops.size
  each : ∀ j ∈ J, j < ops.size ∧ listed.getD j true = false ∧ (∃ o, ops[j]? = some o ∧ ∀ e ∈ o.after, Region.binds md e = true → listed.getD e.on false = true ∨ e.on ∈ J ∧ e.on < j) ∧ ∀ p ∈ J, p = j ∨ apartJ md ops j p = true
  tail : ∀ k, k < ops.size → k ∈ J ∨ listed.getD k true = true ∨ (∃ p, p < ops.size ∧ predOf md ops k p = true ∧ p ∉ J ∧ listed.getD p true = false) ∨ ∀ j ∈ J, reachJ md ops J ops.size k j = true
theorem jointOK {listed : Array Bool} {J : List Nat} (h : jointB md ops listed J = true) : JointOK md ops listed J := by
  unfold jointB at h
  rw [Bool.and_eq_true, Bool.and_eq_true, Bool.and_eq_true, decide_eq_true_eq, decide_eq_true_eq, List.all_eq_true, List.all_eq_true] at h
  obtain ⟨h1, h2, h3, h4⟩ := h
  refine ⟨h1, h2, fun j hj => ?_, fun k hk => ?_⟩
  · have := h3 j hj
    rw [Bool.and_eq_true, Bool.and_eq_true, Bool.and_eq_true, decide_eq_true_eq, Bool.not_eq_true', List.all_eq_true] at this
    obtain ⟨a1, a2, a3, a4⟩ := this
    refine ⟨a1, a2, ?_, fun p hp => ?_⟩
    · obtain ⟨o, ho⟩ : ∃ o, ops[j]? = some o := ⟨_, Array.getElem?_eq_getElem a1⟩
      rw [ho] at a3
      refine ⟨o, ho, fun e he hb => ?_⟩
      obtain ⟨i, hi, rfl⟩ := Array.getElem_of_mem he
      have a3 : ∀ (i : Nat) (x : i < o.after.size), Region.binds md o.after[i] = false ∨ listed[o.after[i].on]?.getD false = true ∨ o.after[i].on ∈ J ∧ o.after[i].on < j := by simpa using a3
      have := a3 i hi
      simpa [hb] using this
    · have := a4 p hp
      simpa using this
  · have := h4 k (List.mem_range.2 hk)
    simp only [Bool.or_eq_true, List.contains_iff_mem, List.any_eq_true, List.mem_range, Bool.and_eq_true, Bool.not_eq_true', List.all_eq_true] at this
    rcases this with h | h | ⟨p, hp, h1, h2, h3⟩ | h
    · exact .inl h
    · exact .inr (.inl h)
    · exact .inr (.inr (.inl ⟨p, hp, h1, by simpa using h2, h3⟩))
    · exact .inr (.inr (.inr h))
theorem predOf_iff {i j : Nat} {o : Oper} (ho : ops[i]? = some o) : predOf md ops i j = true ↔ ∃ e ∈ o.after, Region.binds md e = true ∧ e.on = j := by
  unfold predOf
  rw [ho]
  simp only [Option.map_some, Option.getD_some, Array.any_eq_true', Bool.and_eq_true, beq_iff_eq]
theorem reach_done {J : List Nat} {f : Nat → Bool} (hdown : ∀ j ∈ J, f j = true → ∀ p ∈ J, predOf md ops j p = true → f p = true) :
    ∀ (n k j : Nat), (∀ p ∈ J, predOf md ops k p = true → f p = true) → j ∈ J → reachJ md ops J n k j = true → f j = true := by
  intro n
  induction n with
  | zero => intro k j _ _ h; cases h
  | succ n ih =>
    intro k j hk hj h
    simp only [reachJ, Bool.or_eq_true, List.any_eq_true, Bool.and_eq_true] at h
    rcases h with h | ⟨p, hp, h1, h2⟩
    · exact hk j hj h
    · exact ih p j (hdown p hp (hk p hp h1)) hj h2
theorem putAll_late {i : Nat} (val : Nat → Value) : ∀ (L : List Nat) (hne : ∀ k ∈ L, ∀ d, dstOf ops i = some d → dstOf ops k ≠ some d) (b : Act) (v : Value), putAll ops val L (b.put (dstOf ops i) v) = (putAll ops val L b).put (dstOf ops i) v := by
  intro L
  induction L with
  | nil => intro _ b v; rfl
  | cons x L ihL =>
    intro hne b v
    show putAll ops val L ((b.put (dstOf ops i) v).put (dstOf ops x) (val x)) = (putAll ops val L (b.put (dstOf ops x) (val x))).put (dstOf ops i) v
    rw [Act.put_comm b v (val x) (hne x List.mem_cons_self), ihL (fun k hk => hne k (List.mem_cons_of_mem _ hk))]
theorem wpAny_core {Q : Exit → Act → World → Prop} {J : List Nat} {V : Nat → (Nat → Value) → (Nat → Nat × Nat) → World → Prop} {w0 : World} {a0 : Act} {n : Nat} {listed : Array Bool} (hB : JointOK md ops listed J) (hsel : Region.noSelect ops = true)
    (hcong : ∀ j ∈ J, ∀ val val' iv iv' w, (∀ p, (p = j ∨ p ∈ J ∧ predOf md ops j p = true) → val p = val' p ∧ iv p = iv' p) → V j val iv w → V j val' iv' w)
    (hst : ∀ j ∈ J, ∀ val iv w w', V j val iv w → Below w.heap.size w w' → V j val iv w')
    (step : ∀ j ∈ J, ∀ w val (iv : Nat → Nat × Nat), Below w0.heap.size w0 w → (∀ p ∈ J, predOf md ops j p = true → V p val iv w) → wpOp P ops (fun _ _ _ => False) j (fun a' w' => ∃ v, a' = (putAll ops val (J.filter (predOf md ops j)) a0).put (dstOf ops j) v ∧ V j (fun k => if k = j then v else val k) (fun k => if k = j then (w.heap.size, w'.heap.size) else iv k) w' ∧ Below w.heap.size w w') (putAll ops val (J.filter (predOf md ops j)) a0) w)
    (fin : ∀ w val (iv : Nat → Nat × Nat), Below w0.heap.size w0 w → (∀ j ∈ J, V j val iv w ∧ w0.heap.size ≤ (iv j).1 ∧ (iv j).2 ≤ w.heap.size) → (∀ i ∈ J, ∀ j ∈ J, i ≠ j → (iv i).2 ≤ (iv j).1 ∨ (iv j).2 ≤ (iv i).1) → wpAny P md ops Q n (listAll listed J) (putAll ops val J a0) w) :
    ∀ (m : Nat) (f : Nat → Bool) (val : Nat → Value) (iv : Nat → Nat × Nat) (w : World), (J.filter fun k => !f k).length = m → (∀ j ∈ J, f j = true → ∀ p ∈ J, predOf md ops j p = true → f p = true) → Below w0.heap.size w0 w → (∀ j ∈ J, f j = true → V j val iv w ∧ w0.heap.size ≤ (iv j).1 ∧ (iv j).2 ≤ w.heap.size) → (∀ i ∈ J, ∀ j ∈ J, f i = true → f j = true → i ≠ j → (iv i).2 ≤ (iv j).1 ∨ (iv j).2 ≤ (iv i).1) →
      wpAny P md ops Q (n + m) (listAll listed (J.filter f)) (putAll ops val (J.filter f) a0) w := by
  have hdd : ∀ x ∈ J, ∀ y ∈ J, x ≠ y → ∀ d, dstOf ops x = some d → dstOf ops y ≠ some d := fun x hx y hy hne d hd => by
    obtain ⟨-, -, ⟨o, ho, -⟩, h⟩ := hB.each y hy
    rcases h x hx with h | h
    · exact absurd h hne
    · unfold apartJ at h
      rw [hd, ho] at h
      simp only [Bool.and_eq_true, bne_iff_ne] at h
      unfold dstOf; rw [ho]; exact h.2
  intro m
  induction m with
  | zero =>
    intro f val iv w hm hdown B hV hD
    have hall : ∀ j ∈ J, f j = true := fun j hj => by
      have := List.filter_eq_nil_iff.1 (List.length_eq_zero_iff.1 hm) j hj
      simpa using this
    rw [List.filter_eq_self.2 hall]
    exact fin w val iv B (fun j hj => hV j hj (hall j hj)) (fun i hi j hj => hD i hi j hj (hall i hi) (hall j hj))
  | succ m ih =>
    intro f val iv w hm hdown B hV hD
    have hgetF : ∀ j ∈ J, f j = false → (listAll listed (J.filter f)).getD j true = false := fun j hj hf => by
      rw [listAll_not _ _ _ (by simp [hf])]; exact (hB.each j hj).2.1
    have hgetT : ∀ j ∈ J, f j = true → (listAll listed (J.filter f)).getD j false = true := fun j hj hf =>
      listAll_mem _ _ _ (List.mem_filter.2 ⟨hj, hf⟩) _ (by rw [hB.size]; exact (hB.each j hj).1)
    have hkeep : ∀ k, listed.getD k false = true → (listAll listed (J.filter f)).getD k false = true := fun k hk => by
      by_cases h : k ∈ J.filter f
      · exact listAll_mem _ _ _ h _ (by rcases Nat.lt_or_ge k listed.size with h | h; exact h; simp [Array.getElem?_eq_none h] at hk)
      · rw [listAll_not _ _ _ h]; exact hk
    -- somebody is ready
    have hsome : ∀ j, j ∈ J → f j = false → Region.ready md ops (listAll listed (J.filter f)) ≠ [] := by
      intro j
      induction j using Nat.strongRecOn with
      | _ j ihj =>
        intro hj hf
        obtain ⟨h1, h2, ⟨o, ho, h3⟩, -⟩ := hB.each j hj
        by_cases hp : ∃ p ∈ J, p < j ∧ f p = false
        · obtain ⟨p, hp, hlt, hfp⟩ := hp
          exact ihj p hlt hp hfp
        · intro hnil
          have : j ∈ Region.ready md ops (listAll listed (J.filter f)) := mem_ready.2 ⟨hgetF j hj hf, o, ho, fun e he hb => by
            rcases h3 e he hb with h | ⟨h, hlt⟩
            · exact hkeep _ h
            · refine hgetT _ h ?_
              cases hq : f e.on with
              | true => rfl
              | false => exact absurd ⟨_, h, hlt, hq⟩ hp⟩
          rw [hnil] at this
          cases this
    obtain ⟨j0, hj0, hf0⟩ : ∃ j ∈ J, f j = false := by
      have : (J.filter fun k => !f k) ≠ [] := fun e => by rw [e] at hm; cases hm
      obtain ⟨j, hj⟩ := List.exists_mem_of_ne_nil _ this
      obtain ⟨h1, h2⟩ := List.mem_filter.1 hj
      exact ⟨j, h1, by simpa using h2⟩
    refine ⟨fun h => absurd h (hsome j0 hj0 hf0), fun i hi => ?_⟩
    obtain ⟨hun, o, ho, hpre⟩ := mem_ready.1 hi
    have hilt : i < ops.size := (Array.getElem?_eq_some_iff.1 ho).1
    have hpJ : ∀ p ∈ J, predOf md ops i p = true → f p = true := fun p hp h => by
      obtain ⟨e, he, hb, rfl⟩ := (predOf_iff ho).1 h
      have := hpre e he hb
      cases hq : f e.on with
      | true => rfl
      | false =>
        have h2 := hgetF _ hp hq
        have hs : e.on < (listAll listed (J.filter f)).size := by rw [listAll_size, hB.size]; exact (hB.each _ hp).1
        simp [hs] at h2 this
        rw [h2] at this; cases this
    have hiJ : i ∈ J := by
      rcases hB.tail i hilt with h | h | ⟨p, hp, h1, h2, h3⟩ | h
      · exact h
      · exfalso
        by_cases hm2 : i ∈ J.filter f
        · exact absurd (List.mem_filter.1 hm2).1 (fun h => by rw [listAll_mem _ _ _ hm2 _ (by rw [hB.size]; exact hilt)] at hun; cases hun)
        · rw [listAll_not _ _ _ hm2, h] at hun; cases hun
      · exfalso
        obtain ⟨e, he, hb, rfl⟩ := (predOf_iff ho).1 h1
        have := hpre e he hb
        rw [listAll_not _ _ _ (fun h => h2 (List.mem_filter.1 h).1)] at this
        have hs : e.on < listed.size := by rw [hB.size]; exact hp
        simp [hs] at h3 this
        rw [h3] at this; cases this
      · exact absurd (reach_done hdown _ i j0 hpJ hj0 (h j0 hj0)) (by rw [hf0]; decide)
    have hfi : f i = false := by
      cases hq : f i with
      | false => rfl
      | true => rw [listAll_mem _ _ _ (List.mem_filter.2 ⟨hiJ, hq⟩) _ (by rw [hB.size]; exact hilt)] at hun; cases hun
    -- the operation, behind its own predecessors alone
    have h0 := step i hiJ w val iv B (fun p hp h => (hV p hp (hpJ p hp h)).1)
    have hL : ∀ k ∈ (J.filter f).filter (fun k => !predOf md ops i k), (∀ d, dstOf ops k = some d → d ∉ o.looksAt ops) ∧ ∀ d, dstOf ops k = some d → o.dst ≠ some d := fun k hk => by
      obtain ⟨hk1, hk2⟩ := List.mem_filter.1 hk
      obtain ⟨hk3, hk4⟩ := List.mem_filter.1 hk1
      obtain ⟨-, -, -, h⟩ := hB.each i hiJ
      rcases h k hk3 with h | h
      · subst h; rw [hfi] at hk4; cases hk4
      · unfold apartJ at h
        have hk2 : predOf md ops i k = false := by simpa using hk2
        refine ⟨fun d hd => ?_, fun d hd => ?_⟩ <;> rw [hd, ho] at h <;> simp [hk2] at h
        · exact h.1
        · exact h.2
    have h1 := wpOp_moves (Q := Q) (val := val) ho (fun cs b => Region.noSelect_spec hsel i o cs b ho) _ hL h0
    have hpf : (J.filter f).filter (predOf md ops i) = J.filter (predOf md ops i) := by
      rw [List.filter_filter]
      refine List.filter_congr (fun k hk => ?_)
      cases hq : predOf md ops i k with
      | false => rfl
      | true => rw [hpJ k hk hq]; rfl
    have hperm : (J.filter (predOf md ops i) ++ (J.filter f).filter (fun k => !predOf md ops i k)).Perm (J.filter f) := by
      rw [← hpf]; exact List.filter_append_perm _ _
    have hmemJ : ∀ {g : Nat → Bool} {x : Nat}, x ∈ J.filter g → x ∈ J := fun h => (List.mem_filter.1 h).1
    have hput : ∀ a : Act, putAll ops val ((J.filter f).filter (fun k => !predOf md ops i k)) (putAll ops val (J.filter (predOf md ops i)) a) = putAll ops val (J.filter f) a := fun a => by
      rw [← putAll_append]
      refine putAll_perm hperm (fun x hx y hy => hdd x ?_ y ?_) a
      · exact hmemJ (hperm.mem_iff.1 hx)
      · exact hmemJ (hperm.mem_iff.1 hy)
    rw [hput] at h1
    refine wpOp_mono ?_ h1
    rintro a' w' ⟨a'', ⟨v, rfl, hv, B1⟩, rfl⟩
    have hfil := filter_add hB.nodup hiJ hfi
    have hset : (listAll listed (J.filter f)).setIfInBounds i true = listAll listed (J.filter fun k => f k || k == i) := by
      rw [← listAll_snoc]; exact (listAll_perm hfil listed).symm
    have hval : ∀ k ∈ J.filter f, val k = (if k = i then v else val k) := fun k hk => by
      have : k ≠ i := fun e => by subst e; have := (List.mem_filter.1 hk).2; rw [hfi] at this; cases this
      rw [if_neg this]
    have hact : putAll ops val ((J.filter f).filter (fun k => !predOf md ops i k)) ((putAll ops val (J.filter (predOf md ops i)) a0).put (dstOf ops i) v) = putAll ops (fun k => if k = i then v else val k) (J.filter fun k => f k || k == i) a0 := by
      rw [putAll_perm hfil (fun x hx y hy => hdd x (hmemJ hx) y (hmemJ hy)), putAll_append, ← putAll_congr hval, ← hput]
      show _ = (putAll ops val _ (putAll ops val _ a0)).put (dstOf ops i) (if i = i then v else val i)
      rw [if_pos rfl]
      generalize putAll ops val (J.filter (predOf md ops i)) a0 = b
      have hne : ∀ k ∈ (J.filter f).filter (fun k => !predOf md ops i k), ∀ d, dstOf ops i = some d → dstOf ops k ≠ some d := fun k hk => by
        have h1 := List.mem_filter.1 (List.mem_filter.1 hk).1
        refine hdd i hiJ k h1.1 (fun e => ?_)
        subst e; rw [hfi] at h1; cases h1.2
      exact putAll_late val _ hne b v
    rw [hset, hact]
    refine ih (fun k => f k || k == i) (fun k => if k = i then v else val k) (fun k => if k = i then (w.heap.size, w'.heap.size) else iv k) w' ?_ ?_ (B.trans (B1.mono B.size)) ?_ ?_
    · have h3 := hfil.length_eq
      rw [List.length_append] at h3
      have c1 := (List.filter_append_perm f J).length_eq
      have c2 := (List.filter_append_perm (fun k => f k || k == i) J).length_eq
      rw [List.length_append] at c1 c2
      simp only [List.length_singleton] at h3
      omega
    · intro j hj hfj p hp hpp
      simp only [Bool.or_eq_true, beq_iff_eq] at hfj ⊢
      rcases hfj with h | h
      · exact .inl (hdown j hj h p hp hpp)
      · subst h; exact .inl (hpJ p hp hpp)
    · intro j hj hfj
      by_cases e : j = i
      · subst e; simp only [if_true]; exact ⟨hv, B.size, Nat.le_refl _⟩
      · simp only [if_neg e]
        have : f j = true := by simpa [e] using hfj
        obtain ⟨q1, q2, q3⟩ := hV j hj this
        refine ⟨hcong j hj val _ iv _ w' (fun p hp => ?_) (hst j hj _ _ w w' q1 B1), q2, Nat.le_trans q3 B1.size⟩
        have hpi : p ≠ i := fun e2 => by
          subst e2
          rcases hp with h | ⟨h1, h2⟩
          · exact e h.symm
          · rw [hdown j hj this p h1 h2] at hfi; cases hfi
        simp only [if_neg hpi, and_self]
    · intro j hj k hk hfj hfk hne
      by_cases e : j = i
      · have e2 : k ≠ i := fun h => hne (e.trans h.symm)
        have h2 : f k = true := by simpa [e2] using hfk
        simp only [if_pos e, if_neg e2]
        exact .inr (hV k hk h2).2.2
      · have h1 : f j = true := by simpa [e] using hfj
        by_cases e2 : k = i
        · simp only [if_pos e2, if_neg e]
          exact .inl (hV j hj h1).2.2
        · have h2 : f k = true := by simpa [e2] using hfk
          simp only [if_neg e2, if_neg e]
          exact hD j hj k hk h1 h2 hne
end
end Go.Proofs.YtmfammgdcdlceaaDoor
