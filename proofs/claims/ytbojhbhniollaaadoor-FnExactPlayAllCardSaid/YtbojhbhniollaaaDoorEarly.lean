/-
  A region that draws its order: a plain move that is ready at the start may be taken to run first.
-/
import Derived.Test.YtbojhbhniollaaaDoorM6
namespace Go.Proofs.YtbojhbhniollaaaDoor
open Go.RowKit
set_option linter.unusedVariables false
set_option linter.unusedSimpArgs false

section
variable {P : Program} {ops : Array Oper} {md : Region.Mode}

def earlyB (md : Region.Mode) (ops : Array Oper) (e d : Nat) (ss : List Nat) : Bool := (List.range ops.size).all fun i => i == e || ((ops[i]?).map fun o => ss.all (fun s => o.dst != some s) && (predOf md ops i e || (!(o.looksAt ops).contains d && o.dst != some d))).getD false
/-- What an operation does behind a put that it does not look at, it does ahead of it. -/
theorem wpOp_unmove {Q Q' : Exit → Act → World → Prop} (hQ : ∀ x a w, Q' x a w → x = .normal) {j : Nat} {oj : Oper} {x : Option Tmp} {v : Value} {ss : List Nat} (hj : ops[j]? = some oj) (hlook : ∀ d, x = some d → d ∉ oj.looksAt ops) (hdst : ∀ d, x = some d → oj.dst ≠ some d) (hs : ∀ s ∈ ss, oj.dst ≠ some s)
    (hsj : ∀ cs b, oj.op ≠ .select cs b) {K : Act → World → Prop} {b : Act} {w : World} (h : wpOp P ops Q' j K (b.put x v) w) : wpOp P ops Q j (fun a' w' => K (a'.put x v) w' ∧ ∀ s ∈ ss, a'.eval (.tmp s) = b.eval (.tmp s)) b w := by
  have hev : ∀ (c : Act) (u : Value), ∀ s ∈ ss, (c.put oj.dst u).eval (.tmp s) = c.eval (.tmp s) := fun c u s hm => Act.eval_put (fun d hd e => hs s hm (by rw [hd]; exact congrArg some (Operand.tmp.inj e).symm))
  unfold wpOp at *
  simp only [hj] at *
  rw [wanted_put oj b x v hlook] at h
  split
  · rename_i hw
    simp only [hw, if_true] at h
    rcases h with h | ⟨-, hlets⟩
    case inr =>
      obtain ⟨a, w, h⟩ := hlets
      have := hQ _ _ _ h
      cases this
    refine .inl ?_
    unfold Oper.wp at *
    rw [execOp_put oj hsj b x v hlook] at h
    generalize (execOp b.eval oj).run P w = r at *
    cases r with
    | ok n w' =>
      cases n <;> simp only [Oper.upon] at h ⊢
      case value u => exact ⟨by rw [Act.put_comm b u v (fun d hd e => hdst d e hd)]; exact h, hev _ _⟩
      case skip => exact ⟨by rw [Act.put_comm b undef v (fun d hd e => hdst d e hd)]; exact h, hev _ _⟩
      case defer d =>
        refine ⟨?_, ?_⟩
        · rw [Act.put_comm _ undef v (fun d hd e => hdst d e hd), ← Act.put_defers]; exact h
        · intro s hm; rw [hev _ _ s hm]; rfl
      case enter f args =>
        refine Calls.mono h fun e w'' he => ?_
        cases e with
        | returned u => exact ⟨by rw [Act.put_comm b u v (fun d hd e => hdst d e hd)]; exact he, hev _ _⟩
        | panicked c => have := hQ _ _ _ he; cases this
        | outgrown =>
          obtain ⟨a, w, h⟩ := he
          have := hQ _ _ _ h
          cases this
      case row row args => exact Rows.mono h fun u w'' he => ⟨by rw [Act.put_comm b u v (fun d hd e => hdst d e hd)]; exact he, hev _ _⟩
    | halt y w' =>
      cases y <;> simp only [Oper.upon] at h ⊢
      case panic u => have := hQ _ _ _ h; cases this
  · rename_i hw
    simp only [hw] at h
    exact ⟨by rw [Act.put_comm b undef v (fun d hd e => hdst d e hd)]; exact h, hev _ _⟩
theorem wpOp_weaken {Q Q' : Exit → Act → World → Prop} (hQ : ∀ x a w, Q' x a w → x = .normal ∧ Q x a w) {j : Nat} {K K' : Act → World → Prop} (hK : ∀ a w, K a w → K' a w) {b : Act} {w : World} (h : wpOp P ops Q' j K b w) : wpOp P ops Q j K' b w := by
  unfold wpOp at *
  cases hj : ops[j]? with
  | none => simp only [hj] at *; exact hK _ _ h
  | some oj =>
    simp only [hj] at *
    split
    · rename_i hw
      simp only [hw, if_true] at h
      rcases h with h | ⟨-, hlets⟩
      case inr =>
        obtain ⟨a, w, h⟩ := hlets
        have := (hQ _ _ _ h).1
        cases this
      refine .inl ?_
      unfold Oper.wp at *
      generalize (execOp b.eval oj).run P w = r at *
      cases r with
      | ok n w' =>
        cases n <;> simp only [Oper.upon] at h ⊢
        case value u => exact hK _ _ h
        case skip => exact hK _ _ h
        case defer d => exact hK _ _ h
        case enter f args =>
          refine Calls.mono h fun e w'' he => ?_
          cases e with
          | returned u => exact hK _ _ he
          | panicked c => have := (hQ _ _ _ he).1; cases this
          | outgrown =>
            obtain ⟨a, w, h⟩ := he
            have := (hQ _ _ _ h).1
            cases this
        case row row args => exact Rows.mono h fun u w'' he => hK _ _ he
      | halt y w' =>
        cases y <;> simp only [Oper.upon] at h ⊢
        case panic u => have := (hQ _ _ _ h).1; cases this
    · rename_i hw
      simp only [hw] at h
      exact hK _ _ h
theorem wpAny_weaken {Q Q' : Exit → Act → World → Prop} (hQ : ∀ x a w, Q' x a w → x = .normal ∧ Q x a w) : ∀ (n : Nat) (listed : Array Bool) (a : Act) (w : World), wpAny P md ops Q' n listed a w → wpAny P md ops Q n listed a w := by
  intro n
  induction n with
  | zero => intro listed a w h; exact ⟨h.1, (hQ _ _ _ h.2).2⟩
  | succ n ih => intro listed a w h; exact ⟨fun e => (hQ _ _ _ (h.1 e)).2, fun i hi => wpOp_weaken hQ (fun a w h => ih _ a w h) (h.2 i hi)⟩
theorem ready_set {listed : Array Bool} {i k : Nat} (hi : i ∈ Region.ready md ops listed) (hne : i ≠ k) (hk : k < listed.size) : i ∈ Region.ready md ops (listed.setIfInBounds k true) := by
  obtain ⟨h1, o, ho, h2⟩ := mem_ready.1 hi
  refine mem_ready.2 ⟨by rw [getD_set_ne true (Ne.symm hne)]; exact h1, o, ho, fun e he hb => ?_⟩
  by_cases hek : e.on = k
  · rw [hek]; simp [hk]
  · rw [getD_set_ne false (Ne.symm hek)]; exact h2 e he hb
theorem wpAny_early {e d : Nat} {ss : List Nat} {vs : Nat → Value} {v : Value} {oe : Oper} (he : ops[e]? = some oe) (hB : earlyB md ops e d ss = true) (hsel : Region.noSelect ops = true) {Q : Exit → Act → World → Prop}
    (hop : ∀ (K : Act → World → Prop) (a : Act) (w : World), (∀ s ∈ ss, a.eval (.tmp s) = vs s) → K (a.put (some d) v) w → wpOp P ops Q e K a w) :
    ∀ (n : Nat) (listed : Array Bool) (a : Act) (w : World), listed.size = ops.size → e ∈ Region.ready md ops listed → (∀ s ∈ ss, a.eval (.tmp s) = vs s) → wpAny P md ops (fun x a w => x = .normal ∧ Q x a w) n (listed.setIfInBounds e true) (a.put (some d) v) w → wpAny P md ops Q (n + 1) listed a w := by
  have hB' : ∀ i o, ops[i]? = some o → i ≠ e → (∀ s ∈ ss, o.dst ≠ some s) ∧ (predOf md ops i e = true ∨ (d ∉ o.looksAt ops ∧ o.dst ≠ some d)) := fun i o ho hne => by
    have := List.all_eq_true.1 hB i (List.mem_range.2 (Array.getElem?_eq_some_iff.1 ho).1)
    rw [ho] at this
    simpa [hne] using this
  intro n
  induction n with
  | zero =>
    intro listed a w hsz hr hv h
    refine ⟨fun hn => (by rw [hn] at hr; cases hr), fun i hi => ?_⟩
    by_cases hie : i = e
    · subst hie
      exact hop _ a w hv (by exact wpAny_weaken (fun x a w h => h) _ _ _ _ h)
    · have hlt : e < listed.size := by rw [hsz]; exact (Array.getElem?_eq_some_iff.1 he).1
      have := ready_set hi hie hlt
      rw [h.1] at this
      cases this
  | succ m ih =>
    intro listed a w hsz hr hv h
    refine ⟨fun hn => (by rw [hn] at hr; cases hr), fun i hi => ?_⟩
    by_cases hie : i = e
    · subst hie
      exact hop _ a w hv (by exact wpAny_weaken (fun x a w h => h) _ _ _ _ h)
    · have hlt : e < listed.size := by rw [hsz]; exact (Array.getElem?_eq_some_iff.1 he).1
      have h2 := h.2 i (ready_set hi hie hlt)
      obtain ⟨hun, o, ho, hpre⟩ := mem_ready.1 hi
      obtain ⟨c1, c2⟩ := hB' i o ho hie
      have hne2 : predOf md ops i e ≠ true := fun hp => by
        obtain ⟨e2, he2, hb2, hon⟩ := (predOf_iff ho).1 hp
        have h3 := hpre e2 he2 hb2
        obtain ⟨h4, -⟩ := mem_ready.1 hr
        rw [hon] at h3
        simp [hlt] at h3 h4
        rw [h4] at h3; cases h3
      obtain ⟨c3, c4⟩ := c2.resolve_left hne2
      have h5 := wpOp_unmove (Q := Q) (ss := ss) (fun x a w h => h.1) ho (fun d' hd' => by obtain rfl := Option.some.inj hd'; exact c3) (fun d' hd' => by obtain rfl := Option.some.inj hd'; exact c4) c1 (fun cs b => Region.noSelect_spec hsel i o cs b ho) h2
      refine wpOp_mono ?_ h5
      rintro a' w' ⟨hk, hev⟩
      refine ih (listed.setIfInBounds i true) a' w' (by simpa using hsz) (ready_set hr (Ne.symm hie) (by rw [hsz]; exact (Array.getElem?_eq_some_iff.1 ho).1)) (fun s hm => (hev s hm).trans (hv s hm)) ?_
      rw [Array.setIfInBounds_comm _ _ hie]
      exact hk
/-- Two operations are left that may come up in either order. -/
theorem wpAny_two {Q : Exit → Act → World → Prop} {i k : Nat} {oi ok : Oper} {fuel : Nat} {listed : Array Bool} {a : Act} {w : World} (hr : Region.ready md ops listed = [i, k]) (hoi : ops[i]? = some oi) (hok : ops[k]? = some ok)
    (h1 : wpOp P ops Q i (wpAny P md ops Q fuel (listed.setIfInBounds i true)) a w) (h2 : wpOp P ops Q k (wpAny P md ops Q fuel (listed.setIfInBounds k true)) a w) : wpAny P md ops Q (fuel + 1) listed a w :=
  ⟨fun e => (by rw [hr] at e; cases e), fun j hj => by
    rw [hr] at hj
    rcases List.mem_cons.1 hj with rfl | hj
    · exact h1
    · obtain rfl : j = k := by simpa using hj
      exact h2⟩
theorem wpAny_first {e d : Nat} {ss : List Nat} {vs : Nat → Value} {v : Value} {oe : Oper} {Q : Exit → Act → World → Prop} {n : Nat} {listed : Array Bool} {a : Act} {w : World} (he : ops[e]? = some oe) (hE : earlyB md ops e d ss = true) (hsel : Region.noSelect ops = true) (hs : listed.size = ops.size) (hr : (Region.ready md ops listed).contains e = true) (hvs : ∀ s ∈ ss, a.eval (.tmp s) = vs s)
    (hop : ∀ (K : Act → World → Prop) (a : Act) (w : World), (∀ s ∈ ss, a.eval (.tmp s) = vs s) → K (a.put (some d) v) w → wpOp P ops Q e K a w)
    (h : wpAny P md ops (fun x a w => x = .normal ∧ Q x a w) n (listed.setIfInBounds e true) (a.put (some d) v) w) : wpAny P md ops Q (n + 1) listed a w :=
  wpAny_early he hE hsel hop n listed a w hs (List.contains_iff_mem.1 hr) hvs h
theorem hop_of {Q : Exit → Act → World → Prop} {e d : Nat} {oe : Oper} (he : ops[e]? = some oe) (hg : oe.guard = none) (hd : oe.dst = some d) {K : Act → World → Prop} {a : Act} {w : World} {v : Value} (hx : (execOp a.eval oe).run P w = .ok (.value v) w) (hK : K (a.put (some d) v) w) : wpOp P ops Q e K a w := by
  unfold wpOp
  simp only [he]
  have hw : Region.wanted oe (yielded ops a.tmps) = true := by simp [Region.wanted, hg]
  rw [if_pos hw]
  refine .inl ?_
  unfold Oper.wp
  rw [hx]
  show K (a.put oe.dst v) w
  rw [hd]; exact hK
theorem exec_move {oe : Oper} {a : Act} {w : World} (s : Nat) (h : oe.op = .move (.tmp s)) : (execOp a.eval oe).run P w = .ok (.value (a.eval (.tmp s))) w := by
  simp [execOp, h]
  try rfl
/-- **A region that draws its order, a plain operation first**: then the table's operations in whatever order, then the rest. -/
theorem wp_region_early {Q : Exit → Act → World → Prop} {id : Nat} {a : Act} {w : World} (e d : Nat) (ss : List Nat) (vs : Nat → Value) (v : Value) {oe : Oper} (T : List Row) (n : Nat) (hm : P.follows .mixedOrders = true) (he : ops[e]? = some oe) (hE : earlyB .any ops e d ss = true) (hr : (Region.ready .any ops (Array.replicate ops.size false)).contains e = true) (hvs : ∀ s ∈ ss, a.eval (.tmp s) = vs s)
    (hop : ∀ (K : Act → World → Prop) (a : Act) (w : World), (∀ s ∈ ss, a.eval (.tmp s) = vs s) → K (a.put (some d) v) w → wpOp P ops Q e K a w)
    (hn : ops.size = n + T.length + 1) (hB : jointB .any ops ((Array.replicate ops.size false).setIfInBounds e true) (T.map (·.1)) = true) (hT : tabB .any ops T = true) (hsel : Region.noSelect ops = true) {L : Array Bool} (hL : listAll ((Array.replicate ops.size false).setIfInBounds e true) (T.map (·.1)) = L)
    (step : StepsT P .any ops w (a.put (some d) v) T T)
    (fin : ∀ w' val (iv : Nat → Nat × Nat), Below w.heap.size w w' → (∀ e ∈ T, e.2.2.means val (val e.1) (iv e.1).1 (iv e.1).2 w' ∧ w.heap.size ≤ (iv e.1).1 ∧ (iv e.1).2 ≤ w'.heap.size) → (∀ i ∈ T.map (·.1), ∀ j ∈ T.map (·.1), i ≠ j → (iv i).2 ≤ (iv j).1 ∨ (iv j).2 ≤ (iv i).1) → wpAny P .any ops (fun x a w => x = .normal ∧ Q x a w) n L (putT val T (a.put (some d) v)) w') :
    (Code.region id ops true).wp P Q a w :=
  wp_region_any hm (by
    have h := wpAny_table (P := P) (Q := fun x a w => x = .normal ∧ Q x a w) T n (w0 := w) (ws := w.drew) (a0 := a.put (some d) v) ((Below.refl _ _).drew) hB hT hsel step (by rw [hL]; exact fin)
    have h2 := wpAny_early (Q := Q) he hE hsel hop (n + T.length) (Array.replicate ops.size false) a w.drew (by simp) (List.contains_iff_mem.1 hr) hvs h
    rw [← hn] at h2
    exact h2)
end
end Go.Proofs.YtbojhbhniollaaaDoor
