/-
  A region of loads, moves, indices and stores inside a round of a range over a function: it goes as outside. No program in this text.
-/
import Derived.OrdersIn
import Derived.OrdersHeld
import Derived.Deep.RegionHeld
import Derived.Laws.Sem
namespace Go.Proofs.YtaginoiiomaheaaDoor

/-- A load, a move, an index or a store. -/
def tameOp : Op → Bool
  | .load .. => true
  | .move .. => true
  | .assign .. => true
  | .indexAddr .. => true
  | .store .. => true
  | _ => false

theorem tame_run {P : Program} (o : Oper) (ρ : Operand → Value) (w : World) (h : tameOp o.op = true) :
    (∃ v w', (execOp ρ o).run P w = .ok (.value v) w') ∨ (∃ w', (execOp ρ o).run P w = .ok .skip w') ∨ (∃ x w', (execOp ρ o).run P w = .halt x w') := by
  unfold execOp
  cases ho : o.op <;> simp only [ho, tameOp, Bool.false_eq_true] at h
  case load t x =>
    cases hr : (Instr.loadAt t (ρ x)).run P w with
    | ok v w' => exact .inl ⟨v, w', by rw [Sem.run_bind, hr]; rfl⟩
    | halt x w' => exact .inr (.inr ⟨x, w', by rw [Sem.run_bind, hr]; rfl⟩)
  case move x => exact .inl ⟨_, _, rfl⟩
  case assign x => exact .inl ⟨_, _, rfl⟩
  case indexAddr t x y =>
    cases hr : (Instr.indexAt t (ρ x) (ρ y)).run P w with
    | ok v w' => exact .inl ⟨v, w', by rw [Sem.run_bind, hr]; rfl⟩
    | halt x w' => exact .inr (.inr ⟨x, w', by rw [Sem.run_bind, hr]; rfl⟩)
  case store t x y =>
    cases hr : (Instr.storeAt t (ρ x) (ρ y)).run P w with
    | ok v w' => exact .inr (.inl ⟨w', by rw [Sem.run_bind, hr]; rfl⟩)
    | halt x w' => exact .inr (.inr ⟨x, w', by rw [Sem.run_bind, hr]; rfl⟩)

theorem tame_about {P : Program} (o : Oper) (ρ : Operand → Value) (w : World) (h : tameOp o.op = true) : o.about P w ρ = none := by
  unfold Oper.about
  cases ho : o.op <;> simp [ho, tameOp] at h ⊢

theorem tame_defer (o : Oper) (h : tameOp o.op = true) : ∀ c, o.op ≠ .defer c := by
  intro c e
  rw [e] at h
  simp [tameOp] at h

theorem tame_wp {F : Fence} {n : Nat} {P : Program} {o : Oper} {a : Act} {w : World} {K : Act → World → Prop} {Q : Exit → Act → World → Prop} (h : tameOp o.op = true) (hw : o.wp P a w K Q) : o.wpIn F n P a w K Q := by
  refine ⟨fun f hf => (by rw [tame_about o a.eval w h] at hf; cases hf), ?_⟩
  rw [Oper.semAt_eq _ _ _ (tame_defer o h)]
  unfold Oper.wp at hw
  rcases tame_run (P := P) o a.eval w h with ⟨v, w', e⟩ | ⟨w', e⟩ | ⟨x, w', e⟩ <;> rw [e] at hw ⊢
  · exact hw
  · exact hw
  · cases x <;> exact hw

theorem tame_any {F : Fence} {n : Nat} {P : Program} {md : Region.Mode} {ops : Array Oper} {Q : Exit → Act → World → Prop} (hQ : ¬ LetsOut Q) (ht : ∀ (i : Nat) (o : Oper), ops[i]? = some o → tameOp o.op = true) :
    ∀ (fuel : Nat) (listed : Array Bool) (a : Act) (w : World), wpAny P md ops Q fuel listed a w → wpAnyIn F n P md ops Q fuel listed a w
  | 0, _, _, _, h => h
  | fuel + 1, listed, a, w, h => by
    refine ⟨h.1, fun i hi => ?_⟩
    have h2 := h.2 i hi
    unfold wpOp at h2
    unfold wpOpIn
    cases ho : ops[i]? with
    | none => rw [ho] at h2; exact tame_any hQ ht fuel _ _ _ h2
    | some o =>
      rw [ho] at h2
      dsimp only at h2 ⊢
      split at h2
      · rename_i hw
        rw [if_pos hw]
        rcases h2 with h2 | h2
        · exact Oper.wpIn_mono (fun a' w' h' => tame_any hQ ht fuel _ a' w' h') (tame_wp (ht i o ho) h2)
        · exact absurd h2.2 hQ
      · rename_i hw
        rw [if_neg hw]
        exact ⟨fun f hf => (by rw [tame_about o a.eval w (ht i o ho)] at hf; cases hf), tame_any hQ ht fuel _ _ _ h2⟩

theorem tame_all {ops : Array Oper} (h : ops.all (fun o => tameOp o.op) = true) : ∀ (i : Nat) (o : Oper), ops[i]? = some o → tameOp o.op = true := by
  intro i o hi
  obtain ⟨hlt, he⟩ := Array.getElem?_eq_some_iff.1 hi
  have := Array.all_eq_true.1 h i hlt
  rw [he] at this
  exact this

/-- **A region that draws, of loads, moves, indices and stores, in a round: S names the cells that stay.** -/
theorem region_tame {F : Fence} {n : Nat} {P : Program} {id : Nat} {ops : Array Oper} {Q : Exit → Act → World → Prop} {a : Act} {w : World} (S : World → Prop) (hQ : ¬ LetsOut Q) (ht : ops.all (fun o => tameOp o.op) = true) (hm : P.follows .mixedOrders = true) (hS : S w.drew)
    (h : S w.drew → wpAnyH P .any ops Q S ops.size (Array.replicate ops.size false) a w.drew) : (Code.region id ops true).wpIn F n P Q a w :=
  wpIn_region_any hm (tame_any hQ (tame_all ht) _ _ _ _ (wpAny_of_held _ _ _ _ (h hS)))
end Go.Proofs.YtaginoiiomaheaaDoor
