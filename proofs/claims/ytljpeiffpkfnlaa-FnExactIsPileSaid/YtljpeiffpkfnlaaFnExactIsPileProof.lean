/-
  For every Pile the law FnExactIsPile returns true and leaves its arguments as they were; no condition.
-/
import Derived.Test.YtljpeiffpkfnlaaRows
import Derived.WalkKit
import Derived.ProofKit
import Derived.OpenShut
import Derived.ShutString
import Derived.ChangeOld
import Derived.Below
import Derived.WalkLawsBesides
import Derived.WalkSpells
import Derived.Test.YtljpeiffpkfnlaaSl
import Derived.Test.YtljpeiffpkfnlaaFnExactIsPileWalk
import Derived.Test.YtljpeiffpkfnlaaOpenF
import Derived.Test.YtljpeiffpkfnlaaSPile
namespace Go.Proofs.Ytljpeiffpkfnlaa.fnExactIsPile
open Go.ChangeShapes Go.WideShapes Go.ChangeAt Go.RowKit
open Go.ChangeMaps (open_string shut_string)
set_option linter.unusedVariables false

theorem own : ownKnob Try.prog.godebug = none := by kernel_rfl
theorem laidOut : laidOutB Try.prog = true := by kernel_rfl

set_option maxRecDepth 100000 in
theorem open_Pile {H : Type} {enc : TypeId × Value → H} {W : World} {base : Nat} {v : Value} {d : DataW H} {p : List MemPlace} (hv0 : Value.okWide Try.prog W .any base 24 v) (h : DataW.Trod enc Try.prog W 0 (fun _ => true) true 24 v d p) : ∃ D, RdPile W v D := by
    obtain ⟨cs, n, hv, hl, hc⟩ := open_fields Try.underlying24 (by kernel_rfl) (by kernel_rfl) hv0 h
    subst hv
    match cs, hl with
    | [c0, c1], _ =>
      obtain ⟨y0, t0⟩ := hc 0 _ c0 rfl rfl
      obtain ⟨z0, b0, r0⟩ : ∃ z b, RdAt .i64 W c0 z b := by
        rcases open_ints Try.underlying22 Try.underlying3 (by kernel_rfl) t0 with ⟨hcs, _⟩ | ⟨x, l, c, zs, hcs, _, hl, hm, hz, _, hcell, hwz⟩
        · obtain rfl : c0 = .slice none 0 0 := by simpa using hcs
          obtain ⟨b, hr, -⟩ := (show IsRow .i64 W none 0 0 [] from .inl ⟨rfl, rfl, rfl, rfl⟩).rd
          exact ⟨_, b, hr⟩
        · obtain rfl : c0 = .slice (some x) l c := by simpa using hcs
          obtain ⟨b, hr, -⟩ := (show IsRow .i64 W (some x) l c zs from .inr ⟨_, rfl, hl, hm, by simpa using hz, hcell, hwz⟩).rd
          exact ⟨_, b, hr⟩
      obtain ⟨y1, t1⟩ := hc 1 _ c1 rfl rfl
      obtain ⟨x1, e1, -, wf1⟩ := DataW.trod_int Try.underlying3 t1
      obtain rfl : c1 = .int .i64 x1 := by simpa using e1
      exact ⟨⟨z0, x1⟩, c0, b0, rfl, r0, wf1⟩

theorem walk (v0 : Value) (D0 : MPile) (w : World) (w0 : RdPile w v0 D0) :
    Calls Try.prog 3 #[v0] w fun e w' => e = .returned (.bool true) ∧ Below w.heap.size w w' := by
  exact fnExactIsPile_walk _ _ w w0

set_option maxRecDepth 100000 in
theorem lifted (os : Os) (started : os.Started) (H : Type) (enc : TypeId × Value → H) :
    ReturnsInHanded {} Try.checked os 3 .any (Rows.fnExactIsPileSpec.pre6 enc Try.prog Try.f3 Rows.fnExactIsPileRow.domain false) (Rows.fnExactIsPileSpec.post enc Try.prog Try.f3 false true false false) := by
  refine returnsInHanded_of_change (C := Try.checked) own started (by kernel_rfl) Try.func3
    (ChangeSpec.witness6 (enc := enc) (C := Try.checked) false ⟨#[], #[.agg #[.slice none 0 0, .int .i64 0]], []⟩ 8 (by kernel_rfl) (by kernel_rfl) (by kernel_rfl) (by kernel_rfl)) ?_
  intro W base args ds gs before hval0 hW hcnd _
  have hval : ∀ (j : Nat) t v, Try.f3.params[j]? = some t → args[j]? = some v → Value.okWide Try.prog W .any base t v := hval0
  have hW' := hW
  obtain ⟨p, q, hA0, hV, rfl, hfz, hnd⟩ := hW
  have hA : DataW.TrodAll enc Try.prog W 0 (fun _ => true) true Try.f3.params.toList args.toList ds p := hA0
  rw [Try.params3] at hA hval
  obtain ⟨v0, vs0, d0, ds0, p0, q0, hargs, rfl, rfl, h0, r0⟩ := trodAll_cons hA
  obtain ⟨rfl, rfl, rfl⟩ := trodAll_nil r0
  obtain rfl : args = #[v0] := by cases args; simp_all
  obtain ⟨rfl, rfl⟩ := trodVars_none hV
  have k0 := h0
  have lt0 : ∀ x ∈ p0, x.block < W.heap.size := by obtain ⟨m, hm⟩ := k0; exact DataW.trod_lt m _ _ _ hm
  obtain ⟨D0, w0⟩ := open_Pile (hval 0 24 v0 rfl rfl) h0
  clear hA0 hval0
  refine (walk v0 D0 W w0).mono fun e W' ⟨he, bel⟩ => ?_
  subst he
  exact ⟨_, rfl, _, _, _, [], _, [], hW', trodAll_mk1 (shut_bool Try.underlying4 _), (trodAll_cons_mk (Below.trod laidOut (by kernel_rfl) (of_decide_eq_true (by kernel_rfl)) k0 bel lt0) trodAll_mk0), rfl, bel.frame _, fun h => by cases h⟩

theorem over : Rows.fnExactIsPileRow.holds Try.pinned (OpenSpec.ofChange Rows.fnExactIsPileSpec) :=
  OpenClaim.holds_of_wide 3 Try.f3 rfl rfl rfl rfl rfl rfl rfl ⟨rfl, rfl, rfl, rfl, rfl⟩ rfl rfl rfl rfl rfl (by kernel_rfl) Try.func3 (by kernel_rfl)
    (of_decide_eq_true (by kernel_rfl)) (by unfold Func.isWrapper; first | (rw [if_pos (by decide +kernel)]; kernel_rfl) | (rw [if_neg (by decide +kernel)]; exact ⟨rfl, rfl⟩))
    (fun os started H enc _ => lifted os started H enc)

/-- The statement. -/
theorem proved : Rows.FnExactIsPileSaid := over
#print axioms proved
end Go.Proofs.Ytljpeiffpkfnlaa.fnExactIsPile
