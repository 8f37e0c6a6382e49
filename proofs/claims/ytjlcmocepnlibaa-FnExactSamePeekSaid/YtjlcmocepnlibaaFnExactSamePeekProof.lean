/-
  For every Peek and every Peek the law FnExactSamePeek returns true and leaves its arguments as they were; no condition.
-/
import Derived.Test.YtjlcmocepnlibaaRows
import Derived.WalkKit
import Derived.ProofKit
import Derived.OpenShut
import Derived.ShutString
import Derived.ChangeOld
import Derived.Below
import Derived.WalkLawsBesides
import Derived.WalkSpells
import Derived.Test.YtjlcmocepnlibaaSl
import Derived.Test.YtjlcmocepnlibaaFnExactSamePeekWalk
import Derived.Test.YtjlcmocepnlibaaOpenF
import Derived.Test.YtjlcmocepnlibaaSPeek
namespace Go.Proofs.Ytjlcmocepnlibaa.fnExactSamePeek
open Go.ChangeShapes Go.WideShapes Go.ChangeAt Go.RowKit
open Go.ChangeMaps (open_string shut_string)
set_option linter.unusedVariables false

theorem own : ownKnob Try.prog.godebug = none := by kernel_rfl
theorem laidOut : laidOutB Try.prog = true := by kernel_rfl

set_option maxRecDepth 100000 in
theorem open_Peek {H : Type} {enc : TypeId × Value → H} {W : World} {base : Nat} {v : Value} {d : DataW H} {p : List MemPlace} (hv0 : Value.okWide Try.prog W .any base 27 v) (h : DataW.Trod enc Try.prog W 0 (fun _ => true) true 27 v d p) : ∃ D, RdPeek W v D := by
    obtain ⟨cs, n, hv, hl, hc⟩ := open_fields Try.underlying27 (by kernel_rfl) (by kernel_rfl) hv0 h
    subst hv
    match cs, hl with
    | [c0, c1, c2, c3, c4, c5, c6, c7], _ =>
      obtain ⟨y0, t0⟩ := hc 0 _ c0 rfl rfl
      obtain ⟨x0, e0, -, wf0⟩ := DataW.trod_int Try.underlying3 t0
      obtain rfl : c0 = .int .i64 x0 := by simpa using e0
      obtain ⟨y1, t1⟩ := hc 1 _ c1 rfl rfl
      obtain ⟨z1, b1, r1⟩ : ∃ z b, RdAt .i64 W c1 z b := by
        rcases open_ints Try.underlying22 Try.underlying3 (by kernel_rfl) t1 with ⟨hcs, _⟩ | ⟨x, l, c, zs, hcs, _, hl, hm, hz, _, hcell, hwz⟩
        · obtain rfl : c1 = .slice none 0 0 := by simpa using hcs
          obtain ⟨b, hr, -⟩ := (show IsRow .i64 W none 0 0 [] from .inl ⟨rfl, rfl, rfl, rfl⟩).rd
          exact ⟨_, b, hr⟩
        · obtain rfl : c1 = .slice (some x) l c := by simpa using hcs
          obtain ⟨b, hr, -⟩ := (show IsRow .i64 W (some x) l c zs from .inr ⟨_, rfl, hl, hm, by simpa using hz, hcell, hwz⟩).rd
          exact ⟨_, b, hr⟩
      obtain ⟨y2, t2⟩ := hc 2 _ c2 rfl rfl
      obtain ⟨x2, e2, -, wf2⟩ := DataW.trod_int Try.underlying3 t2
      obtain rfl : c2 = .int .i64 x2 := by simpa using e2
      obtain ⟨y3, t3⟩ := hc 3 _ c3 rfl rfl
      obtain ⟨x3, e3, -, wf3⟩ := DataW.trod_int Try.underlying3 t3
      obtain rfl : c3 = .int .i64 x3 := by simpa using e3
      obtain ⟨y4, t4⟩ := hc 4 _ c4 rfl rfl
      obtain ⟨x4, e4, -, wf4⟩ := DataW.trod_int Try.underlying3 t4
      obtain rfl : c4 = .int .i64 x4 := by simpa using e4
      obtain ⟨y5, t5⟩ := hc 5 _ c5 rfl rfl
      obtain ⟨z5, b5, r5⟩ : ∃ z b, RdAt .i64 W c5 z b := by
        rcases open_ints Try.underlying22 Try.underlying3 (by kernel_rfl) t5 with ⟨hcs, _⟩ | ⟨x, l, c, zs, hcs, _, hl, hm, hz, _, hcell, hwz⟩
        · obtain rfl : c5 = .slice none 0 0 := by simpa using hcs
          obtain ⟨b, hr, -⟩ := (show IsRow .i64 W none 0 0 [] from .inl ⟨rfl, rfl, rfl, rfl⟩).rd
          exact ⟨_, b, hr⟩
        · obtain rfl : c5 = .slice (some x) l c := by simpa using hcs
          obtain ⟨b, hr, -⟩ := (show IsRow .i64 W (some x) l c zs from .inr ⟨_, rfl, hl, hm, by simpa using hz, hcell, hwz⟩).rd
          exact ⟨_, b, hr⟩
      obtain ⟨y6, t6⟩ := hc 6 _ c6 rfl rfl
      obtain ⟨x6, e6, -, wf6⟩ := DataW.trod_int Try.underlying3 t6
      obtain rfl : c6 = .int .i64 x6 := by simpa using e6
      obtain ⟨y7, t7⟩ := hc 7 _ c7 rfl rfl
      obtain ⟨x7, e7, -, wf7⟩ := DataW.trod_int Try.underlying3 t7
      obtain rfl : c7 = .int .i64 x7 := by simpa using e7
      exact ⟨⟨x0, z1, x2, x3, x4, z5, x6, x7⟩, c1, c5, b1, b5, rfl, r1, r5, wf0, wf2, wf3, wf4, wf6, wf7⟩

theorem walk (v0 : Value) (D0 : MPeek) (v1 : Value) (D1 : MPeek) (w : World) (w0 : RdPeek w v0 D0) (w1 : RdPeek w v1 D1) :
    Calls Try.prog 6 #[v0, v1] w fun e w' => e = .returned (.bool true) ∧ Below w.heap.size w w' := by
  exact fnExactSamePeek_walk _ _ _ _ w w0 w1

set_option maxRecDepth 100000 in
theorem lifted (os : Os) (started : os.Started) (H : Type) (enc : TypeId × Value → H) :
    ReturnsInHanded {} Try.checked os 6 .any (Rows.fnExactSamePeekSpec.pre6 enc Try.prog Try.f6 Rows.fnExactSamePeekRow.domain false) (Rows.fnExactSamePeekSpec.post enc Try.prog Try.f6 false true false false) := by
  refine returnsInHanded_of_change (C := Try.checked) own started (by kernel_rfl) Try.func6
    (ChangeSpec.witness6 (enc := enc) (C := Try.checked) false ⟨#[], #[.agg #[.int .i64 0, .slice none 0 0, .int .i64 0, .int .i64 0, .int .i64 0, .slice none 0 0, .int .i64 0, .int .i64 0], .agg #[.int .i64 0, .slice none 0 0, .int .i64 0, .int .i64 0, .int .i64 0, .slice none 0 0, .int .i64 0, .int .i64 0]], []⟩ 8 (by kernel_rfl) (by kernel_rfl) (by kernel_rfl) (by kernel_rfl)) ?_
  intro W base args ds gs before hval0 hW hcnd _
  have hval : ∀ (j : Nat) t v, Try.f6.params[j]? = some t → args[j]? = some v → Value.okWide Try.prog W .any base t v := hval0
  have hW' := hW
  obtain ⟨p, q, hA0, hV, rfl, hfz, hnd⟩ := hW
  have hA : DataW.TrodAll enc Try.prog W 0 (fun _ => true) true Try.f6.params.toList args.toList ds p := hA0
  rw [Try.params6] at hA hval
  obtain ⟨v0, vs0, d0, ds0, p0, q0, hargs, rfl, rfl, h0, r0⟩ := trodAll_cons hA
  obtain ⟨v1, vs1, d1, ds1, p1, q1, rfl, rfl, rfl, h1, r1⟩ := trodAll_cons r0
  obtain ⟨rfl, rfl, rfl⟩ := trodAll_nil r1
  obtain rfl : args = #[v0, v1] := by cases args; simp_all
  obtain ⟨rfl, rfl⟩ := trodVars_none hV
  have k0 := h0
  have lt0 : ∀ x ∈ p0, x.block < W.heap.size := by obtain ⟨m, hm⟩ := k0; exact DataW.trod_lt m _ _ _ hm
  obtain ⟨D0, w0⟩ := open_Peek (hval 0 27 v0 rfl rfl) h0
  have k1 := h1
  have lt1 : ∀ x ∈ p1, x.block < W.heap.size := by obtain ⟨m, hm⟩ := k1; exact DataW.trod_lt m _ _ _ hm
  obtain ⟨D1, w1⟩ := open_Peek (hval 1 27 v1 rfl rfl) h1
  clear hA0 hval0
  refine (walk v0 D0 v1 D1 W w0 w1).mono fun e W' ⟨he, bel⟩ => ?_
  subst he
  exact ⟨_, rfl, _, _, _, [], _, [], hW', trodAll_mk1 (shut_bool Try.underlying4 _), (trodAll_cons_mk (Below.trod laidOut (by kernel_rfl) (of_decide_eq_true (by kernel_rfl)) k0 bel lt0) (trodAll_cons_mk (Below.trod laidOut (by kernel_rfl) (of_decide_eq_true (by kernel_rfl)) k1 bel lt1) trodAll_mk0)), rfl, bel.frame _, fun h => by cases h⟩

theorem over : Rows.fnExactSamePeekRow.holds Try.pinned (OpenSpec.ofChange Rows.fnExactSamePeekSpec) :=
  OpenClaim.holds_of_wide 6 Try.f6 rfl rfl rfl rfl rfl rfl rfl ⟨rfl, rfl, rfl, rfl, rfl⟩ rfl rfl rfl rfl rfl (by kernel_rfl) Try.func6 (by kernel_rfl)
    (of_decide_eq_true (by kernel_rfl)) (by unfold Func.isWrapper; first | (rw [if_pos (by decide +kernel)]; kernel_rfl) | (rw [if_neg (by decide +kernel)]; exact ⟨rfl, rfl⟩))
    (fun os started H enc _ => lifted os started H enc)

/-- The statement. -/
theorem proved : Rows.FnExactSamePeekSaid := over
#print axioms proved
end Go.Proofs.Ytjlcmocepnlibaa.fnExactSamePeek
