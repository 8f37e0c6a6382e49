/-
  For every Peek the law FnExactPeekText returns true and leaves its arguments as they were; the table of powers of ten that strconv reads holds what the library's own text lays in it (the card ties this); the tie speaks of the pruned copy of the project that the seat holds.
-/
import Derived.Test.YtmfammgdcdlceaaDoorCards
import Derived.Test.YtmfammgdcdlceaaDoorTie
import Derived.Test.YtmfammgdcdlceaaDoorRows
import Derived.WalkKit
import Derived.ProofKit
import Derived.OpenShut
import Derived.ShutString
import Derived.ChangeOld
import Derived.Below
import Derived.WalkLawsBesides
import Derived.WalkSpells
import Derived.LaidMore
import Derived.Stop.Joined
import Derived.SevenTiedAt
import Derived.Test.YtmfammgdcdlceaaDoorSl
import Derived.Test.YtmfammgdcdlceaaDoorFnExactPeekTextWalk
import Derived.Test.YtmfammgdcdlceaaDoorItoa
import Derived.Test.YtmfammgdcdlceaaDoorOpenF
import Derived.Test.YtmfammgdcdlceaaDoorNPeek
namespace Go.Proofs.YtmfammgdcdlceaaDoor.fnExactPeekText
open Go.ChangeShapes Go.WideShapes Go.ChangeAt Go.RowKit
open Go.ChangeMaps (open_string shut_string)
set_option linter.unusedVariables false

theorem own : ownKnob Tryd.prog.godebug = none := by kernel_rfl
theorem laidOut : laidOutB Tryd.prog = true := by kernel_rfl

def laidList : List (String × DataW Unit) := [("math/bits.deBruijn32tab", Rows.laid_math_bits_deBruijn32tab), ("math/bits.deBruijn64tab", Rows.laid_math_bits_deBruijn64tab), ("internal/strconv.uint64pow10", Rows.laid_internal_strconv_uint64pow10)]

set_option maxRecDepth 100000 in
theorem open_Peek {H : Type} {enc : TypeId × Value → H} {W : World} {n : Nat} {cs : List Value} {y : DataW H × List MemPlace} (h : DataW.trod enc Tryd.prog W 0 (fun _ => true) true n 32 cs = some y) : ∃ D, RdPeek W (.agg ⟨cs⟩) D := by
    obtain ⟨m, hlen, hc⟩ := open_cells Tryd.underlying32 h
    clear h
    have hlen : cs.length = 8 := hlen.trans (by kernel_rfl)
    match cs, hlen with
    | [c0, c1, c2, c3, c4, c5, c6, c7], hlen =>
      clear hlen
      obtain ⟨y0, t0⟩ := hc 0 _ rfl
      have t0 : DataW.trod enc Tryd.prog W 0 (fun _ => true) true _ 3 [c0] = some y0 := t0
      obtain ⟨x0, e0, -, wf0⟩ := DataW.trod_int Tryd.underlying3 t0
      obtain rfl : c0 = .int .i64 x0 := by simpa using e0
      obtain ⟨y1, t1⟩ := hc 1 _ rfl
      have t1 : DataW.trod enc Tryd.prog W 0 (fun _ => true) true _ 30 [c1] = some y1 := t1
      obtain ⟨z1, b1, r1⟩ : ∃ z b, RdAt .i64 W c1 z b := by
        rcases open_ints Tryd.underlying30 Tryd.underlying3 (by kernel_rfl) t1 with ⟨hcs, _⟩ | ⟨x, l, c, zs, hcs, _, hl, hm, hz, _, hcell, hwz⟩
        · obtain rfl : c1 = .slice none 0 0 := by simpa using hcs
          obtain ⟨b, hr, -⟩ := (show IsRow .i64 W none 0 0 [] from .inl ⟨rfl, rfl, rfl, rfl⟩).rd
          exact ⟨_, b, hr⟩
        · obtain rfl : c1 = .slice (some x) l c := by simpa using hcs
          obtain ⟨b, hr, -⟩ := (show IsRow .i64 W (some x) l c zs from .inr ⟨_, rfl, hl, hm, by simpa using hz, hcell, hwz⟩).rd
          exact ⟨_, b, hr⟩
      obtain ⟨y2, t2⟩ := hc 2 _ rfl
      have t2 : DataW.trod enc Tryd.prog W 0 (fun _ => true) true _ 3 [c2] = some y2 := t2
      obtain ⟨x2, e2, -, wf2⟩ := DataW.trod_int Tryd.underlying3 t2
      obtain rfl : c2 = .int .i64 x2 := by simpa using e2
      obtain ⟨y3, t3⟩ := hc 3 _ rfl
      have t3 : DataW.trod enc Tryd.prog W 0 (fun _ => true) true _ 3 [c3] = some y3 := t3
      obtain ⟨x3, e3, -, wf3⟩ := DataW.trod_int Tryd.underlying3 t3
      obtain rfl : c3 = .int .i64 x3 := by simpa using e3
      obtain ⟨y4, t4⟩ := hc 4 _ rfl
      have t4 : DataW.trod enc Tryd.prog W 0 (fun _ => true) true _ 3 [c4] = some y4 := t4
      obtain ⟨x4, e4, -, wf4⟩ := DataW.trod_int Tryd.underlying3 t4
      obtain rfl : c4 = .int .i64 x4 := by simpa using e4
      obtain ⟨y5, t5⟩ := hc 5 _ rfl
      have t5 : DataW.trod enc Tryd.prog W 0 (fun _ => true) true _ 30 [c5] = some y5 := t5
      obtain ⟨z5, b5, r5⟩ : ∃ z b, RdAt .i64 W c5 z b := by
        rcases open_ints Tryd.underlying30 Tryd.underlying3 (by kernel_rfl) t5 with ⟨hcs, _⟩ | ⟨x, l, c, zs, hcs, _, hl, hm, hz, _, hcell, hwz⟩
        · obtain rfl : c5 = .slice none 0 0 := by simpa using hcs
          obtain ⟨b, hr, -⟩ := (show IsRow .i64 W none 0 0 [] from .inl ⟨rfl, rfl, rfl, rfl⟩).rd
          exact ⟨_, b, hr⟩
        · obtain rfl : c5 = .slice (some x) l c := by simpa using hcs
          obtain ⟨b, hr, -⟩ := (show IsRow .i64 W (some x) l c zs from .inr ⟨_, rfl, hl, hm, by simpa using hz, hcell, hwz⟩).rd
          exact ⟨_, b, hr⟩
      obtain ⟨y6, t6⟩ := hc 6 _ rfl
      have t6 : DataW.trod enc Tryd.prog W 0 (fun _ => true) true _ 3 [c6] = some y6 := t6
      obtain ⟨x6, e6, -, wf6⟩ := DataW.trod_int Tryd.underlying3 t6
      obtain rfl : c6 = .int .i64 x6 := by simpa using e6
      obtain ⟨y7, t7⟩ := hc 7 _ rfl
      have t7 : DataW.trod enc Tryd.prog W 0 (fun _ => true) true _ 3 [c7] = some y7 := t7
      obtain ⟨x7, e7, -, wf7⟩ := DataW.trod_int Tryd.underlying3 t7
      obtain rfl : c7 = .int .i64 x7 := by simpa using e7
      exact ⟨⟨x0, z1, x2, x3, x4, z5, x6, x7⟩, c1, c5, b1, b5, rfl, r1, r5, wf0, wf2, wf3, wf4, wf6, wf7⟩

theorem walk (v0 : Value) (D0 : MPeek) (w : World) (w0 : RdPeek w v0 D0) (hL : laidMetH Tryd.prog laidList w) :
    Calls Tryd.prog 5 #[v0] w fun e w' => e = .returned (.bool true) ∧ Below w.heap.size w w' := by
  rw [MakeChecks.laidMetH_plain _ _ _ (by kernel_rfl)] at hL
  have hP : Pow w := pow_of_head (laid_tail (laid_tail hL))
  clear hL
  exact fnExactPeekText_walk _ _ w w0 hP

theorem door_met (os : Os) (args : Array Value) : laidMetH Tryd.prog laidList ((World.doorLaid Tryd.prog 400 os).forCall (fun _ _ => 0) ⟨#[], args, []⟩).memory :=
  laidMetH_of_parts3 (fuel := 8) (laidMet_of_run' 8 (by kernel_rfl) (by kernel_rfl)) (by kernel_rfl) (by kernel_rfl)

set_option maxRecDepth 100000 in
theorem lifted (os : Os) (started : os.Started) (H : Type) (enc : TypeId × Value → H) :
    ReturnsInHanded {} Tryd.checked os 5 .any (fun w args => (Rows.fnExactPeekTextSpec.pre enc Tryd.prog Tryd.f5 [] false w args ∧ laidMetH Tryd.prog laidList w) ∧ sizedMet enc Tryd.prog Tryd.f5 (OpenSpec.ofChange Rows.fnExactPeekTextSpec) false w args)
      (Rows.fnExactPeekTextSpec.post enc Tryd.prog Tryd.f5 false true false false) := by
  refine returnsInHanded_of_change_and (C := Tryd.checked) (X := fun w _ => laidMetH Tryd.prog laidList w) (fun _ _ _ hh h => h.of_heap hh) own started (by kernel_rfl) Tryd.func5
    (ChangeSpec.witness_shaped (enc := enc) (C := Tryd.checked) (os := os) (X := fun w _ => laidMetH Tryd.prog laidList w) false (World.doorLaid Tryd.prog 400 os) #[.agg #[.int .i64 0, .slice none 0 0, .int .i64 0, .int .i64 0, .int .i64 0, .slice none 0 0, .int .i64 0, .int .i64 0]] 8 rfl (World.shaped_of_RefB (by kernel_rfl) (by kernel_rfl)) (by kernel_rfl) (by kernel_rfl) (by kernel_rfl) (door_met os _)) ?_
  intro W base args ds gs before hval0 hW _ _ hL _
  have hval : ∀ (j : Nat) t v, Tryd.f5.params[j]? = some t → args[j]? = some v → Value.okWide Tryd.prog W .any base t v := hval0
  have hW' := hW
  obtain ⟨p, q, hA0, hV, rfl, hfz, hnd⟩ := hW
  have hA : DataW.TrodAll enc Tryd.prog W 0 (fun _ => true) true Tryd.f5.params.toList args.toList ds p := hA0
  rw [Tryd.params5] at hA hval
  obtain ⟨v0, vs0, d0, ds0, p0, q0, hargs, rfl, rfl, h0, r0⟩ := trodAll_cons hA
  obtain ⟨rfl, rfl, rfl⟩ := trodAll_nil r0
  obtain rfl : args = #[v0] := by cases args; simp_all
  obtain ⟨rfl, rfl⟩ := trodVars_none hV
  have k0 := h0
  have lt0 : ∀ x ∈ p0, x.block < W.heap.size := by obtain ⟨m, hm⟩ := k0; exact DataW.trod_lt m _ _ _ hm
  obtain ⟨D0, w0⟩ : ∃ D, RdPeek W v0 D := by
    obtain ⟨⟨cs⟩, hv0, -⟩ := okWide_struct Tryd.underlying32 (hval 0 32 v0 rfl rfl)
    subst hv0
    obtain ⟨fuel, hf⟩ := h0
    exact open_Peek hf
  clear hA0 hval0
  refine (walk v0 D0 W w0 hL).mono fun e W' ⟨he, bel⟩ => ?_
  subst he
  exact ⟨_, rfl, _, _, _, [], _, [], hW', trodAll_mk1 (shut_bool Tryd.underlying4 _), (trodAll_cons_mk (Below.trod laidOut (by kernel_rfl) (of_decide_eq_true (by kernel_rfl)) k0 bel lt0) trodAll_mk0), rfl, bel.frame _, fun h => by cases h⟩

theorem over : Rows.fnExactPeekTextRow.holds Tryd.pinned (OpenSpec.ofChange Rows.fnExactPeekTextSpec) :=
  OpenClaim.holds_of_wide 5 Tryd.f5 rfl rfl rfl rfl rfl rfl rfl ⟨rfl, rfl, rfl, rfl, rfl⟩ rfl rfl rfl rfl rfl (by kernel_rfl) Tryd.func5 (by kernel_rfl)
    (of_decide_eq_true (by kernel_rfl)) (by unfold Func.isWrapper; first | (rw [if_pos (by decide +kernel)]; kernel_rfl) | (rw [if_neg (by decide +kernel)]; exact ⟨rfl, rfl⟩))
    (fun os started H enc _ => lifted os started H enc)

/-- The statement: the tied card. -/
theorem proved : Rows.FnExactPeekTextCardSaid :=
  Claim7.holds_tied_plain_at .later [] [.data, .data, .data] true (true, "2d988aed9710ca11d0f78d82a3fac8c687d23ddccb6ca83bc4793161f8e55aee") true
    over (fun _ h => by cases h) (by kernel_rfl) (fun _ h => by cases h) fnExactPeekText_row_tie rfl ⟨rfl, rfl⟩ (by kernel_rfl) rfl
    (fun f fn hf hfn => by
      obtain rfl : f = 5 := Option.some.inj ((show Tryd.prog.funcNamed "loop.example/g03010/laws.FnExactPeekText" = some 5 by kernel_rfl).symm.trans hf) |>.symm
      obtain rfl : fn = Tryd.f5 := (Option.some.inj (Tryd.func5.symm.trans hfn)).symm
      exact ⟨by kernel_rfl, fun j t ht => by
        rw [Tryd.params5] at ht
        have hm : t ∈ [32] := by simpa using Array.mem_of_getElem? ht
        have hall : ([32].all fun u => !Tryd.prog.wantsStandIn u) = true := by kernel_rfl
        exact (show Tryd.prog.wantsStandIn t = false by simpa using List.all_eq_true.1 hall t hm)⟩)
    (by kernel_rfl)
#print axioms proved
end Go.Proofs.YtmfammgdcdlceaaDoor.fnExactPeekText
