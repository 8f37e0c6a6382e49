/-
  For every Game the law FnExactGameText returns true and leaves its arguments as they were; the table of powers of ten that strconv reads and the package's seven groups of signs hold what their own text lays in them (the card ties this); the tie speaks of the pruned copy of the project that the seat holds.
-/
import Derived.Test.YtmfammgdcdlceaaDoorCards
import Derived.Test.YtmfammgdcdlceaaDoorTie
import Derived.Test.YtmfammgdcdlceaaDoorRows
import Derived.WalkKit
import Derived.ProofKit
import Derived.OpenShut
import Derived.ShutString
import Derived.ChangeOld
import Derived.Below
import Derived.WalkLawsBesides
import Derived.WalkSpells
import Derived.OpenVars
import Derived.LaidMore
import Derived.Stop.Joined
import Derived.SevenTiedAt
import Derived.Test.YtmfammgdcdlceaaDoorIntRows
import Derived.Test.YtmfammgdcdlceaaDoorSl
import Derived.Test.YtmfammgdcdlceaaDoorFnExactGameTextWalk
import Derived.Test.YtmfammgdcdlceaaDoorItoa
import Derived.Test.YtmfammgdcdlceaaDoorPatG
import Derived.Test.YtmfammgdcdlceaaDoorOpenF
import Derived.Test.YtmfammgdcdlceaaDoorNGame
namespace Go.Proofs.YtmfammgdcdlceaaDoor.fnExactGameText
open Go.ChangeShapes Go.WideShapes Go.ChangeAt Go.RowKit
open Go.ChangeMaps (open_string shut_string)
set_option linter.unusedVariables false

theorem own : ownKnob Tryd.prog.godebug = none := by kernel_rfl
theorem laidOut : laidOutB Tryd.prog = true := by kernel_rfl

theorem vars_length {H : Type} {enc : TypeId × Value → H} {P : Program} {w : World} {sp : Nat → Bool} : ∀ {ns : List String} {gs : List (DataW H)} {ps : List MemPlace}, DataW.TrodVars enc P w sp ns gs ps → gs.length = ns.length
  | [], [], _, _ => rfl
  | [], _ :: _, _, h => h.elim
  | _ :: _, [], _, h => h.elim
  | _ :: ns, _ :: gs, _, h => by
    obtain ⟨_, _, _, _, _, _, _, _, _, _, hs, _⟩ := h
    simp [vars_length hs]

def laidList : List (String × DataW Unit) := [("math/bits.deBruijn32tab", Rows.laid_math_bits_deBruijn32tab), ("math/bits.deBruijn64tab", Rows.laid_math_bits_deBruijn64tab), ("internal/strconv.uint64pow10", Rows.laid_internal_strconv_uint64pow10), ("loop.example/g03010/impl.suitSigns", Rows.laid_loop_example_g03010_impl_suitSigns), ("loop.example/g03010/impl.rankSigns", Rows.laid_loop_example_g03010_impl_rankSigns), ("loop.example/g03010/impl.fromSigns", Rows.laid_loop_example_g03010_impl_fromSigns), ("loop.example/g03010/impl.redSign", Rows.laid_loop_example_g03010_impl_redSign), ("loop.example/g03010/impl.notSign", Rows.laid_loop_example_g03010_impl_notSign), ("loop.example/g03010/impl.andSign", Rows.laid_loop_example_g03010_impl_andSign), ("loop.example/g03010/impl.orSign", Rows.laid_loop_example_g03010_impl_orSign)]

set_option maxRecDepth 100000 in
theorem open_Rules {H : Type} {enc : TypeId × Value → H} {W : World} {n : Nat} {cs : List Value} {y : DataW H × List MemPlace} (h : DataW.trod enc Tryd.prog W 0 (fun _ => true) true n 40 cs = some y) : ∃ D, RdRules W (.agg ⟨cs⟩) D := by
    obtain ⟨m, hlen, hc⟩ := open_cells Tryd.underlying40 h
    clear h
    have hlen : cs.length = 8 := hlen.trans (by kernel_rfl)
    match cs, hlen with
    | [c0, c1, c2, c3, c4, c5, c6, c7], hlen =>
      clear hlen
      obtain ⟨y0, t0⟩ := hc 0 _ rfl
      have t0 : DataW.trod enc Tryd.prog W 0 (fun _ => true) true _ 3 [c0] = some y0 := t0
      obtain ⟨x0, e0, -, wf0⟩ := DataW.trod_int Tryd.underlying3 t0
      obtain rfl : c0 = .int .i64 x0 := by simpa using e0
      obtain ⟨y1, t1⟩ := hc 1 _ rfl
      have t1 : DataW.trod enc Tryd.prog W 0 (fun _ => true) true _ 3 [c1] = some y1 := t1
      obtain ⟨x1, e1, -, wf1⟩ := DataW.trod_int Tryd.underlying3 t1
      obtain rfl : c1 = .int .i64 x1 := by simpa using e1
      obtain ⟨y2, t2⟩ := hc 2 _ rfl
      have t2 : DataW.trod enc Tryd.prog W 0 (fun _ => true) true _ 4 [c2] = some y2 := t2
      obtain ⟨x2, e2, -⟩ := DataW.trod_bool Tryd.underlying4 t2
      obtain rfl : c2 = .bool x2 := by simpa using e2
      obtain ⟨y3, t3⟩ := hc 3 _ rfl
      have t3 : DataW.trod enc Tryd.prog W 0 (fun _ => true) true _ 4 [c3] = some y3 := t3
      obtain ⟨x3, e3, -⟩ := DataW.trod_bool Tryd.underlying4 t3
      obtain rfl : c3 = .bool x3 := by simpa using e3
      obtain ⟨y4, t4⟩ := hc 4 _ rfl
      have t4 : DataW.trod enc Tryd.prog W 0 (fun _ => true) true _ 30 [c4] = some y4 := t4
      obtain ⟨z4, b4, r4⟩ : ∃ z b, RdAt .i64 W c4 z b := by
        rcases open_ints Tryd.underlying30 Tryd.underlying3 (by kernel_rfl) t4 with ⟨hcs, _⟩ | ⟨x, l, c, zs, hcs, _, hl, hm, hz, _, hcell, hwz⟩
        · obtain rfl : c4 = .slice none 0 0 := by simpa using hcs
          obtain ⟨b, hr, -⟩ := (show IsRow .i64 W none 0 0 [] from .inl ⟨rfl, rfl, rfl, rfl⟩).rd
          exact ⟨_, b, hr⟩
        · obtain rfl : c4 = .slice (some x) l c := by simpa using hcs
          obtain ⟨b, hr, -⟩ := (show IsRow .i64 W (some x) l c zs from .inr ⟨_, rfl, hl, hm, by simpa using hz, hcell, hwz⟩).rd
          exact ⟨_, b, hr⟩
      obtain ⟨y5, t5⟩ := hc 5 _ rfl
      have t5 : DataW.trod enc Tryd.prog W 0 (fun _ => true) true _ 30 [c5] = some y5 := t5
      obtain ⟨z5, b5, r5⟩ : ∃ z b, RdAt .i64 W c5 z b := by
        rcases open_ints Tryd.underlying30 Tryd.underlying3 (by kernel_rfl) t5 with ⟨hcs, _⟩ | ⟨x, l, c, zs, hcs, _, hl, hm, hz, _, hcell, hwz⟩
        · obtain rfl : c5 = .slice none 0 0 := by simpa using hcs
          obtain ⟨b, hr, -⟩ := (show IsRow .i64 W none 0 0 [] from .inl ⟨rfl, rfl, rfl, rfl⟩).rd
          exact ⟨_, b, hr⟩
        · obtain rfl : c5 = .slice (some x) l c := by simpa using hcs
          obtain ⟨b, hr, -⟩ := (show IsRow .i64 W (some x) l c zs from .inr ⟨_, rfl, hl, hm, by simpa using hz, hcell, hwz⟩).rd
          exact ⟨_, b, hr⟩
      obtain ⟨y6, t6⟩ := hc 6 _ rfl
      have t6 : DataW.trod enc Tryd.prog W 0 (fun _ => true) true _ 3 [c6] = some y6 := t6
      obtain ⟨x6, e6, -, wf6⟩ := DataW.trod_int Tryd.underlying3 t6
      obtain rfl : c6 = .int .i64 x6 := by simpa using e6
      obtain ⟨y7, t7⟩ := hc 7 _ rfl
      have t7 : DataW.trod enc Tryd.prog W 0 (fun _ => true) true _ 3 [c7] = some y7 := t7
      obtain ⟨x7, e7, -, wf7⟩ := DataW.trod_int Tryd.underlying3 t7
      obtain rfl : c7 = .int .i64 x7 := by simpa using e7
      exact ⟨⟨x0, x1, x2, x3, z4, z5, x6, x7⟩, c4, c5, b4, b5, rfl, r4, r5, wf0, wf1, wf6, wf7⟩

set_option maxRecDepth 100000 in
theorem open_Game {H : Type} {enc : TypeId × Value → H} {W : World} {n : Nat} {cs : List Value} {y : DataW H × List MemPlace} (h : DataW.trod enc Tryd.prog W 0 (fun _ => true) true n 42 cs = some y) : ∃ D, RdGame W (.agg ⟨cs⟩) D := by
    obtain ⟨m, hlen, hc⟩ := open_cells Tryd.underlying42 h
    clear h
    have hlen : cs.length = 14 := hlen.trans (by kernel_rfl)
    match cs, hlen with
    | [c0, c1, c2, c3, c4, c5, c6, c7, c8, c9, c10, c11, c12, c13], hlen =>
      clear hlen
      obtain ⟨y0, t0⟩ := hc 0 _ rfl
      obtain ⟨D0, r0⟩ := open_Rules (cs := [c0, c1, c2, c3, c4, c5, c6, c7]) t0
      obtain ⟨p4, p5, q4, q5, e0⟩ := r0.shape
      simp only [Value.agg.injEq, Array.mk.injEq, List.cons.injEq, and_true] at e0
      obtain ⟨rfl, rfl, rfl, rfl, rfl, rfl, rfl, rfl⟩ := e0
      obtain ⟨y8, t8⟩ := hc 1 _ rfl
      have t8 : DataW.trod enc Tryd.prog W 0 (fun _ => true) true _ 22 [c8] = some y8 := t8
      obtain ⟨z8, r8⟩ : ∃ z, RdRows .i64 W c8 z := by
        rcases Go.Deep.open_int_rows Tryd.underlying22 Tryd.underlying30 Tryd.underlying3 (by kernel_rfl) (by kernel_rfl) t8 with ⟨hcs, _⟩ | ⟨x, l, c, A, L, C, Z, hcs, _, hl, hm, _, hrow⟩
        · obtain rfl : c8 = .slice none 0 0 := by simpa using hcs
          exact ⟨[], isRows_nil⟩
        · obtain rfl : c8 = .slice (some x) l c := by simpa using hcs
          exact ⟨_, rows_of_open hl hm A L C Z hrow⟩
      obtain ⟨p8, q8, e8, -⟩ := id r8
      subst e8
      obtain ⟨y9, t9⟩ := hc 2 _ rfl
      have t9 : DataW.trod enc Tryd.prog W 0 (fun _ => true) true _ 30 [c9] = some y9 := t9
      obtain ⟨z9, b9, r9⟩ : ∃ z b, RdAt .i64 W c9 z b := by
        rcases open_ints Tryd.underlying30 Tryd.underlying3 (by kernel_rfl) t9 with ⟨hcs, _⟩ | ⟨x, l, c, zs, hcs, _, hl, hm, hz, _, hcell, hwz⟩
        · obtain rfl : c9 = .slice none 0 0 := by simpa using hcs
          obtain ⟨b, hr, -⟩ := (show IsRow .i64 W none 0 0 [] from .inl ⟨rfl, rfl, rfl, rfl⟩).rd
          exact ⟨_, b, hr⟩
        · obtain rfl : c9 = .slice (some x) l c := by simpa using hcs
          obtain ⟨b, hr, -⟩ := (show IsRow .i64 W (some x) l c zs from .inr ⟨_, rfl, hl, hm, by simpa using hz, hcell, hwz⟩).rd
          exact ⟨_, b, hr⟩
      obtain ⟨p9, q9, e9, -⟩ := id r9
      subst e9
      obtain ⟨y10, t10⟩ := hc 3 _ rfl
      have t10 : DataW.trod enc Tryd.prog W 0 (fun _ => true) true _ 30 [c10] = some y10 := t10
      obtain ⟨z10, b10, r10⟩ : ∃ z b, RdAt .i64 W c10 z b := by
        rcases open_ints Tryd.underlying30 Tryd.underlying3 (by kernel_rfl) t10 with ⟨hcs, _⟩ | ⟨x, l, c, zs, hcs, _, hl, hm, hz, _, hcell, hwz⟩
        · obtain rfl : c10 = .slice none 0 0 := by simpa using hcs
          obtain ⟨b, hr, -⟩ := (show IsRow .i64 W none 0 0 [] from .inl ⟨rfl, rfl, rfl, rfl⟩).rd
          exact ⟨_, b, hr⟩
        · obtain rfl : c10 = .slice (some x) l c := by simpa using hcs
          obtain ⟨b, hr, -⟩ := (show IsRow .i64 W (some x) l c zs from .inr ⟨_, rfl, hl, hm, by simpa using hz, hcell, hwz⟩).rd
          exact ⟨_, b, hr⟩
      obtain ⟨p10, q10, e10, -⟩ := id r10
      subst e10
      obtain ⟨y11, t11⟩ := hc 4 _ rfl
      have t11 : DataW.trod enc Tryd.prog W 0 (fun _ => true) true _ 3 [c11] = some y11 := t11
      obtain ⟨x11, e11, -, wf11⟩ := DataW.trod_int Tryd.underlying3 t11
      obtain rfl : c11 = .int .i64 x11 := by simpa using e11
      obtain ⟨y12, t12⟩ := hc 5 _ rfl
      have t12 : DataW.trod enc Tryd.prog W 0 (fun _ => true) true _ 3 [c12] = some y12 := t12
      obtain ⟨x12, e12, -, wf12⟩ := DataW.trod_int Tryd.underlying3 t12
      obtain rfl : c12 = .int .i64 x12 := by simpa using e12
      obtain ⟨y13, t13⟩ := hc 6 _ rfl
      have t13 : DataW.trod enc Tryd.prog W 0 (fun _ => true) true _ 3 [c13] = some y13 := t13
      obtain ⟨x13, e13, -, wf13⟩ := DataW.trod_int Tryd.underlying3 t13
      obtain rfl : c13 = .int .i64 x13 := by simpa using e13
      exact ⟨⟨D0, z8, z9, z10, x11, x12, x13⟩, p4, p5, p8, p9, p10, q4, q5, q8, q9, q10, b9, b10, rfl, r0, r8, r9, r10, wf11, wf12, wf13⟩

theorem walk (v0 : Value) (D0 : MGame) (w : World) (w0 : RdGame w v0 D0) (hL : laidMetH Tryd.prog laidList w) :
    Calls Tryd.prog 6 #[v0] w fun e w' => e = .returned (.bool true) ∧ Below w.heap.size w w' := by
  rw [MakeChecks.laidMetH_plain _ _ _ (by kernel_rfl)] at hL
  have hP : Pow w := pow_of_head (laid_tail (laid_tail hL))
  have hG : Grps w := grps_of_laid (laid_tail (laid_tail (laid_tail hL)))
  clear hL
  exact fnExactGameText_walk _ _ w w0 hG hP

theorem door_met (os : Os) (args : Array Value) : laidMetH Tryd.prog laidList ((World.doorLaid Tryd.prog 400 os).forCall (fun _ _ => 0) ⟨#[], args, []⟩).memory :=
  laidMetH_of_parts3 (fuel := 8) (laidMet_of_run' 8 (by kernel_rfl) (by kernel_rfl)) (by kernel_rfl) (by kernel_rfl)

set_option maxRecDepth 100000 in
theorem lifted (os : Os) (started : os.Started) (H : Type) (enc : TypeId × Value → H) :
    ReturnsInHanded {} Tryd.checked os 6 .any (fun w args => (Rows.fnExactGameTextSpec.pre enc Tryd.prog Tryd.f6 [] false w args ∧ laidMetH Tryd.prog laidList w) ∧ sizedMet enc Tryd.prog Tryd.f6 (OpenSpec.ofChange Rows.fnExactGameTextSpec) false w args)
      (Rows.fnExactGameTextSpec.post enc Tryd.prog Tryd.f6 false true false false) := by
  refine returnsInHanded_of_change_and (C := Tryd.checked) (X := fun w _ => laidMetH Tryd.prog laidList w) (fun _ _ _ hh h => h.of_heap hh) own started (by kernel_rfl) Tryd.func6
    (ChangeSpec.witness_shaped (enc := enc) (C := Tryd.checked) (os := os) (X := fun w _ => laidMetH Tryd.prog laidList w) false (World.doorLaid Tryd.prog 400 os) #[.agg #[.int .i64 0, .int .i64 0, .bool false, .bool false, .slice none 0 0, .slice none 0 0, .int .i64 0, .int .i64 0, .slice none 0 0, .slice none 0 0, .slice none 0 0, .int .i64 0, .int .i64 0, .int .i64 0]] 8 rfl (World.shaped_of_RefB (by kernel_rfl) (by kernel_rfl)) (by kernel_rfl) (by kernel_rfl) (by kernel_rfl) (door_met os _)) ?_
  intro W base args ds gs before hval0 hW _ _ hL _
  have hval : ∀ (j : Nat) t v, Tryd.f6.params[j]? = some t → args[j]? = some v → Value.okWide Tryd.prog W .any base t v := hval0
  have hW' := hW
  obtain ⟨p, q, hA0, hV, rfl, hfz, hnd⟩ := hW
  have hA : DataW.TrodAll enc Tryd.prog W 0 (fun _ => true) true Tryd.f6.params.toList args.toList ds p := hA0
  rw [Tryd.params6] at hA hval
  obtain ⟨v0, vs0, d0, ds0, p0, q0, hargs, rfl, rfl, h0, r0⟩ := trodAll_cons hA
  obtain ⟨rfl, rfl, rfl⟩ := trodAll_nil r0
  obtain rfl : args = #[v0] := by cases args; simp_all
  have hV0 : DataW.TrodVars enc Tryd.prog W (fun _ => true) ["loop.example/g03010/impl.suitSigns", "loop.example/g03010/impl.rankSigns", "loop.example/g03010/impl.fromSigns", "loop.example/g03010/impl.redSign", "loop.example/g03010/impl.notSign", "loop.example/g03010/impl.andSign", "loop.example/g03010/impl.orSign"] gs q := hV
  obtain ⟨g0, g1, g2, g3, g4, g5, g6, rfl⟩ : ∃ g0 g1 g2 g3 g4 g5 g6, gs = [g0, g1, g2, g3, g4, g5, g6] := by
    have hl : gs.length = 7 := vars_length hV0
    match gs, hl with
    | [x0, x1, x2, x3, x4, x5, x6], _ => exact ⟨x0, x1, x2, x3, x4, x5, x6, rfl⟩
  have k0 := h0
  have lt0 : ∀ x ∈ p0, x.block < W.heap.size := by obtain ⟨m, hm⟩ := k0; exact DataW.trod_lt m _ _ _ hm
  obtain ⟨D0, w0⟩ : ∃ D, RdGame W v0 D := by
    obtain ⟨⟨cs⟩, hv0, -⟩ := okWide_struct Tryd.underlying42 (hval 0 42 v0 rfl rfl)
    subst hv0
    obtain ⟨fuel, hf⟩ := h0
    exact open_Game hf
  clear hA0 hval0
  refine (walk v0 D0 W w0 hL).mono fun e W' ⟨he, bel⟩ => ?_
  subst he
  exact ⟨_, rfl, _, _, _, [], _, q, hW', trodAll_mk1 (shut_bool Tryd.underlying4 _), (trodAll_cons_mk (Below.trod laidOut (by kernel_rfl) (of_decide_eq_true (by kernel_rfl)) k0 bel lt0) trodAll_mk0), bel.trodVars laidOut (by kernel_rfl) hV0, bel.frame _, fun h => by cases h⟩

theorem over : Rows.fnExactGameTextRow.holds Tryd.pinned (OpenSpec.ofChange Rows.fnExactGameTextSpec) :=
  OpenClaim.holds_of_wide 6 Tryd.f6 rfl rfl rfl rfl rfl rfl rfl ⟨rfl, rfl, rfl, rfl, rfl⟩ rfl rfl rfl rfl rfl (by kernel_rfl) Tryd.func6 (by kernel_rfl)
    (of_decide_eq_true (by kernel_rfl)) (by unfold Func.isWrapper; first | (rw [if_pos (by decide +kernel)]; kernel_rfl) | (rw [if_neg (by decide +kernel)]; exact ⟨rfl, rfl⟩))
    (fun os started H enc _ => lifted os started H enc)

/-- The statement: the tied card. -/
theorem proved : Rows.FnExactGameTextCardSaid :=
  Claim7.holds_tied_plain_at .later [] [.data, .data, .data, .data, .data, .data, .data, .data, .data, .data] true (true, "2d988aed9710ca11d0f78d82a3fac8c687d23ddccb6ca83bc4793161f8e55aee") true
    over (fun _ h => by cases h) (by kernel_rfl) (fun _ h => by cases h) fnExactGameText_row_tie rfl ⟨rfl, rfl⟩ (by kernel_rfl) rfl
    (fun f fn hf hfn => by
      obtain rfl : f = 6 := Option.some.inj ((show Tryd.prog.funcNamed "loop.example/g03010/laws.FnExactGameText" = some 6 by kernel_rfl).symm.trans hf) |>.symm
      obtain rfl : fn = Tryd.f6 := (Option.some.inj (Tryd.func6.symm.trans hfn)).symm
      exact ⟨by kernel_rfl, fun j t ht => by
        rw [Tryd.params6] at ht
        have hm : t ∈ [42] := by simpa using Array.mem_of_getElem? ht
        have hall : ([42].all fun u => !Tryd.prog.wantsStandIn u) = true := by kernel_rfl
        exact (show Tryd.prog.wantsStandIn t = false by simpa using List.all_eq_true.1 hall t hm)⟩)
    (by kernel_rfl)
#print axioms proved
end Go.Proofs.YtmfammgdcdlceaaDoor.fnExactGameText
