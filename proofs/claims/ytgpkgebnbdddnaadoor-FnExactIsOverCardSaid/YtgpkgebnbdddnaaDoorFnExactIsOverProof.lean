/-
  For every Deal the law FnExactIsOver returns true and leaves its arguments as they were; the two error variables of chapter 1 hold what the program's own text lays in them (the card ties this); the tie speaks of the pruned copy of the project that the seat holds.
-/
import Derived.Test.YtgpkgebnbdddnaaDoorCards
import Derived.Test.YtgpkgebnbdddnaaDoorTie
import Derived.Test.YtgpkgebnbdddnaaDoorRows
import Derived.Test.YtgpkgebnbdddnaaDoorFnExactIsOverFacts
import Derived.WalkKit
import Derived.ProofKit
import Derived.OpenShut
import Derived.ShutString
import Derived.ChangeOld
import Derived.Below
import Derived.WalkLawsBesides
import Derived.WalkSpells
import Derived.OpenVars
import Derived.LaidMore
import Derived.Stop.Joined
import Derived.SevenTiedAt
import Derived.Test.YtgpkgebnbdddnaaDoorIntRows
import Derived.Test.YtgpkgebnbdddnaaDoorSl
import Derived.Test.YtgpkgebnbdddnaaDoorFnExactIsOverWalk
import Derived.Test.YtgpkgebnbdddnaaDoorSent
import Derived.Test.YtgpkgebnbdddnaaDoorOpenF
import Derived.Test.YtgpkgebnbdddnaaDoorSDeal
namespace Go.Proofs.YtgpkgebnbdddnaaDoor.fnExactIsOver
open Go.ChangeShapes Go.WideShapes Go.ChangeAt Go.RowKit
open Go.ChangeMaps (open_string shut_string)
set_option linter.unusedVariables false

theorem own : ownKnob Tryd.prog.godebug = none := by kernel_rfl
theorem laidOut : laidOutB Tryd.prog = true := by kernel_rfl

theorem vars_length {H : Type} {enc : TypeId × Value → H} {P : Program} {w : World} {sp : Nat → Bool} : ∀ {ns : List String} {gs : List (DataW H)} {ps : List MemPlace}, DataW.TrodVars enc P w sp ns gs ps → gs.length = ns.length
  | [], [], _, _ => rfl
  | [], _ :: _, _, h => h.elim
  | _ :: _, [], _, h => h.elim
  | _ :: ns, _ :: gs, _, h => by
    obtain ⟨_, _, _, _, _, _, _, _, _, _, hs, _⟩ := h
    simp [vars_length hs]

def laidList : List (String × DataW Unit) := [("loop.example/g03010/impl.errNotDecimal", Rows.laid_loop_example_g03010_impl_errNotDecimal), ("loop.example/g03010/impl.errOutOfRange", Rows.laid_loop_example_g03010_impl_errOutOfRange)]

set_option maxRecDepth 100000 in
theorem open_Deal {H : Type} {enc : TypeId × Value → H} {W : World} {base : Nat} {v : Value} {d : DataW H} {p : List MemPlace} (hv0 : Value.okWide Tryd.prog W .any base 47 v) (h : DataW.Trod enc Tryd.prog W 0 (fun _ => true) true 47 v d p) : ∃ D, RdDeal W v D := by
    obtain ⟨cs, n, hv, hl, hc⟩ := open_fields Tryd.underlying47 (by kernel_rfl) (by kernel_rfl) hv0 h
    subst hv
    match cs, hl with
    | [c0, c1, c2, c3, c4, c5, c6], _ =>
      obtain ⟨y0, t0⟩ := hc 0 _ c0 rfl rfl
      obtain ⟨z0, r0⟩ : ∃ z, RdRows .i64 W c0 z := by
        rcases Go.Deep.open_int_rows Tryd.underlying45 Tryd.underlying22 Tryd.underlying3 (by kernel_rfl) (by kernel_rfl) t0 with ⟨hcs, _⟩ | ⟨x, l, c, A, L, C, Z, hcs, _, hl, hm, _, hrow⟩
        · obtain rfl : c0 = .slice none 0 0 := by simpa using hcs
          exact ⟨[], isRows_nil⟩
        · obtain rfl : c0 = .slice (some x) l c := by simpa using hcs
          exact ⟨_, rows_of_open hl hm A L C Z hrow⟩
      obtain ⟨y1, t1⟩ := hc 1 _ c1 rfl rfl
      obtain ⟨x1, e1, -, wf1⟩ := DataW.trod_int Tryd.underlying3 t1
      obtain rfl : c1 = .int .i64 x1 := by simpa using e1
      obtain ⟨y2, t2⟩ := hc 2 _ c2 rfl rfl
      obtain ⟨x2, e2, -, wf2⟩ := DataW.trod_int Tryd.underlying3 t2
      obtain rfl : c2 = .int .i64 x2 := by simpa using e2
      obtain ⟨y3, t3⟩ := hc 3 _ c3 rfl rfl
      obtain ⟨z3, b3, r3⟩ : ∃ z b, RdAt .i64 W c3 z b := by
        rcases open_ints Tryd.underlying22 Tryd.underlying3 (by kernel_rfl) t3 with ⟨hcs, _⟩ | ⟨x, l, c, zs, hcs, _, hl, hm, hz, _, hcell, hwz⟩
        · obtain rfl : c3 = .slice none 0 0 := by simpa using hcs
          obtain ⟨b, hr, -⟩ := (show IsRow .i64 W none 0 0 [] from .inl ⟨rfl, rfl, rfl, rfl⟩).rd
          exact ⟨_, b, hr⟩
        · obtain rfl : c3 = .slice (some x) l c := by simpa using hcs
          obtain ⟨b, hr, -⟩ := (show IsRow .i64 W (some x) l c zs from .inr ⟨_, rfl, hl, hm, by simpa using hz, hcell, hwz⟩).rd
          exact ⟨_, b, hr⟩
      obtain ⟨y4, t4⟩ := hc 4 _ c4 rfl rfl
      obtain ⟨z4, b4, r4⟩ : ∃ z b, RdAt .i64 W c4 z b := by
        rcases open_ints Tryd.underlying22 Tryd.underlying3 (by kernel_rfl) t4 with ⟨hcs, _⟩ | ⟨x, l, c, zs, hcs, _, hl, hm, hz, _, hcell, hwz⟩
        · obtain rfl : c4 = .slice none 0 0 := by simpa using hcs
          obtain ⟨b, hr, -⟩ := (show IsRow .i64 W none 0 0 [] from .inl ⟨rfl, rfl, rfl, rfl⟩).rd
          exact ⟨_, b, hr⟩
        · obtain rfl : c4 = .slice (some x) l c := by simpa using hcs
          obtain ⟨b, hr, -⟩ := (show IsRow .i64 W (some x) l c zs from .inr ⟨_, rfl, hl, hm, by simpa using hz, hcell, hwz⟩).rd
          exact ⟨_, b, hr⟩
      obtain ⟨y5, t5⟩ := hc 5 _ c5 rfl rfl
      obtain ⟨z5, b5, r5⟩ : ∃ z b, RdAt .i64 W c5 z b := by
        rcases open_ints Tryd.underlying22 Tryd.underlying3 (by kernel_rfl) t5 with ⟨hcs, _⟩ | ⟨x, l, c, zs, hcs, _, hl, hm, hz, _, hcell, hwz⟩
        · obtain rfl : c5 = .slice none 0 0 := by simpa using hcs
          obtain ⟨b, hr, -⟩ := (show IsRow .i64 W none 0 0 [] from .inl ⟨rfl, rfl, rfl, rfl⟩).rd
          exact ⟨_, b, hr⟩
        · obtain rfl : c5 = .slice (some x) l c := by simpa using hcs
          obtain ⟨b, hr, -⟩ := (show IsRow .i64 W (some x) l c zs from .inr ⟨_, rfl, hl, hm, by simpa using hz, hcell, hwz⟩).rd
          exact ⟨_, b, hr⟩
      obtain ⟨y6, t6⟩ := hc 6 _ c6 rfl rfl
      obtain ⟨x6, e6, -, wf6⟩ := DataW.trod_int Tryd.underlying3 t6
      obtain rfl : c6 = .int .i64 x6 := by simpa using e6
      exact ⟨⟨z0, x1, x2, z3, z4, z5, x6⟩, c0, c3, c4, c5, b3, b4, b5, rfl, r0, r3, r4, r5, wf1, wf2, wf6⟩

theorem walk (v0 : Value) (D0 : MDeal) (w : World) (w0 : RdDeal w v0 D0) (hL : laidMetH Tryd.prog laidList w) :
    Calls Tryd.prog 15 #[v0] w fun e w' => e = .returned (.bool true) ∧ Below w.heap.size w w' := by
  rw [MakeChecks.laidMetH_plain _ _ _ (by kernel_rfl)] at hL
  obtain ⟨s0, s1, hS⟩ := sent_of_laid hL
  clear hL
  exact fnExactIsOver_walk _ _ w w0 s0 s1 hS

theorem door_met (os : Os) (args : Array Value) : laidMetH Tryd.prog laidList ((World.doorLaid Tryd.prog 400 os).forCall (fun _ _ => 0) ⟨#[], args, []⟩).memory :=
  laidMetH_of_parts3 (fuel := 8) (laidMet_of_run' 8 (by kernel_rfl) (by kernel_rfl)) (by kernel_rfl) (by kernel_rfl)

set_option maxRecDepth 100000 in
theorem lifted (os : Os) (started : os.Started) (H : Type) (enc : TypeId × Value → H) :
    ReturnsInHanded {} Tryd.checked os 15 .any (fun w args => (Rows.fnExactIsOverSpec.pre enc Tryd.prog Tryd.f15 [] false w args ∧ laidMetH Tryd.prog laidList w) ∧ sizedMet enc Tryd.prog Tryd.f15 (OpenSpec.ofChange Rows.fnExactIsOverSpec) false w args)
      (Rows.fnExactIsOverSpec.post enc Tryd.prog Tryd.f15 false true false false) := by
  refine returnsInHanded_of_change_and (C := Tryd.checked) (X := fun w _ => laidMetH Tryd.prog laidList w) (fun _ _ _ hh h => h.of_heap hh) own started (by kernel_rfl) Tryd.func15
    (ChangeSpec.witness_shaped (enc := enc) (C := Tryd.checked) (os := os) (X := fun w _ => laidMetH Tryd.prog laidList w) false (World.doorLaid Tryd.prog 400 os) #[.agg #[.slice none 0 0, .int .i64 0, .int .i64 0, .slice none 0 0, .slice none 0 0, .slice none 0 0, .int .i64 0]] 8 rfl (World.shaped_of_RefB (by kernel_rfl) (by kernel_rfl)) (by kernel_rfl) (by kernel_rfl) (by kernel_rfl) (door_met os _)) ?_
  intro W base args ds gs before hval0 hW _ _ hL _
  have hval : ∀ (j : Nat) t v, Tryd.f15.params[j]? = some t → args[j]? = some v → Value.okWide Tryd.prog W .any base t v := hval0
  have hW' := hW
  obtain ⟨p, q, hA0, hV, rfl, hfz, hnd⟩ := hW
  have hA : DataW.TrodAll enc Tryd.prog W 0 (fun _ => true) true Tryd.f15.params.toList args.toList ds p := hA0
  rw [Tryd.params15] at hA hval
  obtain ⟨v0, vs0, d0, ds0, p0, q0, hargs, rfl, rfl, h0, r0⟩ := trodAll_cons hA
  obtain ⟨rfl, rfl, rfl⟩ := trodAll_nil r0
  obtain rfl : args = #[v0] := by cases args; simp_all
  have hV0 : DataW.TrodVars enc Tryd.prog W (fun _ => true) ["loop.example/g03010/impl.errOutOfRange", "loop.example/g03010/impl.errNotDecimal"] gs q := hV
  obtain ⟨g0, g1, rfl⟩ : ∃ g0 g1, gs = [g0, g1] := by
    have hl : gs.length = 2 := vars_length hV0
    match gs, hl with
    | [x0, x1], _ => exact ⟨x0, x1, rfl⟩
  have k0 := h0
  have lt0 : ∀ x ∈ p0, x.block < W.heap.size := by obtain ⟨m, hm⟩ := k0; exact DataW.trod_lt m _ _ _ hm
  obtain ⟨D0, w0⟩ := open_Deal (hval 0 47 v0 rfl rfl) h0
  clear hA0 hval0
  refine (walk v0 D0 W w0 hL).mono fun e W' ⟨he, bel⟩ => ?_
  subst he
  exact ⟨_, rfl, _, _, _, [], _, q, hW', trodAll_mk1 (shut_bool Tryd.underlying4 _), (trodAll_cons_mk (Below.trod laidOut (by kernel_rfl) (of_decide_eq_true (by kernel_rfl)) k0 bel lt0) trodAll_mk0), bel.trodVars laidOut (by kernel_rfl) hV0, bel.frame _, fun h => by cases h⟩

theorem over : Rows.fnExactIsOverRow.holds Tryd.pinned (OpenSpec.ofChange Rows.fnExactIsOverSpec) :=
  OpenClaim.holds_of_wide 15 Tryd.f15 rfl rfl rfl rfl rfl rfl rfl ⟨rfl, rfl, rfl, rfl, rfl⟩ rfl rfl rfl rfl rfl (by kernel_rfl) Tryd.func15 facts
    (of_decide_eq_true (by kernel_rfl)) (by unfold Func.isWrapper; first | (rw [if_pos (by decide +kernel)]; kernel_rfl) | (rw [if_neg (by decide +kernel)]; exact ⟨rfl, rfl⟩))
    (fun os started H enc _ => lifted os started H enc)

/-- The statement: the tied card. -/
theorem proved : Rows.FnExactIsOverCardSaid :=
  Claim7.holds_tied_plain_at .later [] [.sentinel, .sentinel] true (true, "07c2a4edbb431024d4dc3ffa1c78dcd986247ff6aaf4fbcdef2cf701bfe73056") true
    over (fun _ h => by cases h) (by kernel_rfl) (fun _ h => by cases h) fnExactIsOver_row_tie rfl ⟨rfl, rfl⟩ (by kernel_rfl) rfl
    (fun f fn hf hfn => by
      obtain rfl : f = 15 := Option.some.inj ((show Tryd.prog.funcNamed "loop.example/g03010/laws.FnExactIsOver" = some 15 by kernel_rfl).symm.trans hf) |>.symm
      obtain rfl : fn = Tryd.f15 := (Option.some.inj (Tryd.func15.symm.trans hfn)).symm
      exact ⟨by kernel_rfl, fun j t ht => by
        rw [Tryd.params15] at ht
        have hm : t ∈ [47] := by simpa using Array.mem_of_getElem? ht
        have hall : ([47].all fun u => !Tryd.prog.wantsStandIn u) = true := by kernel_rfl
        exact (show Tryd.prog.wantsStandIn t = false by simpa using List.all_eq_true.1 hall t hm)⟩)
    (by kernel_rfl)
#print axioms proved
end Go.Proofs.YtgpkgebnbdddnaaDoor.fnExactIsOver
