/-
  For every Table the law FnExactFormatTable returns true and leaves its arguments as they were; the table of powers of ten that strconv reads holds what the library's own text lays in it (the card ties this); the tie speaks of the pruned copy of the project that the seat holds.
-/
import Derived.Test.YtmfammgdcdlceaaDoorCards
import Derived.Test.YtmfammgdcdlceaaDoorTie
import Derived.Test.YtmfammgdcdlceaaDoorRows
import Derived.WalkKit
import Derived.ProofKit
import Derived.OpenShut
import Derived.ShutString
import Derived.ChangeOld
import Derived.Below
import Derived.WalkLawsBesides
import Derived.WalkSpells
import Derived.LaidMore
import Derived.Stop.Joined
import Derived.SevenTiedAt
import Derived.Test.YtmfammgdcdlceaaDoorIntRows
import Derived.Test.YtmfammgdcdlceaaDoorSl
import Derived.Test.YtmfammgdcdlceaaDoorFnExactFormatTableWalk
import Derived.Test.YtmfammgdcdlceaaDoorItoa
import Derived.Test.YtmfammgdcdlceaaDoorOpenF
import Derived.Test.YtmfammgdcdlceaaDoorNTable
namespace Go.Proofs.YtmfammgdcdlceaaDoor.fnExactFormatTable
open Go.ChangeShapes Go.WideShapes Go.ChangeAt Go.RowKit
open Go.ChangeMaps (open_string shut_string)
set_option linter.unusedVariables false

theorem own : ownKnob Tryd.prog.godebug = none := by kernel_rfl
theorem laidOut : laidOutB Tryd.prog = true := by kernel_rfl

def laidList : List (String × DataW Unit) := [("math/bits.deBruijn32tab", Rows.laid_math_bits_deBruijn32tab), ("math/bits.deBruijn64tab", Rows.laid_math_bits_deBruijn64tab), ("internal/strconv.uint64pow10", Rows.laid_internal_strconv_uint64pow10)]

set_option maxRecDepth 100000 in
theorem open_Rules {H : Type} {enc : TypeId × Value → H} {W : World} {n : Nat} {cs : List Value} {y : DataW H × List MemPlace} (h : DataW.trod enc Tryd.prog W 0 (fun _ => true) true n 40 cs = some y) : ∃ D, RdRules W (.agg ⟨cs⟩) D := by
    obtain ⟨m, hlen, hc⟩ := open_cells Tryd.underlying40 h
    clear h
    have hlen : cs.length = 8 := hlen.trans (by kernel_rfl)
    match cs, hlen with
    | [c0, c1, c2, c3, c4, c5, c6, c7], hlen =>
      clear hlen
      obtain ⟨y0, t0⟩ := hc 0 _ rfl
      have t0 : DataW.trod enc Tryd.prog W 0 (fun _ => true) true _ 3 [c0] = some y0 := t0
      obtain ⟨x0, e0, -, wf0⟩ := DataW.trod_int Tryd.underlying3 t0
      obtain rfl : c0 = .int .i64 x0 := by simpa using e0
      obtain ⟨y1, t1⟩ := hc 1 _ rfl
      have t1 : DataW.trod enc Tryd.prog W 0 (fun _ => true) true _ 3 [c1] = some y1 := t1
      obtain ⟨x1, e1, -, wf1⟩ := DataW.trod_int Tryd.underlying3 t1
      obtain rfl : c1 = .int .i64 x1 := by simpa using e1
      obtain ⟨y2, t2⟩ := hc 2 _ rfl
      have t2 : DataW.trod enc Tryd.prog W 0 (fun _ => true) true _ 4 [c2] = some y2 := t2
      obtain ⟨x2, e2, -⟩ := DataW.trod_bool Tryd.underlying4 t2
      obtain rfl : c2 = .bool x2 := by simpa using e2
      obtain ⟨y3, t3⟩ := hc 3 _ rfl
      have t3 : DataW.trod enc Tryd.prog W 0 (fun _ => true) true _ 4 [c3] = some y3 := t3
      obtain ⟨x3, e3, -⟩ := DataW.trod_bool Tryd.underlying4 t3
      obtain rfl : c3 = .bool x3 := by simpa using e3
      obtain ⟨y4, t4⟩ := hc 4 _ rfl
      have t4 : DataW.trod enc Tryd.prog W 0 (fun _ => true) true _ 30 [c4] = some y4 := t4
      obtain ⟨z4, b4, r4⟩ : ∃ z b, RdAt .i64 W c4 z b := by
        rcases open_ints Tryd.underlying30 Tryd.underlying3 (by kernel_rfl) t4 with ⟨hcs, _⟩ | ⟨x, l, c, zs, hcs, _, hl, hm, hz, _, hcell, hwz⟩
        · obtain rfl : c4 = .slice none 0 0 := by simpa using hcs
          obtain ⟨b, hr, -⟩ := (show IsRow .i64 W none 0 0 [] from .inl ⟨rfl, rfl, rfl, rfl⟩).rd
          exact ⟨_, b, hr⟩
        · obtain rfl : c4 = .slice (some x) l c := by simpa using hcs
          obtain ⟨b, hr, -⟩ := (show IsRow .i64 W (some x) l c zs from .inr ⟨_, rfl, hl, hm, by simpa using hz, hcell, hwz⟩).rd
          exact ⟨_, b, hr⟩
      obtain ⟨y5, t5⟩ := hc 5 _ rfl
      have t5 : DataW.trod enc Tryd.prog W 0 (fun _ => true) true _ 30 [c5] = some y5 := t5
      obtain ⟨z5, b5, r5⟩ : ∃ z b, RdAt .i64 W c5 z b := by
        rcases open_ints Tryd.underlying30 Tryd.underlying3 (by kernel_rfl) t5 with ⟨hcs, _⟩ | ⟨x, l, c, zs, hcs, _, hl, hm, hz, _, hcell, hwz⟩
        · obtain rfl : c5 = .slice none 0 0 := by simpa using hcs
          obtain ⟨b, hr, -⟩ := (show IsRow .i64 W none 0 0 [] from .inl ⟨rfl, rfl, rfl, rfl⟩).rd
          exact ⟨_, b, hr⟩
        · obtain rfl : c5 = .slice (some x) l c := by simpa using hcs
          obtain ⟨b, hr, -⟩ := (show IsRow .i64 W (some x) l c zs from .inr ⟨_, rfl, hl, hm, by simpa using hz, hcell, hwz⟩).rd
          exact ⟨_, b, hr⟩
      obtain ⟨y6, t6⟩ := hc 6 _ rfl
      have t6 : DataW.trod enc Tryd.prog W 0 (fun _ => true) true _ 3 [c6] = some y6 := t6
      obtain ⟨x6, e6, -, wf6⟩ := DataW.trod_int Tryd.underlying3 t6
      obtain rfl : c6 = .int .i64 x6 := by simpa using e6
      obtain ⟨y7, t7⟩ := hc 7 _ rfl
      have t7 : DataW.trod enc Tryd.prog W 0 (fun _ => true) true _ 3 [c7] = some y7 := t7
      obtain ⟨x7, e7, -, wf7⟩ := DataW.trod_int Tryd.underlying3 t7
      obtain rfl : c7 = .int .i64 x7 := by simpa using e7
      exact ⟨⟨x0, x1, x2, x3, z4, z5, x6, x7⟩, c4, c5, b4, b5, rfl, r4, r5, wf0, wf1, wf6, wf7⟩

set_option maxRecDepth 100000 in
theorem open_Game {H : Type} {enc : TypeId × Value → H} {W : World} {n : Nat} {cs : List Value} {y : DataW H × List MemPlace} (h : DataW.trod enc Tryd.prog W 0 (fun _ => true) true n 42 cs = some y) : ∃ D, RdGame W (.agg ⟨cs⟩) D := by
    obtain ⟨m, hlen, hc⟩ := open_cells Tryd.underlying42 h
    clear h
    have hlen : cs.length = 14 := hlen.trans (by kernel_rfl)
    match cs, hlen with
    | [c0, c1, c2, c3, c4, c5, c6, c7, c8, c9, c10, c11, c12, c13], hlen =>
      clear hlen
      obtain ⟨y0, t0⟩ := hc 0 _ rfl
      obtain ⟨D0, r0⟩ := open_Rules (cs := [c0, c1, c2, c3, c4, c5, c6, c7]) t0
      obtain ⟨p4, p5, q4, q5, e0⟩ := r0.shape
      simp only [Value.agg.injEq, Array.mk.injEq, List.cons.injEq, and_true] at e0
      obtain ⟨rfl, rfl, rfl, rfl, rfl, rfl, rfl, rfl⟩ := e0
      obtain ⟨y8, t8⟩ := hc 1 _ rfl
      have t8 : DataW.trod enc Tryd.prog W 0 (fun _ => true) true _ 22 [c8] = some y8 := t8
      obtain ⟨z8, r8⟩ : ∃ z, RdRows .i64 W c8 z := by
        rcases Go.Deep.open_int_rows Tryd.underlying22 Tryd.underlying30 Tryd.underlying3 (by kernel_rfl) (by kernel_rfl) t8 with ⟨hcs, _⟩ | ⟨x, l, c, A, L, C, Z, hcs, _, hl, hm, _, hrow⟩
        · obtain rfl : c8 = .slice none 0 0 := by simpa using hcs
          exact ⟨[], isRows_nil⟩
        · obtain rfl : c8 = .slice (some x) l c := by simpa using hcs
          exact ⟨_, rows_of_open hl hm A L C Z hrow⟩
      obtain ⟨p8, q8, e8, -⟩ := id r8
      subst e8
      obtain ⟨y9, t9⟩ := hc 2 _ rfl
      have t9 : DataW.trod enc Tryd.prog W 0 (fun _ => true) true _ 30 [c9] = some y9 := t9
      obtain ⟨z9, b9, r9⟩ : ∃ z b, RdAt .i64 W c9 z b := by
        rcases open_ints Tryd.underlying30 Tryd.underlying3 (by kernel_rfl) t9 with ⟨hcs, _⟩ | ⟨x, l, c, zs, hcs, _, hl, hm, hz, _, hcell, hwz⟩
        · obtain rfl : c9 = .slice none 0 0 := by simpa using hcs
          obtain ⟨b, hr, -⟩ := (show IsRow .i64 W none 0 0 [] from .inl ⟨rfl, rfl, rfl, rfl⟩).rd
          exact ⟨_, b, hr⟩
        · obtain rfl : c9 = .slice (some x) l c := by simpa using hcs
          obtain ⟨b, hr, -⟩ := (show IsRow .i64 W (some x) l c zs from .inr ⟨_, rfl, hl, hm, by simpa using hz, hcell, hwz⟩).rd
          exact ⟨_, b, hr⟩
      obtain ⟨p9, q9, e9, -⟩ := id r9
      subst e9
      obtain ⟨y10, t10⟩ := hc 3 _ rfl
      have t10 : DataW.trod enc Tryd.prog W 0 (fun _ => true) true _ 30 [c10] = some y10 := t10
      obtain ⟨z10, b10, r10⟩ : ∃ z b, RdAt .i64 W c10 z b := by
        rcases open_ints Tryd.underlying30 Tryd.underlying3 (by kernel_rfl) t10 with ⟨hcs, _⟩ | ⟨x, l, c, zs, hcs, _, hl, hm, hz, _, hcell, hwz⟩
        · obtain rfl : c10 = .slice none 0 0 := by simpa using hcs
          obtain ⟨b, hr, -⟩ := (show IsRow .i64 W none 0 0 [] from .inl ⟨rfl, rfl, rfl, rfl⟩).rd
          exact ⟨_, b, hr⟩
        · obtain rfl : c10 = .slice (some x) l c := by simpa using hcs
          obtain ⟨b, hr, -⟩ := (show IsRow .i64 W (some x) l c zs from .inr ⟨_, rfl, hl, hm, by simpa using hz, hcell, hwz⟩).rd
          exact ⟨_, b, hr⟩
      obtain ⟨p10, q10, e10, -⟩ := id r10
      subst e10
      obtain ⟨y11, t11⟩ := hc 4 _ rfl
      have t11 : DataW.trod enc Tryd.prog W 0 (fun _ => true) true _ 3 [c11] = some y11 := t11
      obtain ⟨x11, e11, -, wf11⟩ := DataW.trod_int Tryd.underlying3 t11
      obtain rfl : c11 = .int .i64 x11 := by simpa using e11
      obtain ⟨y12, t12⟩ := hc 5 _ rfl
      have t12 : DataW.trod enc Tryd.prog W 0 (fun _ => true) true _ 3 [c12] = some y12 := t12
      obtain ⟨x12, e12, -, wf12⟩ := DataW.trod_int Tryd.underlying3 t12
      obtain rfl : c12 = .int .i64 x12 := by simpa using e12
      obtain ⟨y13, t13⟩ := hc 6 _ rfl
      have t13 : DataW.trod enc Tryd.prog W 0 (fun _ => true) true _ 3 [c13] = some y13 := t13
      obtain ⟨x13, e13, -, wf13⟩ := DataW.trod_int Tryd.underlying3 t13
      obtain rfl : c13 = .int .i64 x13 := by simpa using e13
      exact ⟨⟨D0, z8, z9, z10, x11, x12, x13⟩, p4, p5, p8, p9, p10, q4, q5, q8, q9, q10, b9, b10, rfl, r0, r8, r9, r10, wf11, wf12, wf13⟩

set_option maxRecDepth 100000 in
theorem open_Table {H : Type} {enc : TypeId × Value → H} {W : World} {n : Nat} {cs : List Value} {y : DataW H × List MemPlace} (h : DataW.trod enc Tryd.prog W 0 (fun _ => true) true n 52 cs = some y) : ∃ D, RdTable W (.agg ⟨cs⟩) D := by
    obtain ⟨m, hlen, hc⟩ := open_cells Tryd.underlying52 h
    clear h
    have hlen : cs.length = 27 := hlen.trans (by kernel_rfl)
    match cs, hlen with
    | [c0, c1, c2, c3, c4, c5, c6, c7, c8, c9, c10, c11, c12, c13, c14, c15, c16, c17, c18, c19, c20, c21, c22, c23, c24, c25, c26], hlen =>
      clear hlen
      obtain ⟨y0, t0⟩ := hc 0 _ rfl
      obtain ⟨D0, r0⟩ := open_Rules (cs := [c0, c1, c2, c3, c4, c5, c6, c7]) t0
      obtain ⟨p4, p5, q4, q5, e0⟩ := r0.shape
      simp only [Value.agg.injEq, Array.mk.injEq, List.cons.injEq, and_true] at e0
      obtain ⟨rfl, rfl, rfl, rfl, rfl, rfl, rfl, rfl⟩ := e0
      obtain ⟨y8, t8⟩ := hc 1 _ rfl
      have t8 : DataW.trod enc Tryd.prog W 0 (fun _ => true) true _ 30 [c8] = some y8 := t8
      obtain ⟨z8, b8, r8⟩ : ∃ z b, RdAt .i64 W c8 z b := by
        rcases open_ints Tryd.underlying30 Tryd.underlying3 (by kernel_rfl) t8 with ⟨hcs, _⟩ | ⟨x, l, c, zs, hcs, _, hl, hm, hz, _, hcell, hwz⟩
        · obtain rfl : c8 = .slice none 0 0 := by simpa using hcs
          obtain ⟨b, hr, -⟩ := (show IsRow .i64 W none 0 0 [] from .inl ⟨rfl, rfl, rfl, rfl⟩).rd
          exact ⟨_, b, hr⟩
        · obtain rfl : c8 = .slice (some x) l c := by simpa using hcs
          obtain ⟨b, hr, -⟩ := (show IsRow .i64 W (some x) l c zs from .inr ⟨_, rfl, hl, hm, by simpa using hz, hcell, hwz⟩).rd
          exact ⟨_, b, hr⟩
      obtain ⟨p8, q8, e8, -⟩ := id r8
      subst e8
      obtain ⟨y9, t9⟩ := hc 2 _ rfl
      have t9 : DataW.trod enc Tryd.prog W 0 (fun _ => true) true _ 4 [c9] = some y9 := t9
      obtain ⟨x9, e9, -⟩ := DataW.trod_bool Tryd.underlying4 t9
      obtain rfl : c9 = .bool x9 := by simpa using e9
      obtain ⟨y10, t10⟩ := hc 3 _ rfl
      have t10 : DataW.trod enc Tryd.prog W 0 (fun _ => true) true _ 30 [c10] = some y10 := t10
      obtain ⟨z10, b10, r10⟩ : ∃ z b, RdAt .i64 W c10 z b := by
        rcases open_ints Tryd.underlying30 Tryd.underlying3 (by kernel_rfl) t10 with ⟨hcs, _⟩ | ⟨x, l, c, zs, hcs, _, hl, hm, hz, _, hcell, hwz⟩
        · obtain rfl : c10 = .slice none 0 0 := by simpa using hcs
          obtain ⟨b, hr, -⟩ := (show IsRow .i64 W none 0 0 [] from .inl ⟨rfl, rfl, rfl, rfl⟩).rd
          exact ⟨_, b, hr⟩
        · obtain rfl : c10 = .slice (some x) l c := by simpa using hcs
          obtain ⟨b, hr, -⟩ := (show IsRow .i64 W (some x) l c zs from .inr ⟨_, rfl, hl, hm, by simpa using hz, hcell, hwz⟩).rd
          exact ⟨_, b, hr⟩
      obtain ⟨p10, q10, e10, -⟩ := id r10
      subst e10
      obtain ⟨y11, t11⟩ := hc 4 _ rfl
      obtain ⟨D11, r11⟩ := open_Game (cs := [c11, c12, c13, c14, c15, c16, c17, c18, c19, c20, c21, c22, c23, c24]) t11
      obtain ⟨p15, p16, p19, p20, p21, q15, q16, q19, q20, q21, e11⟩ := r11.shape
      simp only [Value.agg.injEq, Array.mk.injEq, List.cons.injEq, and_true] at e11
      obtain ⟨rfl, rfl, rfl, rfl, rfl, rfl, rfl, rfl, rfl, rfl, rfl, rfl, rfl, rfl⟩ := e11
      obtain ⟨y25, t25⟩ := hc 5 _ rfl
      have t25 : DataW.trod enc Tryd.prog W 0 (fun _ => true) true _ 30 [c25] = some y25 := t25
      obtain ⟨z25, b25, r25⟩ : ∃ z b, RdAt .i64 W c25 z b := by
        rcases open_ints Tryd.underlying30 Tryd.underlying3 (by kernel_rfl) t25 with ⟨hcs, _⟩ | ⟨x, l, c, zs, hcs, _, hl, hm, hz, _, hcell, hwz⟩
        · obtain rfl : c25 = .slice none 0 0 := by simpa using hcs
          obtain ⟨b, hr, -⟩ := (show IsRow .i64 W none 0 0 [] from .inl ⟨rfl, rfl, rfl, rfl⟩).rd
          exact ⟨_, b, hr⟩
        · obtain rfl : c25 = .slice (some x) l c := by simpa using hcs
          obtain ⟨b, hr, -⟩ := (show IsRow .i64 W (some x) l c zs from .inr ⟨_, rfl, hl, hm, by simpa using hz, hcell, hwz⟩).rd
          exact ⟨_, b, hr⟩
      obtain ⟨p25, q25, e25, -⟩ := id r25
      subst e25
      obtain ⟨y26, t26⟩ := hc 6 _ rfl
      have t26 : DataW.trod enc Tryd.prog W 0 (fun _ => true) true _ 22 [c26] = some y26 := t26
      obtain ⟨z26, r26⟩ : ∃ z, RdRows .i64 W c26 z := by
        rcases Go.Deep.open_int_rows Tryd.underlying22 Tryd.underlying30 Tryd.underlying3 (by kernel_rfl) (by kernel_rfl) t26 with ⟨hcs, _⟩ | ⟨x, l, c, A, L, C, Z, hcs, _, hl, hm, _, hrow⟩
        · obtain rfl : c26 = .slice none 0 0 := by simpa using hcs
          exact ⟨[], isRows_nil⟩
        · obtain rfl : c26 = .slice (some x) l c := by simpa using hcs
          exact ⟨_, rows_of_open hl hm A L C Z hrow⟩
      obtain ⟨p26, q26, e26, -⟩ := id r26
      subst e26
      exact ⟨⟨D0, z8, x9, z10, D11, z25, z26⟩, p4, p5, p8, p10, p15, p16, p19, p20, p21, p25, p26, q4, q5, q8, q10, q15, q16, q19, q20, q21, q25, q26, b8, b10, b25, rfl, r0, r8, r10, r11, r25, r26⟩

theorem walk (v0 : Value) (D0 : MTable) (w : World) (w0 : RdTable w v0 D0) (hL : laidMetH Tryd.prog laidList w) :
    Calls Tryd.prog 7 #[v0] w fun e w' => e = .returned (.bool true) ∧ Below w.heap.size w w' := by
  rw [MakeChecks.laidMetH_plain _ _ _ (by kernel_rfl)] at hL
  have hP : Pow w := pow_of_head (laid_tail (laid_tail hL))
  clear hL
  exact fnExactFormatTable_walk _ _ w w0 hP

theorem door_met (os : Os) (args : Array Value) : laidMetH Tryd.prog laidList ((World.doorLaid Tryd.prog 400 os).forCall (fun _ _ => 0) ⟨#[], args, []⟩).memory :=
  laidMetH_of_parts3 (fuel := 8) (laidMet_of_run' 8 (by kernel_rfl) (by kernel_rfl)) (by kernel_rfl) (by kernel_rfl)

set_option maxRecDepth 100000 in
theorem lifted (os : Os) (started : os.Started) (H : Type) (enc : TypeId × Value → H) :
    ReturnsInHanded {} Tryd.checked os 7 .any (fun w args => (Rows.fnExactFormatTableSpec.pre enc Tryd.prog Tryd.f7 [] false w args ∧ laidMetH Tryd.prog laidList w) ∧ sizedMet enc Tryd.prog Tryd.f7 (OpenSpec.ofChange Rows.fnExactFormatTableSpec) false w args)
      (Rows.fnExactFormatTableSpec.post enc Tryd.prog Tryd.f7 false true false false) := by
  refine returnsInHanded_of_change_and (C := Tryd.checked) (X := fun w _ => laidMetH Tryd.prog laidList w) (fun _ _ _ hh h => h.of_heap hh) own started (by kernel_rfl) Tryd.func7
    (ChangeSpec.witness_shaped (enc := enc) (C := Tryd.checked) (os := os) (X := fun w _ => laidMetH Tryd.prog laidList w) false (World.doorLaid Tryd.prog 400 os) #[.agg #[.int .i64 0, .int .i64 0, .bool false, .bool false, .slice none 0 0, .slice none 0 0, .int .i64 0, .int .i64 0, .slice none 0 0, .bool false, .slice none 0 0, .int .i64 0, .int .i64 0, .bool false, .bool false, .slice none 0 0, .slice none 0 0, .int .i64 0, .int .i64 0, .slice none 0 0, .slice none 0 0, .slice none 0 0, .int .i64 0, .int .i64 0, .int .i64 0, .slice none 0 0, .slice none 0 0]] 8 rfl (World.shaped_of_RefB (by kernel_rfl) (by kernel_rfl)) (by kernel_rfl) (by kernel_rfl) (by kernel_rfl) (door_met os _)) ?_
  intro W base args ds gs before hval0 hW _ _ hL _
  have hval : ∀ (j : Nat) t v, Tryd.f7.params[j]? = some t → args[j]? = some v → Value.okWide Tryd.prog W .any base t v := hval0
  have hW' := hW
  obtain ⟨p, q, hA0, hV, rfl, hfz, hnd⟩ := hW
  have hA : DataW.TrodAll enc Tryd.prog W 0 (fun _ => true) true Tryd.f7.params.toList args.toList ds p := hA0
  rw [Tryd.params7] at hA hval
  obtain ⟨v0, vs0, d0, ds0, p0, q0, hargs, rfl, rfl, h0, r0⟩ := trodAll_cons hA
  obtain ⟨rfl, rfl, rfl⟩ := trodAll_nil r0
  obtain rfl : args = #[v0] := by cases args; simp_all
  obtain ⟨rfl, rfl⟩ := trodVars_none hV
  have k0 := h0
  have lt0 : ∀ x ∈ p0, x.block < W.heap.size := by obtain ⟨m, hm⟩ := k0; exact DataW.trod_lt m _ _ _ hm
  obtain ⟨D0, w0⟩ : ∃ D, RdTable W v0 D := by
    obtain ⟨⟨cs⟩, hv0, -⟩ := okWide_struct Tryd.underlying52 (hval 0 52 v0 rfl rfl)
    subst hv0
    obtain ⟨fuel, hf⟩ := h0
    exact open_Table hf
  clear hA0 hval0
  refine (walk v0 D0 W w0 hL).mono fun e W' ⟨he, bel⟩ => ?_
  subst he
  exact ⟨_, rfl, _, _, _, [], _, [], hW', trodAll_mk1 (shut_bool Tryd.underlying4 _), (trodAll_cons_mk (Below.trod laidOut (by kernel_rfl) (of_decide_eq_true (by kernel_rfl)) k0 bel lt0) trodAll_mk0), rfl, bel.frame _, fun h => by cases h⟩

theorem over : Rows.fnExactFormatTableRow.holds Tryd.pinned (OpenSpec.ofChange Rows.fnExactFormatTableSpec) :=
  OpenClaim.holds_of_wide 7 Tryd.f7 rfl rfl rfl rfl rfl rfl rfl ⟨rfl, rfl, rfl, rfl, rfl⟩ rfl rfl rfl rfl rfl (by kernel_rfl) Tryd.func7 (by kernel_rfl)
    (of_decide_eq_true (by kernel_rfl)) (by unfold Func.isWrapper; first | (rw [if_pos (by decide +kernel)]; kernel_rfl) | (rw [if_neg (by decide +kernel)]; exact ⟨rfl, rfl⟩))
    (fun os started H enc _ => lifted os started H enc)

/-- The statement: the tied card. -/
theorem proved : Rows.FnExactFormatTableCardSaid :=
  Claim7.holds_tied_plain_at .later [] [.data, .data, .data] true (true, "2d988aed9710ca11d0f78d82a3fac8c687d23ddccb6ca83bc4793161f8e55aee") true
    over (fun _ h => by cases h) (by kernel_rfl) (fun _ h => by cases h) fnExactFormatTable_row_tie rfl ⟨rfl, rfl⟩ (by kernel_rfl) rfl
    (fun f fn hf hfn => by
      obtain rfl : f = 7 := Option.some.inj ((show Tryd.prog.funcNamed "loop.example/g03010/laws.FnExactFormatTable" = some 7 by kernel_rfl).symm.trans hf) |>.symm
      obtain rfl : fn = Tryd.f7 := (Option.some.inj (Tryd.func7.symm.trans hfn)).symm
      exact ⟨by kernel_rfl, fun j t ht => by
        rw [Tryd.params7] at ht
        have hm : t ∈ [52] := by simpa using Array.mem_of_getElem? ht
        have hall : ([52].all fun u => !Tryd.prog.wantsStandIn u) = true := by kernel_rfl
        exact (show Tryd.prog.wantsStandIn t = false by simpa using List.all_eq_true.1 hall t hm)⟩)
    (by kernel_rfl)
#print axioms proved
end Go.Proofs.YtmfammgdcdlceaaDoor.fnExactFormatTable
