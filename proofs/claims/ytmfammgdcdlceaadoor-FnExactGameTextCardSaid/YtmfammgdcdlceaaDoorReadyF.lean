/-
  Rules made ready, the program's side.
-/
import Derived.Test.YtmfammgdcdlceaaDoorReady
import Derived.Test.YtmfammgdcdlceaaDoorSet
namespace Go.Proofs.YtmfammgdcdlceaaDoor
open Go.RowKit
set_option linter.unusedVariables false
set_option linter.unusedSimpArgs false

/-- The value of the rules made ready. -/
def readyV (D : MRules) (v4 v5 f g : Value) : Bool → Value
  | true => .agg #[.int .i64 D.players, .int .i64 D.each, .bool D.sameSuit, .bool D.sameRank, v4, v5, .int .i64 D.take, .int .i64 D.limit, f, g]
  | false => .agg #[.int .i64 0, .int .i64 0, .bool false, .bool false, .slice none 0 0, .slice none 0 0, .int .i64 0, .int .i64 0, .nilFunc, .nilFunc]
def ReadyAt (L : Nat) (w : World) (D : MRules) (v4 v5 f g : Value) : Prop := (∃ b4, RdAt .i64 w v4 D.wild b4) ∧ (∃ b5, RdAt .i64 w v5 D.skip b5) ∧ Means L w f (orF0 D.wild) ∧ Means L w g (orF0 D.skip)
set_option maxRecDepth 100000 in
set_option maxHeartbeats 4000000 in
theorem readyFrom_own (v : Value) (D : MRules) (w : World) (h : RdRules w v D) (hf : D.Few) (hG : Grps w) (r : Bool) (hr : rulesB D = r) :
    Calls Tryd.prog 89 #[v] w fun e w' => (∃ v4 v5 f g, e = .returned (.tuple #[readyV D v4 v5 f g r, .bool r]) ∧ Hid (v = .agg #[.int .i64 D.players, .int .i64 D.each, .bool D.sameSuit, .bool D.sameRank, v4, v5, .int .i64 D.take, .int .i64 D.limit]) ∧ (r = true → ReadyAt w.heap.size w' D v4 v5 f g)) ∧ Below w.heap.size w w' := by
  rw [rulesB_eq] at hr
  have HN := Lib.hid (fun vx wx (hx : RdRules wx vx D) => hasNums_any vx D wx hx _ rfl)
  obtain ⟨pl, ea, ss, sr, wi, sk, ta, li⟩ := D
  have Hh := Lib.hid h
  obtain ⟨v4, v5, b4, b5, rfl, h4, h5, wf0, wf1, wf6, wf7⟩ := h
  obtain ⟨f4, f5⟩ := hf
  unfold ReadyAt
  dsimp only at *
  have HW := Lib.hid (fun wx (hb : Below w.heap.size w wx) => matcherOrNone_any _ wi _ wx (h4.below hb) (by omega) (hG.below hb) _ rfl)
  have HK := Lib.hid (fun wx (hb : Below w.heap.size w wx) => matcherOrNone_any _ sk _ wx (h5.below hb) (by omega) (hG.below hb) _ rfl)
  have H45 := Lib.hid (fun wx (hb : Below w.heap.size w wx) => And.intro (h4.below hb) (h5.below hb))
  have HD := Lib.hid (fun wx (hb : Below w.heap.size w wx) => Hh.out.below hb)
  obtain ⟨p4, c4, e4, -⟩ := id h4
  obtain ⟨p5, c5, e5, -⟩ := id h5
  subst e4 e5
  have B0 : ∀ o1 o2, Below w.heap.size w ((w.alloc o1).alloc o2) := fun o1 o2 => ((Below.refl w.heap.size w).alloc (Nat.le_refl _) o1).alloc (by simp) o2
  obtain ⟨q2, hq2⟩ : ∃ q, q = patOr wi := ⟨_, rfl⟩
  obtain ⟨q3, hq3⟩ : ∃ q, q = patOr sk := ⟨_, rfl⟩
  obtain ⟨q4, hq4⟩ : ∃ q, q = numsB ⟨pl, ea, ss, sr, wi, sk, ta, li⟩ := ⟨_, rfl⟩
  rw [← hq2] at hr HW
  rw [← hq3] at hr HK
  rw [← hq4] at hr HN
  have HR := Lib.hid hr
  clear hr hq2 hq3 hq4 h4 h5 f4 f5 hG Hh
  have H2 := Lib.hid (fun w1 o1 o2 bb => two_boxesR (w := w) (w1 := w1) (o1 := o1) (o2 := o2) bb)
  go_enter Tryd.func89, Tryd.ntmps89
  go_wp2_with fail
  refine (HW.out _ (B0 _ _)).mono ?_
  rintro e w1 ⟨⟨f, rfl, hm⟩, B1⟩
  obtain ⟨Bw1, G1, G2⟩ := H2.out _ _ _ B1
  have hm0 : q2 = true → Means (w.heap.size + 2) w1 f (orF0 wi) := fun e => (hm e).weaken (by simp)
  have hz1 : w.heap.size + 2 ≤ w1.heap.size := by have := B1.size; simp at this; omega
  clear hm B1
  obtain ⟨k0, k1, k2, k3, k4, k5, k6, k7⟩ := SRules_cells G1
  go_wp2_with fail
  refine (HK.out _ Bw1).mono ?_
  rintro e w2 ⟨⟨g, rfl, hm'⟩, B2⟩
  have G1' := (B2.block _ (by omega)).trans G1
  have G2' := (B2.block _ (by omega)).trans G2
  have Bw2 := Bw1.trans (B2.mono Bw1.size)
  have hz2 : w.heap.size + 2 ≤ w2.heap.size := Nat.le_trans hz1 B2.size
  have hmw : q2 = true → Means (w.heap.size + 2) w2 f (orF0 wi) := fun e => (hm0 e).below B2
  have hmk : q3 = true → Means (w.heap.size + 2) w2 g (orF0 sk) := fun e => (hm' e).weaken hz1
  clear k0 k1 k2 k3 k4 k5 k6 k7 hm0 hm' B2 G1 G2
  obtain ⟨k0, k1, k2, k3, k4, k5, k6, k7⟩ := SRules_cells G1'
  have r0 := SRules_cell G2'
  have r1 := SRules_free G2'
  cases q2 with
  | false =>
    obtain rfl : false = r := HR.out
    have N := setAll_full G2' [.int .i64 0, .int .i64 0, .bool false, .bool false, .slice none 0 0, .slice none 0 0, .int .i64 0, .int .i64 0, .nilFunc, .nilFunc] rfl
    have NB := setAll_below (Nat.le_succ w.heap.size) [.int .i64 0, .int .i64 0, .bool false, .bool false, .slice none 0 0, .slice none 0 0, .int .i64 0, .int .i64 0, .nilFunc, .nilFunc] w2 0 Bw2
    have HN2 := Lib.hid (And.intro N NB)
    clear N NB
    go_wp2_with fail
    exact bodyPost_ret (results_row_tmp rfl _ _ (w.heap.size + 1) _ _ _ _ rfl HN2.out.1 Tryd.underlying110 rfl (by kernel_rfl)) rfl ⟨⟨_, _, .nilFunc, .nilFunc, rfl, Lib.hid rfl, fun h => by cases h⟩, HN2.out.2⟩
  | true =>
    cases q3 with
    | false =>
      obtain rfl : false = r := HR.out
      have N := setAll_full G2' [.int .i64 0, .int .i64 0, .bool false, .bool false, .slice none 0 0, .slice none 0 0, .int .i64 0, .int .i64 0, .nilFunc, .nilFunc] rfl
      have NB := setAll_below (Nat.le_succ w.heap.size) [.int .i64 0, .int .i64 0, .bool false, .bool false, .slice none 0 0, .slice none 0 0, .int .i64 0, .int .i64 0, .nilFunc, .nilFunc] w2 0 Bw2
      have HN2 := Lib.hid (And.intro N NB)
      clear N NB
      go_wp2_with fail
      exact bodyPost_ret (results_row_tmp rfl _ _ (w.heap.size + 1) _ _ _ _ rfl HN2.out.1 Tryd.underlying110 rfl (by kernel_rfl)) rfl ⟨⟨_, _, .nilFunc, .nilFunc, rfl, Lib.hid rfl, fun h => by cases h⟩, HN2.out.2⟩
    | true =>
      have HN1 := Lib.hid (HN.out _ w2 (HD.out w2 Bw2))
      go_wp2_with fail
      refine HN1.out.mono ?_
      rintro e w3 ⟨rfl, B3⟩
      have G3 := (B3.block _ (by omega)).trans G1'
      have G3b := (B3.block _ (by omega)).trans G2'
      have Bw3 := Bw2.trans (B3.mono Bw2.size)
      have hmw3 := (hmw (by trivial)).below B3
      have hmk3 := (hmk (by trivial)).below B3
      clear k0 k1 k2 k3 k4 k5 k6 k7 r0 r1 hmw hmk B3 G1' G2'
      obtain ⟨k0, k1, k2, k3, k4, k5, k6, k7⟩ := SRules_cells G3
      have r0 := SRules_cell G3b
      have r1 := SRules_free G3b
      cases q4 with
      | false =>
        obtain rfl : false = r := HR.out
        have N := setAll_full G3b [.int .i64 0, .int .i64 0, .bool false, .bool false, .slice none 0 0, .slice none 0 0, .int .i64 0, .int .i64 0, .nilFunc, .nilFunc] rfl
        have NB := setAll_below (Nat.le_succ w.heap.size) [.int .i64 0, .int .i64 0, .bool false, .bool false, .slice none 0 0, .slice none 0 0, .int .i64 0, .int .i64 0, .nilFunc, .nilFunc] w3 0 Bw3
        have HN2 := Lib.hid (And.intro N NB)
        clear N NB
        go_wp2_with fail
        exact bodyPost_ret (results_row_tmp rfl _ _ (w.heap.size + 1) _ _ _ _ rfl HN2.out.1 Tryd.underlying110 rfl (by kernel_rfl)) rfl ⟨⟨_, _, .nilFunc, .nilFunc, rfl, Lib.hid rfl, fun h => by cases h⟩, HN2.out.2⟩
      | true =>
        cases ss with
        | true =>
          obtain rfl : true = r := HR.out
          have N := setAll_full G3b [.int .i64 pl, .int .i64 ea, .bool true, .bool sr, .slice p4 wi.length c4, .slice p5 sk.length c5, .int .i64 ta, .int .i64 li, f, g] rfl
          have NB := setAll_below (Nat.le_succ w.heap.size) [.int .i64 pl, .int .i64 ea, .bool true, .bool sr, .slice p4 wi.length c4, .slice p5 sk.length c5, .int .i64 ta, .int .i64 li, f, g] w3 0 Bw3
          have H45' := H45.out _ NB
          have hK : Keeps (w.heap.size + 2) w3 (setAll w3 (w.heap.size + 1) 0 [.int .i64 pl, .int .i64 ea, .bool true, .bool sr, .slice p4 wi.length c4, .slice p5 sk.length c5, .int .i64 ta, .int .i64 li, f, g]) := ⟨by rw [setAll_size]; exact Nat.le_refl _, fun k h1 h2 => setAll_other _ _ k (by omega) _ _⟩
          have HMm := Lib.hid (And.intro ((hmw3.keep hK).weaken (Nat.le_add_right w.heap.size 2)) ((hmk3.keep hK).weaken (Nat.le_add_right w.heap.size 2)))
          have HN2 := Lib.hid (And.intro N (And.intro NB H45'))
          clear N NB H45' hK
          obtain ⟨nf, cf, ef, -⟩ := id hmw3
          obtain ⟨ng, cg, eg, -⟩ := id hmk3
          subst ef eg
          go_wp2_with fail
          exact bodyPost_ret (results_row_tmp rfl _ _ (w.heap.size + 1) _ _ _ _ rfl HN2.out.1 Tryd.underlying110 rfl (by kernel_rfl)) rfl ⟨⟨_, _, _, _, rfl, Lib.hid ⟨rfl, rfl⟩, ⟨_, HN2.out.2.2.1⟩, ⟨_, HN2.out.2.2.2⟩, HMm.out.1, HMm.out.2⟩, HN2.out.2.1⟩
        | false =>
          cases sr with
          | true =>
            obtain rfl : true = r := HR.out
            have N := setAll_full G3b [.int .i64 pl, .int .i64 ea, .bool false, .bool true, .slice p4 wi.length c4, .slice p5 sk.length c5, .int .i64 ta, .int .i64 li, f, g] rfl
            have NB := setAll_below (Nat.le_succ w.heap.size) [.int .i64 pl, .int .i64 ea, .bool false, .bool true, .slice p4 wi.length c4, .slice p5 sk.length c5, .int .i64 ta, .int .i64 li, f, g] w3 0 Bw3
            have H45' := H45.out _ NB
            have hK : Keeps (w.heap.size + 2) w3 (setAll w3 (w.heap.size + 1) 0 [.int .i64 pl, .int .i64 ea, .bool false, .bool true, .slice p4 wi.length c4, .slice p5 sk.length c5, .int .i64 ta, .int .i64 li, f, g]) := ⟨by rw [setAll_size]; exact Nat.le_refl _, fun k h1 h2 => setAll_other _ _ k (by omega) _ _⟩
            have HMm := Lib.hid (And.intro ((hmw3.keep hK).weaken (Nat.le_add_right w.heap.size 2)) ((hmk3.keep hK).weaken (Nat.le_add_right w.heap.size 2)))
            have HN2 := Lib.hid (And.intro N (And.intro NB H45'))
            clear N NB H45' hK
            obtain ⟨nf, cf, ef, -⟩ := id hmw3
            obtain ⟨ng, cg, eg, -⟩ := id hmk3
            subst ef eg
            go_wp2_with fail
            exact bodyPost_ret (results_row_tmp rfl _ _ (w.heap.size + 1) _ _ _ _ rfl HN2.out.1 Tryd.underlying110 rfl (by kernel_rfl)) rfl ⟨⟨_, _, _, _, rfl, Lib.hid ⟨rfl, rfl⟩, ⟨_, HN2.out.2.2.1⟩, ⟨_, HN2.out.2.2.2⟩, HMm.out.1, HMm.out.2⟩, HN2.out.2.1⟩
          | false =>
            obtain rfl : false = r := HR.out
            have N := setAll_full G3b [.int .i64 0, .int .i64 0, .bool false, .bool false, .slice none 0 0, .slice none 0 0, .int .i64 0, .int .i64 0, .nilFunc, .nilFunc] rfl
            have NB := setAll_below (Nat.le_succ w.heap.size) [.int .i64 0, .int .i64 0, .bool false, .bool false, .slice none 0 0, .slice none 0 0, .int .i64 0, .int .i64 0, .nilFunc, .nilFunc] w3 0 Bw3
            have HN2 := Lib.hid (And.intro N NB)
            clear N NB
            go_wp2_with fail
            exact bodyPost_ret (results_row_tmp rfl _ _ (w.heap.size + 1) _ _ _ _ rfl HN2.out.1 Tryd.underlying110 rfl (by kernel_rfl)) rfl ⟨⟨_, _, .nilFunc, .nilFunc, rfl, Lib.hid rfl, fun h => by cases h⟩, HN2.out.2⟩
theorem readyFrom_any (v : Value) (D : MRules) (w : World) (h : RdRules w v D) (hf : D.Few) (hG : Grps w) (r : Bool) (hr : rulesB D = r) :
    Calls Tryd.prog 89 #[v] w fun e w' => (∃ v4 v5 f g, e = .returned (.tuple #[readyV D v4 v5 f g r, .bool r]) ∧ (r = true → ReadyAt w.heap.size w' D v4 v5 f g)) ∧ Below w.heap.size w w' :=
  (readyFrom_own v D w h hf hG r hr).mono (by rintro e w' ⟨⟨v4, v5, f, g, h1, -, h2⟩, hb⟩; exact ⟨⟨v4, v5, f, g, h1, h2⟩, hb⟩)

end Go.Proofs.YtmfammgdcdlceaaDoor
