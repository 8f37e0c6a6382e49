/-
  FitsOn and DoesSkip, both sides.
-/
import Derived.Test.YtonpdjgokmedjaaDoorReadyF
import Derived.Test.YtonpdjgokmedjaaDoorPatMt
namespace Go.Proofs.YtonpdjgokmedjaaDoor
open Go.RowKit
set_option linter.unusedVariables false
set_option linter.unusedSimpArgs false

def fitsC (D : MRules) (t c : Int) : Bool := (D.sameSuit && (c / 13 == t / 13)) || ((D.sameRank && (c % 13 == t % 13)) || orF0 D.wild c)
def fitsOn (D : MRules) (t c : Int) : Bool := rulesB D && (isCard t && (isCard c && fitsC D t c))
def doesSkip (D : MRules) (c : Int) : Bool := rulesB D && (isCard c && orF0 D.skip c)
theorem orF0_match {p : List Int} {c : Int} (hp : patOr p = true) (hc : isCard c = true) : matchB p c = orF0 p c := by
  unfold matchB orF0 patOr at *
  rw [hc]
  by_cases h : p.length = 0
  · rw [if_pos h]
    have : p = [] := List.length_eq_zero_iff.1 h
    subst this; rfl
  · rw [if_neg h]
    simp [h] at hp
    rw [hp]; rfl
theorem match_out {p : List Int} {c : Int} (hc : isCard c = false) : matchB p c = false := by unfold matchB; rw [hc]; cases isPat p <;> rfl
theorem rulesB_pats {D : MRules} (h : rulesB D = true) : patOr D.wild = true ∧ patOr D.skip = true := by
  rw [rulesB_eq] at h
  cases h1 : patOr D.wild <;> cases h2 : patOr D.skip <;> rw [h1, h2] at h <;> simp at h ⊢
theorem matchB_card {p : List Int} {c : Int} (h : matchB p c = true) : isCard c = true := by
  cases e : isCard c with
  | true => rfl
  | false => rw [match_out e] at h; cases h
set_option maxRecDepth 100000 in
set_option maxHeartbeats 1000000 in
theorem sDoesSkip_any (v : Value) (D : MRules) (c : Int) (w : World) (h : RdRules w v D) (hf : D.Few) (r : Bool) (hr : doesSkip D c = r) :
    Calls Tryd.prog 19 #[v, .int .i64 c] w fun e w' => e = .returned (.bool r) ∧ Below w.heap.size w w' := by
  have HF := Lib.hid (fun wx (hb : Below w.heap.size w wx) => sIsRules_any v D wx (h.below hb) hf _ rfl)
  have hr2 : (rulesB D && matchB D.skip c) = r := by
    rw [← hr]; unfold doesSkip
    cases e : rulesB D with
    | false => rfl
    | true =>
      cases e2 : isCard c with
      | false => rw [match_out e2]; rfl
      | true => rw [orF0_match (rulesB_pats e).2 e2]; rfl
  obtain ⟨f4, f5⟩ := hf
  obtain ⟨pl, ea, ss, sr, wi, sk, ta, li⟩ := D
  obtain ⟨v4, v5, b4, b5, rfl, h4, h5, -, -, -, -⟩ := h
  dsimp only at *
  have HM := Lib.hid (fun wx (hb : Below w.heap.size w wx) => sMatches_any _ sk _ c wx (h5.below hb) f5 _ rfl)
  obtain ⟨p4, c4, e4, -⟩ := id h4
  obtain ⟨p5, c5, e5, -⟩ := id h5
  subst e4 e5
  generalize rulesB _ = q0 at *
  generalize matchB _ _ = q1 at *
  have HR := Lib.hid hr2
  clear hr hr2 f4 f5 h4 h5
  have B0 : ∀ o1, Below w.heap.size w (w.alloc o1) := fun o1 => (Below.refl w.heap.size w).alloc (Nat.le_refl _) o1
  have H1 := Lib.hid (fun w1 o1 bb => one_boxR (w := w) (w1 := w1) (o1 := o1) bb)
  go_enter Tryd.func19, Tryd.ntmps19
  go_wp2_with fail
  refine (HF.out _ (B0 _)).mono ?_
  rintro e w1 ⟨rfl, B1⟩
  obtain ⟨Bw1, G1⟩ := H1.out _ _ B1
  clear B1
  obtain ⟨k0, k1, k2, k3, k4, k5, k6, k7⟩ := SRules_cells G1
  cases q0 with
  | false =>
    obtain rfl : false = r := HR.out
    go_wp2_with fail
    go_ret
    exact ⟨rfl, Bw1⟩
  | true =>
    obtain rfl : q1 = r := HR.out
    go_wp2_with fail
    refine (HM.out _ Bw1).mono ?_
    rintro e w2 ⟨rfl, B2⟩
    go_wp2_with fail
    go_ret
    exact ⟨rfl, Bw1.trans (B2.mono Bw1.size)⟩
set_option maxRecDepth 100000 in
set_option maxHeartbeats 2000000 in
theorem doesSkip_any (v : Value) (D : MRules) (c : Int) (w : World) (h : RdRules w v D) (hf : D.Few) (hG : Grps w) (r : Bool) (hr : doesSkip D c = r) :
    Calls Tryd.prog 20 #[v, .int .i64 c] w fun e w' => e = .returned (.bool r) ∧ Below w.heap.size w w' := by
  have HF := Lib.hid (fun wx (hb : Below w.heap.size w wx) => readyFrom_any v D wx (h.below hb) hf (hG.below hb) _ rfl)
  obtain ⟨pl, ea, ss, sr, wi, sk, ta, li⟩ := D
  obtain ⟨p4, p5, c4, c5, hv⟩ := h.shape
  clear h hf hG
  dsimp only at hv
  subst hv
  unfold doesSkip at hr
  dsimp only at hr
  generalize rulesB _ = q0 at *
  have HR := Lib.hid hr
  clear hr
  have B0 : ∀ o1, Below w.heap.size w (w.alloc o1) := fun o1 => (Below.refl w.heap.size w).alloc (Nat.le_refl _) o1
  have H1 := Lib.hid (fun w1 o1 bb => one_boxR (w := w) (w1 := w1) (o1 := o1) bb)
  cases hc : isCard c with
  | false =>
    have HC := Lib.hid (fun wx => cardOf_out c wx hc)
    rw [hc] at HR
    clear hc
    have HR2 : Hid (false = r) := Lib.hid (by rw [← HR.out]; cases q0 <;> rfl)
    clear HR
    obtain rfl := HR2.out
    go_enter Tryd.func20, Tryd.ntmps20
    go_wp2_with fail
    refine (HF.out _ (B0 _)).mono ?_
    rintro e w1 ⟨⟨v4, v5, f, g, rfl, hrd⟩, B1⟩
    obtain ⟨Bw1, G1⟩ := H1.out _ _ B1
    clear B1 G1
    cases q0 with
    | false =>
      unfold readyV
      go_wp2_with fail
      refine (HC.out _).mono ?_
      rintro e _w ⟨rfl, rfl⟩
      go_wp2_with fail
      go_ret
      exact ⟨rfl, Bw1.alloc Bw1.size _⟩
    | true =>
      obtain ⟨⟨b4, p4, c4, e4, -⟩, ⟨b5, p5, c5, e5, -⟩, ⟨nf, cf, ef, -⟩, ⟨ng, cg, eg, -⟩⟩ := hrd rfl
      subst e4 e5 ef eg
      unfold readyV
      go_wp2_with fail
      refine (HC.out _).mono ?_
      rintro e _w ⟨rfl, rfl⟩
      go_wp2_with fail
      go_ret
      exact ⟨rfl, Bw1.alloc Bw1.size _⟩
  | true =>
    have HC := Lib.hid (fun wx => cardOf_in c wx hc)
    obtain ⟨c0, c1⟩ := isCard_t hc
    rw [hc] at HR
    clear hc
    go_enter Tryd.func20, Tryd.ntmps20
    go_wp2_with fail
    refine (HF.out _ (B0 _)).mono ?_
    rintro e w1 ⟨⟨v4, v5, f, g, rfl, hrd⟩, B1⟩
    obtain ⟨Bw1, G1⟩ := H1.out _ _ B1
    clear B1 G1
    cases q0 with
    | false =>
      obtain rfl : false = r := HR.out
      unfold readyV
      go_wp2_with fail
      refine (HC.out _).mono ?_
      rintro e _w ⟨rfl, rfl⟩
      go_wp2_with fail
      go_ret
      exact ⟨rfl, Bw1.alloc Bw1.size _⟩
    | true =>
      obtain ⟨⟨b4, p4, c4, e4, -⟩, ⟨b5, p5, c5, e5, -⟩, ⟨nf, cf, ef, -⟩, ⟨ng, cg, eg, hE, hM⟩⟩ := hrd rfl
      subst e4 e5 ef eg
      have HMc := Lib.hid (fun wx hx => hM wx hx c c0 c1)
      dsimp only at HMc
      rw [show orF0 sk c = r from HR.out] at HMc
      unfold Enters at hE
      clear hM hrd
      unfold readyV
      go_wp2_with fail
      refine (HC.out _).mono ?_
      rintro e _w ⟨rfl, rfl⟩
      go_wp2_with fail
      refine (HMc.out _ (Below.keeps ((Below.refl _ _).alloc (Nat.le_refl _) _))).mono ?_
      rintro e w2 ⟨rfl, B2⟩
      go_wp2_with fail
      go_ret
      exact ⟨rfl, (Bw1.alloc Bw1.size _).trans (B2.mono (Bw1.alloc Bw1.size _).size)⟩

set_option maxRecDepth 100000 in
set_option maxHeartbeats 4000000 in
theorem fits_any (L : Nat) (pl ea ta li : Int) (ss sr : Bool) (p4 p5 : Option Addr) (n4 c4 n5 c5 : Nat) (f g : Value) (F G : Int → Bool) (t c : Int) (w : World) (hm : Means L w f F) (hm' : Means L w g G) (t0 : 0 ≤ t) (t1 : t ≤ 51) (c0 : 0 ≤ c) (c1 : c ≤ 51) (r : Bool) (hr : ((ss && (c / 13 == t / 13)) || ((sr && (c % 13 == t % 13)) || F c)) = r) :
    Calls Tryd.prog 44 #[.agg #[.int .i64 pl, .int .i64 ea, .bool ss, .bool sr, .slice p4 n4 c4, .slice p5 n5 c5, .int .i64 ta, .int .i64 li, f, g], .int .u8 t, .int .u8 c] w fun e w' => e = .returned (.bool r) ∧ Below w.heap.size w w' := by
  obtain ⟨nf, cf, ef, hE, hM⟩ := hm
  obtain ⟨ng, cg, eg, -⟩ := hm'
  subst ef eg
  obtain ⟨a1, ha1⟩ : ∃ x, c / 13 = x := ⟨_, rfl⟩
  obtain ⟨b1, hb1⟩ : ∃ x, t / 13 = x := ⟨_, rfl⟩
  obtain ⟨a2, ha2⟩ : ∃ x, c % 13 = x := ⟨_, rfl⟩
  obtain ⟨b2, hb2⟩ : ∃ x, t % 13 = x := ⟨_, rfl⟩
  have HSc := Lib.hid (fun wx => kSuit_r c wx c0 c1 a1 ha1)
  have HSt := Lib.hid (fun wx => kSuit_r t wx t0 t1 b1 hb1)
  have HRc := Lib.hid (fun wx => kRank_r c wx c0 c1 a2 ha2)
  have HRt := Lib.hid (fun wx => kRank_r t wx t0 t1 b2 hb2)
  rw [ha1, hb1, ha2, hb2] at hr
  have HM := Lib.hid (fun wx hx => hM wx hx c c0 c1)
  obtain ⟨q, hq⟩ : ∃ q, F c = q := ⟨_, rfl⟩
  rw [hq] at hr HM
  have HR := Lib.hid hr
  unfold Enters at hE
  clear ha1 hb1 ha2 hb2 hr hq hM
  have B0 : ∀ o1, Below w.heap.size w (w.alloc o1) := fun o1 => (Below.refl w.heap.size w).alloc (Nat.le_refl _) o1
  go_enter Tryd.func44, Tryd.ntmps44
  cases ss with
  | false =>
    cases sr with
    | false =>
      obtain rfl : q = r := HR.out
      go_wp2_with fail
      refine (HM.out _ (Below.keeps (B0 _))).mono ?_
      rintro e w2 ⟨rfl, B2⟩
      go_wp2_with fail
      go_ret
      exact ⟨rfl, (B0 _).trans (B2.mono (B0 _).size)⟩
    | true =>
      go_wp2_with fail
      refine (HRc.out _).mono ?_
      rintro e _w ⟨rfl, rfl⟩
      go_wp2_with fail
      refine (HRt.out _).mono ?_
      rintro e _w ⟨rfl, rfl⟩
      cases hq2 : (a2 == b2) with
      | true =>
        rw [hq2] at HR
        obtain rfl : true = r := HR.out
        go_wp2_with fail
        go_ret
        exact ⟨rfl, B0 _⟩
      | false =>
        rw [hq2] at HR
        obtain rfl : q = r := HR.out
        go_wp2_with fail
        refine (HM.out _ (Below.keeps (B0 _))).mono ?_
        rintro e w2 ⟨rfl, B2⟩
        go_wp2_with fail
        go_ret
        exact ⟨rfl, (B0 _).trans (B2.mono (B0 _).size)⟩
  | true =>
    go_wp2_with fail
    refine (HSc.out _).mono ?_
    rintro e _w ⟨rfl, rfl⟩
    go_wp2_with fail
    refine (HSt.out _).mono ?_
    rintro e _w ⟨rfl, rfl⟩
    cases hq1 : (a1 == b1) with
    | true =>
      rw [hq1] at HR
      obtain rfl : true = r := HR.out
      go_wp2_with fail
      go_ret
      exact ⟨rfl, B0 _⟩
    | false =>
      rw [hq1] at HR
      cases sr with
      | false =>
        obtain rfl : q = r := HR.out
        go_wp2_with fail
        refine (HM.out _ (Below.keeps (B0 _))).mono ?_
        rintro e w2 ⟨rfl, B2⟩
        go_wp2_with fail
        go_ret
        exact ⟨rfl, (B0 _).trans (B2.mono (B0 _).size)⟩
      | true =>
        go_wp2_with fail
        refine (HRc.out _).mono ?_
        rintro e _w ⟨rfl, rfl⟩
        go_wp2_with fail
        refine (HRt.out _).mono ?_
        rintro e _w ⟨rfl, rfl⟩
        cases hq2 : (a2 == b2) with
        | true =>
          rw [hq2] at HR
          obtain rfl : true = r := HR.out
          go_wp2_with fail
          go_ret
          exact ⟨rfl, B0 _⟩
        | false =>
          rw [hq2] at HR
          obtain rfl : q = r := HR.out
          go_wp2_with fail
          refine (HM.out _ (Below.keeps (B0 _))).mono ?_
          rintro e w2 ⟨rfl, B2⟩
          go_wp2_with fail
          go_ret
          exact ⟨rfl, (B0 _).trans (B2.mono (B0 _).size)⟩

set_option maxRecDepth 100000 in
set_option maxHeartbeats 4000000 in
theorem fitsOn_any (v : Value) (D : MRules) (t c : Int) (w : World) (h : RdRules w v D) (hf : D.Few) (hG : Grps w) (r : Bool) (hr : fitsOn D t c = r) :
    Calls Tryd.prog 22 #[v, .int .i64 t, .int .i64 c] w fun e w' => e = .returned (.bool r) ∧ Below w.heap.size w w' := by
  have HF := Lib.hid (fun wx (hb : Below w.heap.size w wx) => readyFrom_any v D wx (h.below hb) hf (hG.below hb) _ rfl)
  obtain ⟨pl, ea, ss, sr, wi, sk, ta, li⟩ := D
  obtain ⟨p4, p5, c4, c5, hv⟩ := h.shape
  clear h hf hG
  dsimp only at hv
  subst hv
  unfold fitsOn fitsC at hr
  dsimp only at hr
  generalize rulesB _ = q0 at *
  have HR := Lib.hid hr
  clear hr
  have B0 : ∀ o1, Below w.heap.size w (w.alloc o1) := fun o1 => (Below.refl w.heap.size w).alloc (Nat.le_refl _) o1
  have H1 := Lib.hid (fun w1 o1 bb => one_boxR (w := w) (w1 := w1) (o1 := o1) bb)
  cases ht : isCard t with
  | false =>
    cases hc : isCard c with
    | false =>
      have HCt := Lib.hid (fun wx => cardOf_out t wx ht)
      have HCc := Lib.hid (fun wx => cardOf_out c wx hc)
      rw [ht, hc] at HR
      clear ht hc
      go_enter Tryd.func22, Tryd.ntmps22
      go_wp2_with fail
      refine (HF.out _ (B0 _)).mono ?_
      rintro e w1 ⟨⟨v4, v5, f, g, rfl, hrd⟩, B1⟩
      obtain ⟨Bw1, G1⟩ := H1.out _ _ B1
      clear B1 G1
      cases q0 with
      | false =>
        obtain rfl : false = r := HR.out
        unfold readyV
        go_wp2_with fail
        refine (HCt.out _).mono ?_
        rintro e _w ⟨rfl, rfl⟩
        go_wp2_with fail
        refine (HCc.out _).mono ?_
        rintro e _w ⟨rfl, rfl⟩
        go_wp2_with fail
        go_ret
        exact ⟨rfl, Bw1.alloc Bw1.size _⟩
      | true =>
        obtain ⟨⟨b4, p4, c4, e4, -⟩, ⟨b5, p5, c5, e5, -⟩, hmf, hmg⟩ := hrd rfl
        obtain ⟨nf, cf, ef, -⟩ := id hmf
        obtain ⟨ng, cg, eg, -⟩ := id hmg
        subst e4 e5 ef eg
        obtain rfl : false = r := HR.out
        unfold readyV
        go_wp2_with fail
        refine (HCt.out _).mono ?_
        rintro e _w ⟨rfl, rfl⟩
        go_wp2_with fail
        refine (HCc.out _).mono ?_
        rintro e _w ⟨rfl, rfl⟩
        go_wp2_with fail
        go_ret
        exact ⟨rfl, Bw1.alloc Bw1.size _⟩
    | true =>
      have HCt := Lib.hid (fun wx => cardOf_out t wx ht)
      have HCc := Lib.hid (fun wx => cardOf_in c wx hc)
      obtain ⟨c0, c1⟩ := isCard_t hc
      rw [ht, hc] at HR
      clear ht hc
      go_enter Tryd.func22, Tryd.ntmps22
      go_wp2_with fail
      refine (HF.out _ (B0 _)).mono ?_
      rintro e w1 ⟨⟨v4, v5, f, g, rfl, hrd⟩, B1⟩
      obtain ⟨Bw1, G1⟩ := H1.out _ _ B1
      clear B1 G1
      cases q0 with
      | false =>
        obtain rfl : false = r := HR.out
        unfold readyV
        go_wp2_with fail
        refine (HCt.out _).mono ?_
        rintro e _w ⟨rfl, rfl⟩
        go_wp2_with fail
        refine (HCc.out _).mono ?_
        rintro e _w ⟨rfl, rfl⟩
        go_wp2_with fail
        go_ret
        exact ⟨rfl, Bw1.alloc Bw1.size _⟩
      | true =>
        obtain ⟨⟨b4, p4, c4, e4, -⟩, ⟨b5, p5, c5, e5, -⟩, hmf, hmg⟩ := hrd rfl
        obtain ⟨nf, cf, ef, -⟩ := id hmf
        obtain ⟨ng, cg, eg, -⟩ := id hmg
        subst e4 e5 ef eg
        obtain rfl : false = r := HR.out
        unfold readyV
        go_wp2_with fail
        refine (HCt.out _).mono ?_
        rintro e _w ⟨rfl, rfl⟩
        go_wp2_with fail
        refine (HCc.out _).mono ?_
        rintro e _w ⟨rfl, rfl⟩
        go_wp2_with fail
        go_ret
        exact ⟨rfl, Bw1.alloc Bw1.size _⟩
  | true =>
    cases hc : isCard c with
    | false =>
      have HCt := Lib.hid (fun wx => cardOf_in t wx ht)
      have HCc := Lib.hid (fun wx => cardOf_out c wx hc)
      obtain ⟨t0, t1⟩ := isCard_t ht
      rw [ht, hc] at HR
      clear ht hc
      go_enter Tryd.func22, Tryd.ntmps22
      go_wp2_with fail
      refine (HF.out _ (B0 _)).mono ?_
      rintro e w1 ⟨⟨v4, v5, f, g, rfl, hrd⟩, B1⟩
      obtain ⟨Bw1, G1⟩ := H1.out _ _ B1
      clear B1 G1
      cases q0 with
      | false =>
        obtain rfl : false = r := HR.out
        unfold readyV
        go_wp2_with fail
        refine (HCt.out _).mono ?_
        rintro e _w ⟨rfl, rfl⟩
        go_wp2_with fail
        refine (HCc.out _).mono ?_
        rintro e _w ⟨rfl, rfl⟩
        go_wp2_with fail
        go_ret
        exact ⟨rfl, Bw1.alloc Bw1.size _⟩
      | true =>
        obtain ⟨⟨b4, p4, c4, e4, -⟩, ⟨b5, p5, c5, e5, -⟩, hmf, hmg⟩ := hrd rfl
        obtain ⟨nf, cf, ef, -⟩ := id hmf
        obtain ⟨ng, cg, eg, -⟩ := id hmg
        subst e4 e5 ef eg
        obtain rfl : false = r := HR.out
        unfold readyV
        go_wp2_with fail
        refine (HCt.out _).mono ?_
        rintro e _w ⟨rfl, rfl⟩
        go_wp2_with fail
        refine (HCc.out _).mono ?_
        rintro e _w ⟨rfl, rfl⟩
        go_wp2_with fail
        go_ret
        exact ⟨rfl, Bw1.alloc Bw1.size _⟩
    | true =>
      have HCt := Lib.hid (fun wx => cardOf_in t wx ht)
      have HCc := Lib.hid (fun wx => cardOf_in c wx hc)
      obtain ⟨t0, t1⟩ := isCard_t ht
      obtain ⟨c0, c1⟩ := isCard_t hc
      rw [ht, hc] at HR
      clear ht hc
      go_enter Tryd.func22, Tryd.ntmps22
      go_wp2_with fail
      refine (HF.out _ (B0 _)).mono ?_
      rintro e w1 ⟨⟨v4, v5, f, g, rfl, hrd⟩, B1⟩
      obtain ⟨Bw1, G1⟩ := H1.out _ _ B1
      clear B1 G1
      cases q0 with
      | false =>
        obtain rfl : false = r := HR.out
        unfold readyV
        go_wp2_with fail
        refine (HCt.out _).mono ?_
        rintro e _w ⟨rfl, rfl⟩
        go_wp2_with fail
        refine (HCc.out _).mono ?_
        rintro e _w ⟨rfl, rfl⟩
        go_wp2_with fail
        go_ret
        exact ⟨rfl, Bw1.alloc Bw1.size _⟩
      | true =>
        obtain ⟨⟨b4, p4, c4, e4, -⟩, ⟨b5, p5, c5, e5, -⟩, hmf, hmg⟩ := hrd rfl
        obtain ⟨nf, cf, ef, -⟩ := id hmf
        obtain ⟨ng, cg, eg, -⟩ := id hmg
        subst e4 e5 ef eg
        have HFi := Lib.hid (fun wx (hx : Below w1.heap.size w1 wx) => fits_any _ pl ea ta li ss sr p4 p5 wi.length c4 sk.length c5 _ _ _ _ t c wx (hmf.below hx) (hmg.below hx) t0 t1 c0 c1 r HR.out)
        clear hmf hmg hrd
        unfold readyV
        go_wp2_with fail
        refine (HCt.out _).mono ?_
        rintro e _w ⟨rfl, rfl⟩
        go_wp2_with fail
        refine (HCc.out _).mono ?_
        rintro e _w ⟨rfl, rfl⟩
        go_wp2_with fail
        refine (HFi.out _ ((Below.refl _ _).alloc (Nat.le_refl _) _)).mono ?_
        rintro e w2 ⟨rfl, B2⟩
        go_wp2_with fail
        go_ret
        exact ⟨rfl, (Bw1.alloc Bw1.size _).trans (B2.mono (Bw1.alloc Bw1.size _).size)⟩
set_option maxRecDepth 100000 in
set_option maxHeartbeats 4000000 in
theorem sFitsOn_any (v : Value) (D : MRules) (t c : Int) (w : World) (h : RdRules w v D) (hf : D.Few) (r : Bool) (hr : fitsOn D t c = r) :
    Calls Tryd.prog 21 #[v, .int .i64 t, .int .i64 c] w fun e w' => e = .returned (.bool r) ∧ Below w.heap.size w w' := by
  have HF := Lib.hid (fun wx (hb : Below w.heap.size w wx) => sIsRules_any v D wx (h.below hb) hf _ rfl)
  have hpw : rulesB D = true → patOr D.wild = true := fun e => (rulesB_pats e).1
  obtain ⟨f4, f5⟩ := hf
  obtain ⟨pl, ea, ss, sr, wi, sk, ta, li⟩ := D
  obtain ⟨v4, v5, b4, b5, rfl, h4, h5, -, -, -, -⟩ := h
  dsimp only at *
  have HM := Lib.hid (fun wx (hb : Below w.heap.size w wx) => sMatches_any _ wi _ c wx (h4.below hb) f4 _ rfl)
  obtain ⟨p4, c4, e4, -⟩ := id h4
  obtain ⟨p5, c5, e5, -⟩ := id h5
  subst e4 e5
  unfold fitsOn fitsC at hr
  dsimp only at hr
  generalize rulesB _ = q0 at *
  have HR := Lib.hid hr
  clear hr f4 f5 h4 h5
  have B0 : ∀ o1, Below w.heap.size w (w.alloc o1) := fun o1 => (Below.refl w.heap.size w).alloc (Nat.le_refl _) o1
  have H1 := Lib.hid (fun w1 o1 bb => one_boxR (w := w) (w1 := w1) (o1 := o1) bb)
  have HT := Lib.hid (fun wx => sIsCard_r t wx _ rfl)
  have HC := Lib.hid (fun wx => sIsCard_r c wx _ rfl)
  have HST := Lib.hid (fun wx => sSuitOf_r t wx _ rfl)
  have HSC := Lib.hid (fun wx => sSuitOf_r c wx _ rfl)
  have HRT := Lib.hid (fun wx => sRankOf_r t wx _ rfl)
  have HRC := Lib.hid (fun wx => sRankOf_r c wx _ rfl)
  have SW : isCard t = true → isCard c = true → suitOf t = t / 13 ∧ suitOf c = c / 13 ∧ rankOf t = t % 13 ∧ rankOf c = c % 13 := fun ht hc => ⟨suit_in ht, suit_in hc, rank_in ht, rank_in hc⟩
  have MW : q0 = true → isCard c = true → matchB wi c = orF0 wi c := fun e hc => orF0_match (hpw e) hc
  clear hpw
  generalize suitOf t = st at *
  generalize suitOf c = sc at *
  generalize rankOf t = rt at *
  generalize rankOf c = rc at *
  generalize isCard t = qt at *
  generalize isCard c = qc at *
  generalize matchB wi c = q at *
  go_enter Tryd.func21, Tryd.ntmps21
  go_wp2_with fail
  refine (HF.out _ (B0 _)).mono ?_
  rintro e w1 ⟨rfl, B1⟩
  obtain ⟨Bw1, G1⟩ := H1.out _ _ B1
  clear B1
  obtain ⟨k0, k1, k2, k3, k4, k5, k6, k7⟩ := SRules_cells G1
  cases q0 with
  | false =>
    obtain rfl : false = r := HR.out
    go_wp2_with fail
    go_ret
    exact ⟨rfl, Bw1⟩
  | true =>
    go_wp2_with fail
    refine (HT.out _).mono ?_
    rintro e _w ⟨rfl, rfl⟩
    cases qt with
    | false =>
      obtain rfl : false = r := HR.out
      go_wp2_with fail
      go_ret
      exact ⟨rfl, Bw1⟩
    | true =>
      go_wp2_with fail
      refine (HC.out _).mono ?_
      rintro e _w ⟨rfl, rfl⟩
      cases qc with
      | false =>
        obtain rfl : false = r := HR.out
        go_wp2_with fail
        go_ret
        exact ⟨rfl, Bw1⟩
      | true =>
        obtain ⟨hst, hsc, hrt, hrc⟩ := SW (by trivial) (by trivial)
        have hmq := MW (by trivial) (by trivial)
        have HR2 : Hid (((ss && (sc == st)) || ((sr && (rc == rt)) || q)) = r) := Lib.hid (by rw [hst, hsc, hrt, hrc, hmq]; exact HR.out)
        clear HR SW MW hst hsc hrt hrc hmq
        have HR := HR2
        clear HR2
        cases ss with
        | false =>
          cases sr with
          | false =>
            obtain rfl : q = r := HR.out
            go_wp2_with fail
            refine (HM.out _ Bw1).mono ?_
            rintro e w2 ⟨rfl, B2⟩
            go_wp2_with fail
            go_ret
            exact ⟨rfl, Bw1.trans (B2.mono Bw1.size)⟩
          | true =>
            go_wp2_with fail
            refine (HRC.out _).mono ?_
            rintro e _w ⟨rfl, rfl⟩
            go_wp2_with fail
            refine (HRT.out _).mono ?_
            rintro e _w ⟨rfl, rfl⟩
            cases hq2 : (rc == rt) with
            | true =>
              rw [hq2] at HR
              obtain rfl : true = r := HR.out
              go_wp2_with fail
              go_ret
              exact ⟨rfl, Bw1⟩
            | false =>
              rw [hq2] at HR
              obtain rfl : q = r := HR.out
              go_wp2_with fail
              refine (HM.out _ Bw1).mono ?_
              rintro e w2 ⟨rfl, B2⟩
              go_wp2_with fail
              go_ret
              exact ⟨rfl, Bw1.trans (B2.mono Bw1.size)⟩
        | true =>
          go_wp2_with fail
          refine (HSC.out _).mono ?_
          rintro e _w ⟨rfl, rfl⟩
          go_wp2_with fail
          refine (HST.out _).mono ?_
          rintro e _w ⟨rfl, rfl⟩
          cases hq1 : (sc == st) with
          | true =>
            rw [hq1] at HR
            obtain rfl : true = r := HR.out
            go_wp2_with fail
            go_ret
            exact ⟨rfl, Bw1⟩
          | false =>
            rw [hq1] at HR
            cases sr with
            | false =>
              obtain rfl : q = r := HR.out
              go_wp2_with fail
              refine (HM.out _ Bw1).mono ?_
              rintro e w2 ⟨rfl, B2⟩
              go_wp2_with fail
              go_ret
              exact ⟨rfl, Bw1.trans (B2.mono Bw1.size)⟩
            | true =>
              go_wp2_with fail
              refine (HRC.out _).mono ?_
              rintro e _w ⟨rfl, rfl⟩
              go_wp2_with fail
              refine (HRT.out _).mono ?_
              rintro e _w ⟨rfl, rfl⟩
              cases hq2 : (rc == rt) with
              | true =>
                rw [hq2] at HR
                obtain rfl : true = r := HR.out
                go_wp2_with fail
                go_ret
                exact ⟨rfl, Bw1⟩
              | false =>
                rw [hq2] at HR
                obtain rfl : q = r := HR.out
                go_wp2_with fail
                refine (HM.out _ Bw1).mono ?_
                rintro e w2 ⟨rfl, B2⟩
                go_wp2_with fail
                go_ret
                exact ⟨rfl, Bw1.trans (B2.mono Bw1.size)⟩
end Go.Proofs.YtonpdjgokmedjaaDoor
