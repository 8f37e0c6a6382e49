/-
  Several texts in one: FitsOn and DoesSkip, both sides. Without, both sides. Moves of a game, as meanings: what can be played, a card played, cards taken. No program in this text. A region that draws its order, with several calls that make memory: each operation of a list J has its own contract, whichever order is drawn; no order is gone through one by one. Slices of slices found marked; loads and stores of whole structs as rows; small words for the walks over struct results. Slices and slices of slices that a call owns, block by block: rows may grow and be replaced.
-/
import Derived.Test.YtijdhpkeojkphaaGreatDoorM9
import Derived.Test.YtijdhpkeojkphaaGreatDoorPatMt
import Derived.Test.YtijdhpkeojkphaaGreatDoorM4
import Derived.Test.YtijdhpkeojkphaaGreatDoorM8
import Derived.OrdersHeld
import Derived.Below
import Derived.Deep.RegionHeld3
import Derived.Deep.Cut
import Derived.Maps.AppendAt
import Derived.ArgAppend
namespace Go.Proofs.YtijdhpkeojkphaaGreatDoor
open Go.RowKit
set_option linter.unusedVariables false
set_option linter.unusedSimpArgs false

def fitsC (D : MRules) (t c : Int) : Bool := (D.sameSuit && (c / 13 == t / 13)) || ((D.sameRank && (c % 13 == t % 13)) || orF0 D.wild c)
def fitsOn (D : MRules) (t c : Int) : Bool := rulesB D && (isCard t && (isCard c && fitsC D t c))
def doesSkip (D : MRules) (c : Int) : Bool := rulesB D && (isCard c && orF0 D.skip c)
theorem orF0_match {p : List Int} {c : Int} (hp : patOr p = true) (hc : isCard c = true) : matchB p c = orF0 p c := by
  unfold matchB orF0 patOr at *
  rw [hc]
  by_cases h : p.length = 0
  · rw [if_pos h]
    have : p = [] := List.length_eq_zero_iff.1 h
    subst this; rfl
  · rw [if_neg h]
    simp [h] at hp
    rw [hp]; rfl
theorem match_out {p : List Int} {c : Int} (hc : isCard c = false) : matchB p c = false := by unfold matchB; rw [hc]; cases isPat p <;> rfl
theorem rulesB_pats {D : MRules} (h : rulesB D = true) : patOr D.wild = true ∧ patOr D.skip = true := by
  rw [rulesB_eq] at h
  cases h1 : patOr D.wild <;> cases h2 : patOr D.skip <;> rw [h1, h2] at h <;> simp at h ⊢
theorem matchB_card {p : List Int} {c : Int} (h : matchB p c = true) : isCard c = true := by
  cases e : isCard c with
  | true => rfl
  | false => rw [match_out e] at h; cases h
set_option maxRecDepth 100000 in
set_option maxHeartbeats 1000000 in
theorem sDoesSkip_any (v : Value) (D : MRules) (c : Int) (w : World) (h : RdRules w v D) (hf : D.Few) (r : Bool) (hr : doesSkip D c = r) :
    Calls Tryz.prog 45 #[v, .int .i64 c] w fun e w' => e = .returned (.bool r) ∧ Below w.heap.size w w' := by
  have HF := Lib.hid (fun wx (hb : Below w.heap.size w wx) => sIsRules_any v D wx (h.below hb) hf _ rfl)
  have hr2 : (rulesB D && matchB D.skip c) = r := by
    rw [← hr]; unfold doesSkip
    cases e : rulesB D with
    | false => rfl
    | true =>
      cases e2 : isCard c with
      | false => rw [match_out e2]; rfl
      | true => rw [orF0_match (rulesB_pats e).2 e2]; rfl
  obtain ⟨f4, f5⟩ := hf
  obtain ⟨pl, ea, ss, sr, wi, sk, ta, li⟩ := D
  obtain ⟨v4, v5, b4, b5, rfl, h4, h5, -, -, -, -⟩ := h
  dsimp only at *
  have HM := Lib.hid (fun wx (hb : Below w.heap.size w wx) => sMatches_any _ sk _ c wx (h5.below hb) f5 _ rfl)
  obtain ⟨p4, c4, e4, -⟩ := id h4
  obtain ⟨p5, c5, e5, -⟩ := id h5
  subst e4 e5
  generalize rulesB _ = q0 at *
  generalize matchB _ _ = q1 at *
  have HR := Lib.hid hr2
  clear hr hr2 f4 f5 h4 h5
  have B0 : ∀ o1, Below w.heap.size w (w.alloc o1) := fun o1 => (Below.refl w.heap.size w).alloc (Nat.le_refl _) o1
  have H1 := Lib.hid (fun w1 o1 bb => one_boxR (w := w) (w1 := w1) (o1 := o1) bb)
  go_enter Tryz.func45, Tryz.ntmps45
  go_wp2_with fail
  refine (HF.out _ (B0 _)).mono ?_
  rintro e w1 ⟨rfl, B1⟩
  obtain ⟨Bw1, G1⟩ := H1.out _ _ B1
  clear B1
  obtain ⟨k0, k1, k2, k3, k4, k5, k6, k7⟩ := SRules_cells G1
  cases q0 with
  | false =>
    obtain rfl : false = r := HR.out
    go_wp2_with fail
    go_ret
    exact ⟨rfl, Bw1⟩
  | true =>
    obtain rfl : q1 = r := HR.out
    go_wp2_with fail
    refine (HM.out _ Bw1).mono ?_
    rintro e w2 ⟨rfl, B2⟩
    go_wp2_with fail
    go_ret
    exact ⟨rfl, Bw1.trans (B2.mono Bw1.size)⟩

set_option maxRecDepth 100000 in
set_option maxHeartbeats 4000000 in
theorem fits_any (L : Nat) (pl ea ta li : Int) (ss sr : Bool) (p4 p5 : Option Addr) (n4 c4 n5 c5 : Nat) (f g : Value) (F G : Int → Bool) (t c : Int) (w : World) (hm : Means L w f F) (hm' : Means L w g G) (t0 : 0 ≤ t) (t1 : t ≤ 51) (c0 : 0 ≤ c) (c1 : c ≤ 51) (r : Bool) (hr : ((ss && (c / 13 == t / 13)) || ((sr && (c % 13 == t % 13)) || F c)) = r) :
    Calls Tryz.prog 88 #[.agg #[.int .i64 pl, .int .i64 ea, .bool ss, .bool sr, .slice p4 n4 c4, .slice p5 n5 c5, .int .i64 ta, .int .i64 li, f, g], .int .u8 t, .int .u8 c] w fun e w' => e = .returned (.bool r) ∧ Below w.heap.size w w' := by
  obtain ⟨nf, cf, ef, hE, hM⟩ := hm
  obtain ⟨ng, cg, eg, -⟩ := hm'
  subst ef eg
  obtain ⟨a1, ha1⟩ : ∃ x, c / 13 = x := ⟨_, rfl⟩
  obtain ⟨b1, hb1⟩ : ∃ x, t / 13 = x := ⟨_, rfl⟩
  obtain ⟨a2, ha2⟩ : ∃ x, c % 13 = x := ⟨_, rfl⟩
  obtain ⟨b2, hb2⟩ : ∃ x, t % 13 = x := ⟨_, rfl⟩
  have HSc := Lib.hid (fun wx => kSuit_r c wx c0 c1 a1 ha1)
  have HSt := Lib.hid (fun wx => kSuit_r t wx t0 t1 b1 hb1)
  have HRc := Lib.hid (fun wx => kRank_r c wx c0 c1 a2 ha2)
  have HRt := Lib.hid (fun wx => kRank_r t wx t0 t1 b2 hb2)
  rw [ha1, hb1, ha2, hb2] at hr
  have HM := Lib.hid (fun wx hx => hM wx hx c c0 c1)
  obtain ⟨q, hq⟩ : ∃ q, F c = q := ⟨_, rfl⟩
  rw [hq] at hr HM
  have HR := Lib.hid hr
  unfold Enters at hE
  clear ha1 hb1 ha2 hb2 hr hq hM
  have B0 : ∀ o1, Below w.heap.size w (w.alloc o1) := fun o1 => (Below.refl w.heap.size w).alloc (Nat.le_refl _) o1
  go_enter Tryz.func88, Tryz.ntmps88
  cases ss with
  | false =>
    cases sr with
    | false =>
      obtain rfl : q = r := HR.out
      go_wp2_with fail
      refine (HM.out _ (Below.keeps (B0 _))).mono ?_
      rintro e w2 ⟨rfl, B2⟩
      go_wp2_with fail
      go_ret
      exact ⟨rfl, (B0 _).trans (B2.mono (B0 _).size)⟩
    | true =>
      go_wp2_with fail
      refine (HRc.out _).mono ?_
      rintro e _w ⟨rfl, rfl⟩
      go_wp2_with fail
      refine (HRt.out _).mono ?_
      rintro e _w ⟨rfl, rfl⟩
      cases hq2 : (a2 == b2) with
      | true =>
        rw [hq2] at HR
        obtain rfl : true = r := HR.out
        go_wp2_with fail
        go_ret
        exact ⟨rfl, B0 _⟩
      | false =>
        rw [hq2] at HR
        obtain rfl : q = r := HR.out
        go_wp2_with fail
        refine (HM.out _ (Below.keeps (B0 _))).mono ?_
        rintro e w2 ⟨rfl, B2⟩
        go_wp2_with fail
        go_ret
        exact ⟨rfl, (B0 _).trans (B2.mono (B0 _).size)⟩
  | true =>
    go_wp2_with fail
    refine (HSc.out _).mono ?_
    rintro e _w ⟨rfl, rfl⟩
    go_wp2_with fail
    refine (HSt.out _).mono ?_
    rintro e _w ⟨rfl, rfl⟩
    cases hq1 : (a1 == b1) with
    | true =>
      rw [hq1] at HR
      obtain rfl : true = r := HR.out
      go_wp2_with fail
      go_ret
      exact ⟨rfl, B0 _⟩
    | false =>
      rw [hq1] at HR
      cases sr with
      | false =>
        obtain rfl : q = r := HR.out
        go_wp2_with fail
        refine (HM.out _ (Below.keeps (B0 _))).mono ?_
        rintro e w2 ⟨rfl, B2⟩
        go_wp2_with fail
        go_ret
        exact ⟨rfl, (B0 _).trans (B2.mono (B0 _).size)⟩
      | true =>
        go_wp2_with fail
        refine (HRc.out _).mono ?_
        rintro e _w ⟨rfl, rfl⟩
        go_wp2_with fail
        refine (HRt.out _).mono ?_
        rintro e _w ⟨rfl, rfl⟩
        cases hq2 : (a2 == b2) with
        | true =>
          rw [hq2] at HR
          obtain rfl : true = r := HR.out
          go_wp2_with fail
          go_ret
          exact ⟨rfl, B0 _⟩
        | false =>
          rw [hq2] at HR
          obtain rfl : q = r := HR.out
          go_wp2_with fail
          refine (HM.out _ (Below.keeps (B0 _))).mono ?_
          rintro e w2 ⟨rfl, B2⟩
          go_wp2_with fail
          go_ret
          exact ⟨rfl, (B0 _).trans (B2.mono (B0 _).size)⟩

set_option maxRecDepth 100000 in
set_option maxHeartbeats 4000000 in
theorem sFitsOn_any (v : Value) (D : MRules) (t c : Int) (w : World) (h : RdRules w v D) (hf : D.Few) (r : Bool) (hr : fitsOn D t c = r) :
    Calls Tryz.prog 32 #[v, .int .i64 t, .int .i64 c] w fun e w' => e = .returned (.bool r) ∧ Below w.heap.size w w' := by
  have HF := Lib.hid (fun wx (hb : Below w.heap.size w wx) => sIsRules_any v D wx (h.below hb) hf _ rfl)
  have hpw : rulesB D = true → patOr D.wild = true := fun e => (rulesB_pats e).1
  obtain ⟨f4, f5⟩ := hf
  obtain ⟨pl, ea, ss, sr, wi, sk, ta, li⟩ := D
  obtain ⟨v4, v5, b4, b5, rfl, h4, h5, -, -, -, -⟩ := h
  dsimp only at *
  have HM := Lib.hid (fun wx (hb : Below w.heap.size w wx) => sMatches_any _ wi _ c wx (h4.below hb) f4 _ rfl)
  obtain ⟨p4, c4, e4, -⟩ := id h4
  obtain ⟨p5, c5, e5, -⟩ := id h5
  subst e4 e5
  unfold fitsOn fitsC at hr
  dsimp only at hr
  generalize rulesB _ = q0 at *
  have HR := Lib.hid hr
  clear hr f4 f5 h4 h5
  have B0 : ∀ o1, Below w.heap.size w (w.alloc o1) := fun o1 => (Below.refl w.heap.size w).alloc (Nat.le_refl _) o1
  have H1 := Lib.hid (fun w1 o1 bb => one_boxR (w := w) (w1 := w1) (o1 := o1) bb)
  have HT := Lib.hid (fun wx => sIsCard_r t wx _ rfl)
  have HC := Lib.hid (fun wx => sIsCard_r c wx _ rfl)
  have HST := Lib.hid (fun wx => sSuitOf_r t wx _ rfl)
  have HSC := Lib.hid (fun wx => sSuitOf_r c wx _ rfl)
  have HRT := Lib.hid (fun wx => sRankOf_r t wx _ rfl)
  have HRC := Lib.hid (fun wx => sRankOf_r c wx _ rfl)
  have SW : isCard t = true → isCard c = true → suitOf t = t / 13 ∧ suitOf c = c / 13 ∧ rankOf t = t % 13 ∧ rankOf c = c % 13 := fun ht hc => ⟨suit_in ht, suit_in hc, rank_in ht, rank_in hc⟩
  have MW : q0 = true → isCard c = true → matchB wi c = orF0 wi c := fun e hc => orF0_match (hpw e) hc
  clear hpw
  generalize suitOf t = st at *
  generalize suitOf c = sc at *
  generalize rankOf t = rt at *
  generalize rankOf c = rc at *
  generalize isCard t = qt at *
  generalize isCard c = qc at *
  generalize matchB wi c = q at *
  go_enter Tryz.func32, Tryz.ntmps32
  go_wp2_with fail
  refine (HF.out _ (B0 _)).mono ?_
  rintro e w1 ⟨rfl, B1⟩
  obtain ⟨Bw1, G1⟩ := H1.out _ _ B1
  clear B1
  obtain ⟨k0, k1, k2, k3, k4, k5, k6, k7⟩ := SRules_cells G1
  cases q0 with
  | false =>
    obtain rfl : false = r := HR.out
    go_wp2_with fail
    go_ret
    exact ⟨rfl, Bw1⟩
  | true =>
    go_wp2_with fail
    refine (HT.out _).mono ?_
    rintro e _w ⟨rfl, rfl⟩
    cases qt with
    | false =>
      obtain rfl : false = r := HR.out
      go_wp2_with fail
      go_ret
      exact ⟨rfl, Bw1⟩
    | true =>
      go_wp2_with fail
      refine (HC.out _).mono ?_
      rintro e _w ⟨rfl, rfl⟩
      cases qc with
      | false =>
        obtain rfl : false = r := HR.out
        go_wp2_with fail
        go_ret
        exact ⟨rfl, Bw1⟩
      | true =>
        obtain ⟨hst, hsc, hrt, hrc⟩ := SW (by trivial) (by trivial)
        have hmq := MW (by trivial) (by trivial)
        have HR2 : Hid (((ss && (sc == st)) || ((sr && (rc == rt)) || q)) = r) := Lib.hid (by rw [hst, hsc, hrt, hrc, hmq]; exact HR.out)
        clear HR SW MW hst hsc hrt hrc hmq
        have HR := HR2
        clear HR2
        cases ss with
        | false =>
          cases sr with
          | false =>
            obtain rfl : q = r := HR.out
            go_wp2_with fail
            refine (HM.out _ Bw1).mono ?_
            rintro e w2 ⟨rfl, B2⟩
            go_wp2_with fail
            go_ret
            exact ⟨rfl, Bw1.trans (B2.mono Bw1.size)⟩
          | true =>
            go_wp2_with fail
            refine (HRC.out _).mono ?_
            rintro e _w ⟨rfl, rfl⟩
            go_wp2_with fail
            refine (HRT.out _).mono ?_
            rintro e _w ⟨rfl, rfl⟩
            cases hq2 : (rc == rt) with
            | true =>
              rw [hq2] at HR
              obtain rfl : true = r := HR.out
              go_wp2_with fail
              go_ret
              exact ⟨rfl, Bw1⟩
            | false =>
              rw [hq2] at HR
              obtain rfl : q = r := HR.out
              go_wp2_with fail
              refine (HM.out _ Bw1).mono ?_
              rintro e w2 ⟨rfl, B2⟩
              go_wp2_with fail
              go_ret
              exact ⟨rfl, Bw1.trans (B2.mono Bw1.size)⟩
        | true =>
          go_wp2_with fail
          refine (HSC.out _).mono ?_
          rintro e _w ⟨rfl, rfl⟩
          go_wp2_with fail
          refine (HST.out _).mono ?_
          rintro e _w ⟨rfl, rfl⟩
          cases hq1 : (sc == st) with
          | true =>
            rw [hq1] at HR
            obtain rfl : true = r := HR.out
            go_wp2_with fail
            go_ret
            exact ⟨rfl, Bw1⟩
          | false =>
            rw [hq1] at HR
            cases sr with
            | false =>
              obtain rfl : q = r := HR.out
              go_wp2_with fail
              refine (HM.out _ Bw1).mono ?_
              rintro e w2 ⟨rfl, B2⟩
              go_wp2_with fail
              go_ret
              exact ⟨rfl, Bw1.trans (B2.mono Bw1.size)⟩
            | true =>
              go_wp2_with fail
              refine (HRC.out _).mono ?_
              rintro e _w ⟨rfl, rfl⟩
              go_wp2_with fail
              refine (HRT.out _).mono ?_
              rintro e _w ⟨rfl, rfl⟩
              cases hq2 : (rc == rt) with
              | true =>
                rw [hq2] at HR
                obtain rfl : true = r := HR.out
                go_wp2_with fail
                go_ret
                exact ⟨rfl, Bw1⟩
              | false =>
                rw [hq2] at HR
                obtain rfl : q = r := HR.out
                go_wp2_with fail
                refine (HM.out _ Bw1).mono ?_
                rintro e w2 ⟨rfl, B2⟩
                go_wp2_with fail
                go_ret
                exact ⟨rfl, Bw1.trans (B2.mono Bw1.size)⟩
end Go.Proofs.YtijdhpkeojkphaaGreatDoor
namespace Go.Proofs.YtijdhpkeojkphaaGreatDoor
open Go.RowKit

def without (zs : List Int) (c : Int) : List Int := zs.filter fun x => x != c
theorem without_take (zs : List Int) (c : Int) (k : Nat) (h : k < zs.length) : without (zs.take (k + 1)) c = without (zs.take k) c ++ if zs[k] != c then [zs[k]] else [] := by
  unfold without
  rw [List.take_succ_eq_append_getElem h, List.filter_append]
  congr 1
  by_cases e : zs[k] = c <;> simp [e]
theorem without_le (zs : List Int) (c : Int) : (without zs c).length ≤ zs.length := List.length_filter_le _ _

set_option maxRecDepth 100000 in
set_option maxHeartbeats 400000 in
theorem sWithout_any (v : Value) (zs : List Int) (b : Nat) (c : Int) (w : World) (h : RdAt .i64 w v zs b) (hl : zs.length ≤ 1099511627776) :
    Calls Tryz.prog 44 #[v, .int .i64 c] w fun e w' => ∃ v' b', e = .returned v' ∧ w.heap.size ≤ b' ∧ WrAt .i64 w' v' (without zs c) b' ∧ Below w.heap.size w w' := by
  obtain ⟨i0, hi, hz0, hz1, hz2⟩ := info_parts info_i64
  obtain ⟨a, cap, rfl, -, hwf, hcell⟩ := h
  obtain ⟨n, hn⟩ : ∃ n, n = zs.length := ⟨_, rfl⟩
  have Hn := Lib.hid hn
  rw [← hn] at hl ⊢
  clear hn
  go_enter Tryz.func44, Tryz.ntmps44
  go_wp2_with fail
  have hown0 := World.ownsRow_lit (base := w.heap.size) (e := 3) (size := 1) w #[] 0 (Nat.le_refl _) (Nat.zero_le _) rfl
  go_loopw [5, 6] (fun o i wr => ∃ k : Nat, k ≤ n ∧ i = .int .i64 k ∧ Below w.heap.size w wr ∧ wr.ownsRow w.heap.size 3 1 o (without (zs.take k) c).length ((without (zs.take k) c).map (Value.int .i64))) (fun _ i _ => n - (intOf i).toNat)
  case atStart => exact ⟨0, Nat.zero_le _, rfl, (Below.refl _ _).alloc (Nat.le_refl _) _, hown0⟩
  case round =>
    clear hown0
    obtain ⟨k, hk, rfl, hb2, hown⟩ := hrel
    by_cases hlt : k < n
    · have hzl : k < zs.length := by rw [← Hn.out]; exact hlt
      rcases hcell with h0 | ⟨off, rfl, hc⟩
      · subst h0; simp at hzl
      obtain ⟨y, hy⟩ : ∃ y, Hid (y = zs[k]) := ⟨_, Lib.hid rfl⟩
      have hc1 : wr.cell? ⟨b, off + k, none⟩ = some (.int .i64 y) := by
        have h1 := hc k hzl
        rw [hb2.cell (World.block_lt_of_cell? _ _ h1), h1, hy.out]
      have hstep := without_take zs c k hzl
      rw [← hy.out] at hstep
      clear hc
      by_cases hyc : y = c
      · subst hyc
        have hq : (y != y) = false := by simp
        rw [hq] at hstep
        have hrel2 : Hid (without (zs.take (k + 1)) y = without (zs.take k) y) := Lib.hid (by rw [hstep]; simp)
        clear hstep
        go_wp2_with fail
        go_roundw
        case rel => exact ⟨k + 1, by omega, by go_num, hb2, by rw [hrel2.out]; exact hown⟩
        case measure => simp [intOf]; omega
      · have hq : (y != c) = true := by simpa using hyc
        rw [hq] at hstep
        have hrel2 : Hid (without (zs.take (k + 1)) c = without (zs.take k) c ++ [y]) := Lib.hid (by rw [hstep]; simp)
        have hle := without_le (zs.take k) c
        have hle2 : (without (zs.take k) c).length ≤ n := Nat.le_trans hle (by rw [List.length_take, Hn.out]; omega)
        clear hstep hyc hle
        generalize without (zs.take k) c = F at *
        have hsz := hb2.size
        go_wp2_with (at_builtin; refine wpList_append_own _ rfl _ _ 22 rfl w.heap.size 3 i0 (.int .i64 0) 1 8 Tryz.underlying22 hi hz0 hz1 hz2 rfl (by decide) _ _ _ rfl (hown.alloc _) ⟨wr.heap.size, 0, none⟩ 1 1 [.int .i64 y] rfl rfl ?c1 ?c2 ?c3 ?c4 ?c5 ?_)
        case c1 => exact cell_one_new _ _ _
        case c2 => intro u hu; simp at hu; subst hu; rfl
        case c3 => unfold maxLen; omega
        case c4 => omega
        case c5 => simp; omega
        intro v' w1 hown' hgrow _
        have hb3 : Below w.heap.size w w1 := (hb2.alloc hsz _).grown hgrow (by simp; omega) (own_block hown)
        have hown2 := own_snoc hown'
        clear hown' hgrow hown hb2
        go_wp2_with fail
        go_roundw
        case rel => exact ⟨k + 1, by omega, by go_num, hb3, by rw [hrel2.out]; exact hown2⟩
        case measure => simp [intOf]; omega
    · obtain rfl : k = n := by omega
      have e : zs.take k = zs := List.take_of_length_le (by rw [Hn.out]; exact Nat.le_refl _)
      rw [e] at hown
      have hwr := Lib.hid (own_wr hown (fun x hx => hwf x (List.mem_filter.1 hx).1))
      clear hown e
      go_wp2_with fail
      go_ret
      obtain ⟨b', hb', hw'⟩ := hwr.out
      exact ⟨_, b', rfl, hb', hw', hb2⟩
set_option maxRecDepth 100000 in
set_option maxHeartbeats 400000 in
theorem without_any (v : Value) (zs : List Int) (b : Nat) (c : Int) (w : World) (h : RdAt .i64 w v zs b) (hl : zs.length ≤ 1099511627776) :
    Calls Tryz.prog 168 #[v, .int .i64 c] w fun e w' => ∃ v' b', e = .returned v' ∧ w.heap.size ≤ b' ∧ WrAt .i64 w' v' (without zs c) b' ∧ Below w.heap.size w w' := by
  obtain ⟨i0, hi, hz0, hz1, hz2⟩ := info_parts info_i64
  obtain ⟨a, cap, rfl, -, hwf, hcell⟩ := h
  obtain ⟨n, hn⟩ : ∃ n, n = zs.length := ⟨_, rfl⟩
  have Hn := Lib.hid hn
  rw [← hn] at hl ⊢
  clear hn
  go_enter Tryz.func168, Tryz.ntmps168
  go_wp2_with fail
  have hown0 := World.ownsRow_lit (base := w.heap.size) (e := 3) (size := 1) w #[] 0 (Nat.le_refl _) (Nat.zero_le _) rfl
  go_loopw [5, 11] (fun o i wr => ∃ k : Nat, k ≤ n ∧ i = .int .i64 k ∧ Below w.heap.size w wr ∧ wr.ownsRow w.heap.size 3 1 o (without (zs.take k) c).length ((without (zs.take k) c).map (Value.int .i64))) (fun _ i _ => n - (intOf i).toNat)
  case atStart => exact ⟨0, Nat.zero_le _, rfl, (Below.refl _ _).alloc (Nat.le_refl _) _, hown0⟩
  case round =>
    clear hown0
    obtain ⟨k, hk, rfl, hb2, hown⟩ := hrel
    by_cases hlt : k < n
    · have hzl : k < zs.length := by rw [← Hn.out]; exact hlt
      rcases hcell with h0 | ⟨off, rfl, hc⟩
      · subst h0; simp at hzl
      obtain ⟨y, hy⟩ : ∃ y, Hid (y = zs[k]) := ⟨_, Lib.hid rfl⟩
      have hc1 : wr.cell? ⟨b, off + k, none⟩ = some (.int .i64 y) := by
        have h1 := hc k hzl
        rw [hb2.cell (World.block_lt_of_cell? _ _ h1), h1, hy.out]
      have hstep := without_take zs c k hzl
      rw [← hy.out] at hstep
      clear hc
      by_cases hyc : y = c
      · subst hyc
        have hq : (y != y) = false := by simp
        rw [hq] at hstep
        have hrel2 : Hid (without (zs.take (k + 1)) y = without (zs.take k) y) := Lib.hid (by rw [hstep]; simp)
        clear hstep
        go_wp2_with fail
        go_roundw
        case rel => exact ⟨k + 1, by omega, by go_num, hb2, by rw [hrel2.out]; exact hown⟩
        case measure => simp [intOf]; omega
      · have hq : (y != c) = true := by simpa using hyc
        rw [hq] at hstep
        have hrel2 : Hid (without (zs.take (k + 1)) c = without (zs.take k) c ++ [y]) := Lib.hid (by rw [hstep]; simp)
        have hle := without_le (zs.take k) c
        have hle2 : (without (zs.take k) c).length ≤ n := Nat.le_trans hle (by rw [List.length_take, Hn.out]; omega)
        clear hstep hyc hle
        generalize without (zs.take k) c = F at *
        have hsz := hb2.size
        go_wp2_with (at_builtin; refine wpList_append_own _ rfl _ _ 22 rfl w.heap.size 3 i0 (.int .i64 0) 1 8 Tryz.underlying22 hi hz0 hz1 hz2 rfl (by decide) _ _ _ rfl (hown.alloc _) ⟨wr.heap.size, 0, none⟩ 1 1 [.int .i64 y] rfl rfl ?c1 ?c2 ?c3 ?c4 ?c5 ?_)
        case c1 => exact cell_one_new _ _ _
        case c2 => intro u hu; simp at hu; subst hu; rfl
        case c3 => unfold maxLen; omega
        case c4 => omega
        case c5 => simp; omega
        intro v' w1 hown' hgrow _
        have hb3 : Below w.heap.size w w1 := (hb2.alloc hsz _).grown hgrow (by simp; omega) (own_block hown)
        have hown2 := own_snoc hown'
        clear hown' hgrow hown hb2
        go_wp2_with fail
        go_roundw
        case rel => exact ⟨k + 1, by omega, by go_num, hb3, by rw [hrel2.out]; exact hown2⟩
        case measure => simp [intOf]; omega
    · obtain rfl : k = n := by omega
      have e : zs.take k = zs := List.take_of_length_le (by rw [Hn.out]; exact Nat.le_refl _)
      rw [e] at hown
      have hwr := Lib.hid (own_wr hown (fun x hx => hwf x (List.mem_filter.1 hx).1))
      clear hown e
      go_wp2_with fail
      go_ret
      obtain ⟨b', hb', hw'⟩ := hwr.out
      exact ⟨_, b', rfl, hb', hw', hb2⟩

end Go.Proofs.YtijdhpkeojkphaaGreatDoor
namespace Go.Proofs.YtijdhpkeojkphaaGreatDoor
open Go.RowKit
set_option linter.unusedVariables false
set_option linter.unusedSimpArgs false

def handG (D : MGame) : List Int := D.hands.getD D.turn.toNat []
def topG (D : MGame) : Int := D.heap.getD (D.heap.length - 1) 0
def goesOn (D : MGame) : Bool := gameB D && !overB D
def fitF (D : MGame) (c : Int) : Bool := fitsOn D.rules (topG D) c
def playableG (D : MGame) : List Int := if goesOn D = true then (sortI (handG D)).filter (fitF D) else []
theorem playable_t {D : MGame} (h : goesOn D = true) : playableG D = (sortI (handG D)).filter (fitF D) := if_pos h
theorem playable_f {D : MGame} (h : goesOn D = false) : playableG D = [] := if_neg (by rw [h]; decide)
theorem goes_0 {D : MGame} (h : gameB D = false) : goesOn D = false := by simp [goesOn, h]
theorem goes_1 {D : MGame} (h : overB D = true) : goesOn D = false := by simp [goesOn, h]
theorem goes_2 {D : MGame} (h : gameB D = true) (h2 : overB D = false) : goesOn D = true := by simp [goesOn, h, h2]
theorem goes_game {D : MGame} (h : goesOn D = true) : gameB D = true ∧ overB D = false := by simpa [goesOn] using h
/-- What a game's numbers tell. -/
theorem game_nums {D : MGame} (h : gameB D = true) : ∃ t : Nat, D.turn = (t : Int) ∧ t < D.hands.length ∧ (D.hands.length : Int) = D.rules.players ∧ 2 ≤ D.rules.players ∧ D.rules.players ≤ 6 ∧ 0 ≤ D.moves ∧ D.moves ≤ D.rules.limit ∧ D.rules.limit ≤ 400 ∧ 0 ≤ D.passes ∧ D.passes ≤ D.moves ∧ 1 ≤ D.rules.take ∧ D.rules.take ≤ 4 := by
  unfold gameB at h
  simp only [Bool.and_eq_true] at h
  obtain ⟨h0, h1, h2, h3, h4, h5, -⟩ := h
  unfold rulesB at h0
  simp only [Bool.and_eq_true] at h0
  obtain ⟨a1, a2, a3, a4, a5, a6, a7⟩ := h0
  unfold inB at *
  simp at *
  exact ⟨D.turn.toNat, by omega, by omega, by omega, by omega, by omega, by omega, by omega, by omega, by omega, by omega, by omega, by omega⟩
theorem game_top {D : MGame} (h : gameB D = true) : ∃ L, D.heap.length = L + 1 := by
  unfold gameB at h
  simp only [Bool.and_eq_true] at h
  obtain ⟨-, -, h2, -⟩ := h
  rcases e : D.heap with _ | ⟨x, xs⟩
  · rw [e] at h2; simp at h2
  · exact ⟨xs.length, by simp⟩
/-- All lists of a game together are 52 cards. -/
theorem game_52 {D : MGame} (h : gameB D = true) : sumLen D.hands + D.stock.length + D.heap.length = 52 ∧ isHand (allG D) = true := by
  unfold gameB at h
  simp only [Bool.and_eq_true] at h
  obtain ⟨-, -, -, -, -, -, h6⟩ := h
  unfold wholeB at h6
  simp only [Bool.and_eq_true, beq_iff_eq] at h6
  obtain ⟨h6, h7⟩ := h6
  refine ⟨?_, h7⟩
  unfold allG at h6
  simp only [List.length_append] at h6
  have : D.hands.flatten.length = sumLen D.hands := by
    unfold sumLen
    rw [List.length_flatten]
  omega
def playB (D : MGame) (c : Int) : Bool := hasI (playableG D) c
def skipI (D : MGame) (c : Int) : Int := if doesSkip D.rules c = true then 2 else 1
theorem skip_t {D : MGame} {c : Int} (h : doesSkip D.rules c = true) : skipI D c = 2 := if_pos h
theorem skip_f {D : MGame} {c : Int} (h : doesSkip D.rules c = false) : skipI D c = 1 := if_neg (by rw [h]; decide)
def playOnM (D : MGame) (c : Int) : MGame := { D with hands := D.hands.set D.turn.toNat (without (handG D) c), heap := D.heap ++ [c], turn := (D.turn + skipI D c).emod D.rules.players, moves := D.moves + 1, passes := 0 }
def playOnG (D : MGame) (c : Int) : MGame := if playB D c = true then playOnM D c else D
theorem playOn_t {D : MGame} {c : Int} (h : playB D c = true) : playOnG D c = playOnM D c := if_pos h
theorem playOn_f {D : MGame} {c : Int} (h : playB D c = false) : playOnG D c = D := if_neg (by rw [h]; decide)
/-- One card taken: hand, stock, heap. -/
structure Piles where
  hand : List Int
  stock : List Int
  heap : List Int
def turned (p : Piles) : Piles := if p.stock = [] then ⟨p.hand, p.heap.dropLast, p.heap.drop (p.heap.length - 1)⟩ else p
def takeP (p : Piles) : Piles := match turned p with
  | ⟨h, [], hp⟩ => ⟨h, [], hp⟩
  | ⟨h, c :: s, hp⟩ => ⟨h ++ [c], s, hp⟩
def takeN (n : Nat) (p : Piles) : Piles := match n with
  | 0 => p
  | n + 1 => takeP (takeN n p)
def pilesG (D : MGame) (k : Nat) : Piles := takeN k ⟨handG D, D.stock, D.heap⟩
def takeM (D : MGame) : MGame := { D with hands := D.hands.set D.turn.toNat (pilesG D D.rules.take.toNat).hand, stock := (pilesG D D.rules.take.toNat).stock, heap := (pilesG D D.rules.take.toNat).heap, turn := (D.turn + 1).emod D.rules.players, moves := D.moves + 1, passes := if (pilesG D D.rules.take.toNat).hand.length = (handG D).length then D.passes + 1 else 0 }
def takeG (D : MGame) : MGame := if goesOn D = true then takeM D else D
theorem take_t {D : MGame} (h : goesOn D = true) : takeG D = takeM D := if_pos h
theorem take_f {D : MGame} (h : goesOn D = false) : takeG D = D := if_neg (by rw [h]; decide)
theorem filt_takeM (P : Int → Bool) (zs : List Int) (k : Nat) (h : k < zs.length) : (zs.take (k + 1)).filter P = (zs.take k).filter P ++ if P zs[k] = true then [zs[k]] else [] := by
  rw [List.take_succ_eq_append_getElem h, List.filter_append]
  congr 1
  by_cases e : P zs[k] = true
  · rw [if_pos e]; simp [e]
  · rw [if_neg e]; simp [e]
end Go.Proofs.YtijdhpkeojkphaaGreatDoor
namespace Go.Proofs.YtijdhpkeojkphaaGreatDoor
open Go.RowKit
set_option linter.unusedVariables false
set_option linter.unusedSimpArgs false

section
variable {P : Program} {ops : Array Oper} {md : Region.Mode}

def dstOf (ops : Array Oper) (i : Nat) : Option Tmp := (ops[i]?).bind (·.dst)
def putAll (ops : Array Oper) (val : Nat → Value) (L : List Nat) (a : Act) : Act := L.foldl (fun a j => a.put (dstOf ops j) (val j)) a
def listAll (l : Array Bool) (L : List Nat) : Array Bool := L.foldl (fun l j => l.setIfInBounds j true) l
/-- j must have come up ahead of i. -/
def predOf (md : Region.Mode) (ops : Array Oper) (i j : Nat) : Bool := ((ops[i]?).map fun o => o.after.any fun e => Region.binds md e && e.on == j).getD false
def reachJ (md : Region.Mode) (ops : Array Oper) (J : List Nat) : Nat → Nat → Nat → Bool
  | 0, _, _ => false
  | f + 1, k, j => predOf md ops k j || J.any fun p => predOf md ops k p && reachJ md ops J f p j
def apartJ (md : Region.Mode) (ops : Array Oper) (j p : Nat) : Bool :=
  match dstOf ops p, ops[j]? with
  | some d, some o => (!(o.looksAt ops).contains d || predOf md ops j p) && o.dst != some d
  | _, _ => true
def jointB (md : Region.Mode) (ops : Array Oper) (listed : Array Bool) (J : List Nat) : Bool :=
  decide J.Nodup && (decide (listed.size = ops.size) && (J.all (fun j => decide (j < ops.size) && (!listed.getD j true &&
    (((ops[j]?).map fun o => o.after.all fun e => !Region.binds md e || (listed.getD e.on false || (J.contains e.on && decide (e.on < j)))).getD false &&
    J.all fun p => p == j || apartJ md ops j p))) &&
  (List.range ops.size).all fun k => J.contains k || (listed.getD k true || ((List.range ops.size).any (fun p => predOf md ops k p && (!J.contains p && !listed.getD p true)) || J.all fun j => reachJ md ops J ops.size k j))))

theorem listAll_size (L : List Nat) : ∀ l : Array Bool, (listAll l L).size = l.size := by
  induction L with
  | nil => intro l; rfl
  | cons x L ih => intro l; show (listAll (l.setIfInBounds x true) L).size = _; rw [ih]; simp
theorem listAll_not (L : List Nat) (k : Nat) (b : Bool) (hk : k ∉ L) : ∀ l : Array Bool, (listAll l L).getD k b = l.getD k b := by
  induction L with
  | nil => intro l; rfl
  | cons x L ih =>
    intro l
    show (listAll (l.setIfInBounds x true) L).getD k b = _
    rw [ih (fun h => hk (List.mem_cons_of_mem _ h)), getD_set_ne b (fun e => hk (by rw [e]; exact List.mem_cons_self))]
theorem listAll_mem (L : List Nat) (k : Nat) (b : Bool) (hk : k ∈ L) : ∀ l : Array Bool, k < l.size → (listAll l L).getD k b = true := by
  induction L with
  | nil => cases hk
  | cons x L ih =>
    intro l hl
    show (listAll (l.setIfInBounds x true) L).getD k b = true
    by_cases h : k ∈ L
    · exact ih h _ (by simpa using hl)
    · rw [listAll_not _ _ _ h]
      have : k = x := by simpa [h] using hk
      subst this
      simp [hl]
theorem listAll_snoc (l : Array Bool) (L : List Nat) (j : Nat) : listAll l (L ++ [j]) = (listAll l L).setIfInBounds j true := by
  unfold listAll; rw [List.foldl_append]; rfl
theorem listAll_perm {L L' : List Nat} (h : L.Perm L') (l : Array Bool) : listAll l L = listAll l L' := by
  unfold listAll
  refine h.foldl_eq' (fun x _ y _ z => ?_) l
  by_cases e : x = y
  · subst e; rfl
  · exact Array.setIfInBounds_comm _ _ e
theorem putAll_congr {val val' : Nat → Value} {L : List Nat} (h : ∀ k ∈ L, val k = val' k) : ∀ a : Act, putAll ops val L a = putAll ops val' L a := by
  induction L with
  | nil => intro a; rfl
  | cons x L ih =>
    intro a
    show putAll ops val L (a.put (dstOf ops x) (val x)) = putAll ops val' L (a.put (dstOf ops x) (val' x))
    rw [h x List.mem_cons_self, ih (fun k hk => h k (List.mem_cons_of_mem _ hk))]
theorem putAll_append (val : Nat → Value) (L L' : List Nat) (a : Act) : putAll ops val (L ++ L') a = putAll ops val L' (putAll ops val L a) := by
  unfold putAll; rw [List.foldl_append]
theorem putAll_perm {val : Nat → Value} {L L' : List Nat} (h : L.Perm L') (hd : ∀ x ∈ L, ∀ y ∈ L, x ≠ y → ∀ d, dstOf ops x = some d → dstOf ops y ≠ some d) (a : Act) : putAll ops val L a = putAll ops val L' a := by
  unfold putAll
  refine h.foldl_eq' (fun x hx y hy z => ?_) a
  by_cases e : x = y
  · subst e; rfl
  · exact Act.put_comm z (val x) (val y) (hd x hx y hy e)
theorem filter_add {J : List Nat} (hJ : J.Nodup) {f : Nat → Bool} {j : Nat} (hj : j ∈ J) (hf : f j = false) : (J.filter fun k => f k || k == j).Perm (J.filter f ++ [j]) := by
  induction J with
  | nil => cases hj
  | cons x J ih =>
    rw [List.nodup_cons] at hJ
    by_cases e : x = j
    · subst e
      have h1 : (J.filter fun k => f k || k == x) = J.filter f := by
        refine List.filter_congr (fun k hk => ?_)
        have : k ≠ x := fun e => hJ.1 (e ▸ hk)
        simp [this]
      rw [List.filter_cons_of_pos (by simp), List.filter_cons_of_neg (by simp [hf]), h1]
      exact (List.perm_append_singleton x _).symm
    · have hj' : j ∈ J := by simpa [Ne.symm e] using hj
      by_cases hx : f x = true
      · rw [List.filter_cons_of_pos (by simp [hx]), List.filter_cons_of_pos hx, List.cons_append]
        exact (ih hJ.2 hj').cons x
      · rw [List.filter_cons_of_neg (by simp [hx, e]), List.filter_cons_of_neg hx]
        exact ih hJ.2 hj'
/-- An operation does the same behind a put that it does not look at. -/
theorem wpOp_move {Q : Exit → Act → World → Prop} {j : Nat} {oj : Oper} {x : Option Tmp} {v : Value} (hj : ops[j]? = some oj) (hlook : ∀ d, x = some d → d ∉ oj.looksAt ops) (hdst : ∀ d, x = some d → oj.dst ≠ some d)
    (hsj : ∀ cs b, oj.op ≠ .select cs b) {K : Act → World → Prop} {b : Act} {w : World} (h : wpOp P ops (fun _ _ _ => False) j K b w) : wpOp P ops Q j (fun a' w' => ∃ a'', K a'' w' ∧ a' = a''.put x v) (b.put x v) w := by
  unfold wpOp at *
  simp only [hj] at *
  rw [wanted_put oj b x v hlook]
  split
  · rename_i hw
    simp only [hw, if_true] at h
    rcases h with h | ⟨-, hlets⟩
    case inr => obtain ⟨_, _, h⟩ := hlets; exact h.elim
    refine .inl ?_
    unfold Oper.wp at *
    rw [execOp_put oj hsj b x v hlook]
    generalize (execOp b.eval oj).run P w = r at *
    cases r with
    | ok n w' =>
      cases n <;> simp only [Oper.upon] at h ⊢
      case value u => exact ⟨_, h, Act.put_comm b v u hdst⟩
      case skip => exact ⟨_, h, Act.put_comm b v undef hdst⟩
      case defer d => exact ⟨_, h, by rw [Act.put_defers]; exact Act.put_comm _ v undef hdst⟩
      case enter f args =>
        refine Calls.mono h fun e w'' he => ?_
        cases e with
        | returned u => exact ⟨_, he, Act.put_comm b v u hdst⟩
        | panicked c => exact he.elim
        | outgrown => obtain ⟨_, _, h⟩ := he; exact h.elim
      case row row args => exact Rows.mono h fun u w'' he => ⟨_, he, Act.put_comm b v u hdst⟩
    | halt y w' =>
      cases y <;> simp only [Oper.upon] at h ⊢
  · rename_i hw
    simp only [hw] at h
    exact ⟨_, h, Act.put_comm b v undef hdst⟩
theorem wpOp_moves {Q : Exit → Act → World → Prop} {j : Nat} {oj : Oper} {val : Nat → Value} (hj : ops[j]? = some oj) (hsj : ∀ cs b, oj.op ≠ .select cs b) :
    ∀ (L : List Nat) (hL : ∀ k ∈ L, (∀ d, dstOf ops k = some d → d ∉ oj.looksAt ops) ∧ ∀ d, dstOf ops k = some d → oj.dst ≠ some d) {K : Act → World → Prop} {b : Act} {w : World} (h : wpOp P ops (fun _ _ _ => False) j K b w),
      wpOp P ops Q j (fun a' w' => ∃ a'', K a'' w' ∧ a' = putAll ops val L a'') (putAll ops val L b) w := by
  have key : ∀ (L : List Nat) (hL : ∀ k ∈ L, (∀ d, dstOf ops k = some d → d ∉ oj.looksAt ops) ∧ ∀ d, dstOf ops k = some d → oj.dst ≠ some d) {K : Act → World → Prop} {b : Act} {w : World} (h : wpOp P ops (fun _ _ _ => False) j K b w),
      wpOp P ops (fun _ _ _ => False) j (fun a' w' => ∃ a'', K a'' w' ∧ a' = putAll ops val L a'') (putAll ops val L b) w := by
    intro L
    induction L with
    | nil => intro _ K b w h; exact wpOp_mono (fun a' w' h => ⟨a', h, rfl⟩) h
    | cons x L ih =>
      intro hL K b w h
      obtain ⟨h1, h2⟩ := hL x List.mem_cons_self
      have := ih (fun k hk => hL k (List.mem_cons_of_mem _ hk)) (wpOp_move (Q := fun _ _ _ => False) (x := dstOf ops x) (v := val x) hj h1 h2 hsj h)
      exact wpOp_mono (fun a' w' ⟨a1, ⟨a2, hk, e⟩, e2⟩ => ⟨a2, hk, by rw [e2, e]; rfl⟩) this
  intro L hL K b w h
  exact wpOp_mono (fun a' w' ⟨a1, ⟨a2, hk, e⟩, e2⟩ => ⟨a2, hk, by rw [e2, e]; rfl⟩) (wpOp_move (Q := Q) (x := none) (v := undef) hj (fun d h => by cases h) (fun d h => by cases h) hsj (key L hL h))

structure JointOK (md : Region.Mode) (ops : Array Oper) (listed : Array Bool) (J : List Nat) : Prop where
  nodup : J.Nodup
  size : listed.size = ops.size
  each : ∀ j ∈ J, j < ops.size ∧ listed.getD j true = false ∧ (∃ o, ops[j]? = some o ∧ ∀ e ∈ o.after, Region.binds md e = true → listed.getD e.on false = true ∨ e.on ∈ J ∧ e.on < j) ∧ ∀ p ∈ J, p = j ∨ apartJ md ops j p = true
  tail : ∀ k, k < ops.size → k ∈ J ∨ listed.getD k true = true ∨ (∃ p, p < ops.size ∧ predOf md ops k p = true ∧ p ∉ J ∧ listed.getD p true = false) ∨ ∀ j ∈ J, reachJ md ops J ops.size k j = true
theorem jointOK {listed : Array Bool} {J : List Nat} (h : jointB md ops listed J = true) : JointOK md ops listed J := by
  unfold jointB at h
  rw [Bool.and_eq_true, Bool.and_eq_true, Bool.and_eq_true, decide_eq_true_eq, decide_eq_true_eq, List.all_eq_true, List.all_eq_true] at h
  obtain ⟨h1, h2, h3, h4⟩ := h
  refine ⟨h1, h2, fun j hj => ?_, fun k hk => ?_⟩
  · have := h3 j hj
    rw [Bool.and_eq_true, Bool.and_eq_true, Bool.and_eq_true, decide_eq_true_eq, Bool.not_eq_true', List.all_eq_true] at this
    obtain ⟨a1, a2, a3, a4⟩ := this
    refine ⟨a1, a2, ?_, fun p hp => ?_⟩
    · obtain ⟨o, ho⟩ : ∃ o, ops[j]? = some o := ⟨_, Array.getElem?_eq_getElem a1⟩
      rw [ho] at a3
      refine ⟨o, ho, fun e he hb => ?_⟩
      obtain ⟨i, hi, rfl⟩ := Array.getElem_of_mem he
      have a3 : ∀ (i : Nat) (x : i < o.after.size), Region.binds md o.after[i] = false ∨ listed[o.after[i].on]?.getD false = true ∨ o.after[i].on ∈ J ∧ o.after[i].on < j := by simpa using a3
      have := a3 i hi
      simpa [hb] using this
    · have := a4 p hp
      simpa using this
  · have := h4 k (List.mem_range.2 hk)
    simp only [Bool.or_eq_true, List.contains_iff_mem, List.any_eq_true, List.mem_range, Bool.and_eq_true, Bool.not_eq_true', List.all_eq_true] at this
    rcases this with h | h | ⟨p, hp, h1, h2, h3⟩ | h
    · exact .inl h
    · exact .inr (.inl h)
    · exact .inr (.inr (.inl ⟨p, hp, h1, by simpa using h2, h3⟩))
    · exact .inr (.inr (.inr h))
theorem predOf_iff {i j : Nat} {o : Oper} (ho : ops[i]? = some o) : predOf md ops i j = true ↔ ∃ e ∈ o.after, Region.binds md e = true ∧ e.on = j := by
  unfold predOf
  rw [ho]
  simp only [Option.map_some, Option.getD_some, Array.any_eq_true', Bool.and_eq_true, beq_iff_eq]
theorem reach_done {J : List Nat} {f : Nat → Bool} (hdown : ∀ j ∈ J, f j = true → ∀ p ∈ J, predOf md ops j p = true → f p = true) :
    ∀ (n k j : Nat), (∀ p ∈ J, predOf md ops k p = true → f p = true) → j ∈ J → reachJ md ops J n k j = true → f j = true := by
  intro n
  induction n with
  | zero => intro k j _ _ h; cases h
  | succ n ih =>
    intro k j hk hj h
    simp only [reachJ, Bool.or_eq_true, List.any_eq_true, Bool.and_eq_true] at h
    rcases h with h | ⟨p, hp, h1, h2⟩
    · exact hk j hj h
    · exact ih p j (hdown p hp (hk p hp h1)) hj h2
theorem putAll_late {i : Nat} (val : Nat → Value) : ∀ (L : List Nat) (hne : ∀ k ∈ L, ∀ d, dstOf ops i = some d → dstOf ops k ≠ some d) (b : Act) (v : Value), putAll ops val L (b.put (dstOf ops i) v) = (putAll ops val L b).put (dstOf ops i) v := by
  intro L
  induction L with
  | nil => intro _ b v; rfl
  | cons x L ihL =>
    intro hne b v
    show putAll ops val L ((b.put (dstOf ops i) v).put (dstOf ops x) (val x)) = (putAll ops val L (b.put (dstOf ops x) (val x))).put (dstOf ops i) v
    rw [Act.put_comm b v (val x) (hne x List.mem_cons_self), ihL (fun k hk => hne k (List.mem_cons_of_mem _ hk))]
theorem wpAny_core {Q : Exit → Act → World → Prop} {J : List Nat} {V : Nat → (Nat → Value) → (Nat → Nat × Nat) → World → Prop} {w0 : World} {a0 : Act} {n : Nat} {listed : Array Bool} (hB : JointOK md ops listed J) (hsel : Region.noSelect ops = true)
    (hcong : ∀ j ∈ J, ∀ val val' iv iv' w, (∀ p, (p = j ∨ p ∈ J ∧ predOf md ops j p = true) → val p = val' p ∧ iv p = iv' p) → V j val iv w → V j val' iv' w)
    (hst : ∀ j ∈ J, ∀ val iv w w', V j val iv w → Below w.heap.size w w' → V j val iv w')
    (step : ∀ j ∈ J, ∀ w val (iv : Nat → Nat × Nat), Below w0.heap.size w0 w → (∀ p ∈ J, predOf md ops j p = true → V p val iv w) → wpOp P ops (fun _ _ _ => False) j (fun a' w' => ∃ v, a' = (putAll ops val (J.filter (predOf md ops j)) a0).put (dstOf ops j) v ∧ V j (fun k => if k = j then v else val k) (fun k => if k = j then (w.heap.size, w'.heap.size) else iv k) w' ∧ Below w.heap.size w w') (putAll ops val (J.filter (predOf md ops j)) a0) w)
    (fin : ∀ w val (iv : Nat → Nat × Nat), Below w0.heap.size w0 w → (∀ j ∈ J, V j val iv w ∧ w0.heap.size ≤ (iv j).1 ∧ (iv j).2 ≤ w.heap.size) → (∀ i ∈ J, ∀ j ∈ J, i ≠ j → (iv i).2 ≤ (iv j).1 ∨ (iv j).2 ≤ (iv i).1) → wpAny P md ops Q n (listAll listed J) (putAll ops val J a0) w) :
    ∀ (m : Nat) (f : Nat → Bool) (val : Nat → Value) (iv : Nat → Nat × Nat) (w : World), (J.filter fun k => !f k).length = m → (∀ j ∈ J, f j = true → ∀ p ∈ J, predOf md ops j p = true → f p = true) → Below w0.heap.size w0 w → (∀ j ∈ J, f j = true → V j val iv w ∧ w0.heap.size ≤ (iv j).1 ∧ (iv j).2 ≤ w.heap.size) → (∀ i ∈ J, ∀ j ∈ J, f i = true → f j = true → i ≠ j → (iv i).2 ≤ (iv j).1 ∨ (iv j).2 ≤ (iv i).1) →
      wpAny P md ops Q (n + m) (listAll listed (J.filter f)) (putAll ops val (J.filter f) a0) w := by
  have hdd : ∀ x ∈ J, ∀ y ∈ J, x ≠ y → ∀ d, dstOf ops x = some d → dstOf ops y ≠ some d := fun x hx y hy hne d hd => by
    obtain ⟨-, -, ⟨o, ho, -⟩, h⟩ := hB.each y hy
    rcases h x hx with h | h
    · exact absurd h hne
    · unfold apartJ at h
      rw [hd, ho] at h
      simp only [Bool.and_eq_true, bne_iff_ne] at h
      unfold dstOf; rw [ho]; exact h.2
  intro m
  induction m with
  | zero =>
    intro f val iv w hm hdown B hV hD
    have hall : ∀ j ∈ J, f j = true := fun j hj => by
      have := List.filter_eq_nil_iff.1 (List.length_eq_zero_iff.1 hm) j hj
      simpa using this
    rw [List.filter_eq_self.2 hall]
    exact fin w val iv B (fun j hj => hV j hj (hall j hj)) (fun i hi j hj => hD i hi j hj (hall i hi) (hall j hj))
  | succ m ih =>
    intro f val iv w hm hdown B hV hD
    have hgetF : ∀ j ∈ J, f j = false → (listAll listed (J.filter f)).getD j true = false := fun j hj hf => by
      rw [listAll_not _ _ _ (by simp [hf])]; exact (hB.each j hj).2.1
    have hgetT : ∀ j ∈ J, f j = true → (listAll listed (J.filter f)).getD j false = true := fun j hj hf =>
      listAll_mem _ _ _ (List.mem_filter.2 ⟨hj, hf⟩) _ (by rw [hB.size]; exact (hB.each j hj).1)
    have hkeep : ∀ k, listed.getD k false = true → (listAll listed (J.filter f)).getD k false = true := fun k hk => by
      by_cases h : k ∈ J.filter f
      · exact listAll_mem _ _ _ h _ (by rcases Nat.lt_or_ge k listed.size with h | h; exact h; simp [Array.getElem?_eq_none h] at hk)
      · rw [listAll_not _ _ _ h]; exact hk
    -- somebody is ready
    have hsome : ∀ j, j ∈ J → f j = false → Region.ready md ops (listAll listed (J.filter f)) ≠ [] := by
      intro j
      induction j using Nat.strongRecOn with
      | _ j ihj =>
        intro hj hf
        obtain ⟨h1, h2, ⟨o, ho, h3⟩, -⟩ := hB.each j hj
        by_cases hp : ∃ p ∈ J, p < j ∧ f p = false
        · obtain ⟨p, hp, hlt, hfp⟩ := hp
          exact ihj p hlt hp hfp
        · intro hnil
          have : j ∈ Region.ready md ops (listAll listed (J.filter f)) := mem_ready.2 ⟨hgetF j hj hf, o, ho, fun e he hb => by
            rcases h3 e he hb with h | ⟨h, hlt⟩
            · exact hkeep _ h
            · refine hgetT _ h ?_
              cases hq : f e.on with
              | true => rfl
              | false => exact absurd ⟨_, h, hlt, hq⟩ hp⟩
          rw [hnil] at this
          cases this
    obtain ⟨j0, hj0, hf0⟩ : ∃ j ∈ J, f j = false := by
      have : (J.filter fun k => !f k) ≠ [] := fun e => by rw [e] at hm; cases hm
      obtain ⟨j, hj⟩ := List.exists_mem_of_ne_nil _ this
      obtain ⟨h1, h2⟩ := List.mem_filter.1 hj
      exact ⟨j, h1, by simpa using h2⟩
    refine ⟨fun h => absurd h (hsome j0 hj0 hf0), fun i hi => ?_⟩
    obtain ⟨hun, o, ho, hpre⟩ := mem_ready.1 hi
    have hilt : i < ops.size := (Array.getElem?_eq_some_iff.1 ho).1
    have hpJ : ∀ p ∈ J, predOf md ops i p = true → f p = true := fun p hp h => by
      obtain ⟨e, he, hb, rfl⟩ := (predOf_iff ho).1 h
      have := hpre e he hb
      cases hq : f e.on with
      | true => rfl
      | false =>
        have h2 := hgetF _ hp hq
        have hs : e.on < (listAll listed (J.filter f)).size := by rw [listAll_size, hB.size]; exact (hB.each _ hp).1
        simp [hs] at h2 this
        rw [h2] at this; cases this
    have hiJ : i ∈ J := by
      rcases hB.tail i hilt with h | h | ⟨p, hp, h1, h2, h3⟩ | h
      · exact h
      · exfalso
        by_cases hm2 : i ∈ J.filter f
        · exact absurd (List.mem_filter.1 hm2).1 (fun h => by rw [listAll_mem _ _ _ hm2 _ (by rw [hB.size]; exact hilt)] at hun; cases hun)
        · rw [listAll_not _ _ _ hm2, h] at hun; cases hun
      · exfalso
        obtain ⟨e, he, hb, rfl⟩ := (predOf_iff ho).1 h1
        have := hpre e he hb
        rw [listAll_not _ _ _ (fun h => h2 (List.mem_filter.1 h).1)] at this
        have hs : e.on < listed.size := by rw [hB.size]; exact hp
        simp [hs] at h3 this
        rw [h3] at this; cases this
      · exact absurd (reach_done hdown _ i j0 hpJ hj0 (h j0 hj0)) (by rw [hf0]; decide)
    have hfi : f i = false := by
      cases hq : f i with
      | false => rfl
      | true => rw [listAll_mem _ _ _ (List.mem_filter.2 ⟨hiJ, hq⟩) _ (by rw [hB.size]; exact hilt)] at hun; cases hun
    -- the operation, behind its own predecessors alone
    have h0 := step i hiJ w val iv B (fun p hp h => (hV p hp (hpJ p hp h)).1)
    have hL : ∀ k ∈ (J.filter f).filter (fun k => !predOf md ops i k), (∀ d, dstOf ops k = some d → d ∉ o.looksAt ops) ∧ ∀ d, dstOf ops k = some d → o.dst ≠ some d := fun k hk => by
      obtain ⟨hk1, hk2⟩ := List.mem_filter.1 hk
      obtain ⟨hk3, hk4⟩ := List.mem_filter.1 hk1
      obtain ⟨-, -, -, h⟩ := hB.each i hiJ
      rcases h k hk3 with h | h
      · subst h; rw [hfi] at hk4; cases hk4
      · unfold apartJ at h
        have hk2 : predOf md ops i k = false := by simpa using hk2
        refine ⟨fun d hd => ?_, fun d hd => ?_⟩ <;> rw [hd, ho] at h <;> simp [hk2] at h
        · exact h.1
        · exact h.2
    have h1 := wpOp_moves (Q := Q) (val := val) ho (fun cs b => Region.noSelect_spec hsel i o cs b ho) _ hL h0
    have hpf : (J.filter f).filter (predOf md ops i) = J.filter (predOf md ops i) := by
      rw [List.filter_filter]
      refine List.filter_congr (fun k hk => ?_)
      cases hq : predOf md ops i k with
      | false => rfl
      | true => rw [hpJ k hk hq]; rfl
    have hperm : (J.filter (predOf md ops i) ++ (J.filter f).filter (fun k => !predOf md ops i k)).Perm (J.filter f) := by
      rw [← hpf]; exact List.filter_append_perm _ _
    have hmemJ : ∀ {g : Nat → Bool} {x : Nat}, x ∈ J.filter g → x ∈ J := fun h => (List.mem_filter.1 h).1
    have hput : ∀ a : Act, putAll ops val ((J.filter f).filter (fun k => !predOf md ops i k)) (putAll ops val (J.filter (predOf md ops i)) a) = putAll ops val (J.filter f) a := fun a => by
      rw [← putAll_append]
      refine putAll_perm hperm (fun x hx y hy => hdd x ?_ y ?_) a
      · exact hmemJ (hperm.mem_iff.1 hx)
      · exact hmemJ (hperm.mem_iff.1 hy)
    rw [hput] at h1
    refine wpOp_mono ?_ h1
    rintro a' w' ⟨a'', ⟨v, rfl, hv, B1⟩, rfl⟩
    have hfil := filter_add hB.nodup hiJ hfi
    have hset : (listAll listed (J.filter f)).setIfInBounds i true = listAll listed (J.filter fun k => f k || k == i) := by
      rw [← listAll_snoc]; exact (listAll_perm hfil listed).symm
    have hval : ∀ k ∈ J.filter f, val k = (if k = i then v else val k) := fun k hk => by
      have : k ≠ i := fun e => by subst e; have := (List.mem_filter.1 hk).2; rw [hfi] at this; cases this
      rw [if_neg this]
    have hact : putAll ops val ((J.filter f).filter (fun k => !predOf md ops i k)) ((putAll ops val (J.filter (predOf md ops i)) a0).put (dstOf ops i) v) = putAll ops (fun k => if k = i then v else val k) (J.filter fun k => f k || k == i) a0 := by
      rw [putAll_perm hfil (fun x hx y hy => hdd x (hmemJ hx) y (hmemJ hy)), putAll_append, ← putAll_congr hval, ← hput]
      show _ = (putAll ops val _ (putAll ops val _ a0)).put (dstOf ops i) (if i = i then v else val i)
      rw [if_pos rfl]
      generalize putAll ops val (J.filter (predOf md ops i)) a0 = b
      have hne : ∀ k ∈ (J.filter f).filter (fun k => !predOf md ops i k), ∀ d, dstOf ops i = some d → dstOf ops k ≠ some d := fun k hk => by
        have h1 := List.mem_filter.1 (List.mem_filter.1 hk).1
        refine hdd i hiJ k h1.1 (fun e => ?_)
        subst e; rw [hfi] at h1; cases h1.2
      exact putAll_late val _ hne b v
    rw [hset, hact]
    refine ih (fun k => f k || k == i) (fun k => if k = i then v else val k) (fun k => if k = i then (w.heap.size, w'.heap.size) else iv k) w' ?_ ?_ (B.trans (B1.mono B.size)) ?_ ?_
    · have h3 := hfil.length_eq
      rw [List.length_append] at h3
      have c1 := (List.filter_append_perm f J).length_eq
      have c2 := (List.filter_append_perm (fun k => f k || k == i) J).length_eq
      rw [List.length_append] at c1 c2
      simp only [List.length_singleton] at h3
      omega
    · intro j hj hfj p hp hpp
      simp only [Bool.or_eq_true, beq_iff_eq] at hfj ⊢
      rcases hfj with h | h
      · exact .inl (hdown j hj h p hp hpp)
      · subst h; exact .inl (hpJ p hp hpp)
    · intro j hj hfj
      by_cases e : j = i
      · subst e; simp only [if_true]; exact ⟨hv, B.size, Nat.le_refl _⟩
      · simp only [if_neg e]
        have : f j = true := by simpa [e] using hfj
        obtain ⟨q1, q2, q3⟩ := hV j hj this
        refine ⟨hcong j hj val _ iv _ w' (fun p hp => ?_) (hst j hj _ _ w w' q1 B1), q2, Nat.le_trans q3 B1.size⟩
        have hpi : p ≠ i := fun e2 => by
          subst e2
          rcases hp with h | ⟨h1, h2⟩
          · exact e h.symm
          · rw [hdown j hj this p h1 h2] at hfi; cases hfi
        simp only [if_neg hpi, and_self]
    · intro j hj k hk hfj hfk hne
      by_cases e : j = i
      · have e2 : k ≠ i := fun h => hne (e.trans h.symm)
        have h2 : f k = true := by simpa [e2] using hfk
        simp only [if_pos e, if_neg e2]
        exact .inr (hV k hk h2).2.2
      · have h1 : f j = true := by simpa [e] using hfj
        by_cases e2 : k = i
        · simp only [if_pos e2, if_neg e]
          exact .inl (hV j hj h1).2.2
        · have h2 : f k = true := by simpa [e2] using hfk
          simp only [if_neg e2, if_neg e]
          exact hD j hj k hk h1 h2 hne
end
end Go.Proofs.YtijdhpkeojkphaaGreatDoor
namespace Go.Proofs.YtijdhpkeojkphaaGreatDoor
open Go.RowKit
set_option linter.unusedVariables false
set_option linter.unusedSimpArgs false

theorem WrIn.below {k : IntKind} {S : Nat → Prop} {w w' : World} {v : Value} {zs : List Int} (h : WrIn k S w v zs) (b : Below w.heap.size w w') : WrIn k S w' v zs := h.touch (Below.touch (S := fun _ => False) b) (fun _ _ hx => hx)
theorem WrSS.below {k : IntKind} {S : Nat → Prop} {w w' : World} {v : Value} {zss : List (List Int)} (h : WrSS k S w v zss) (b : Below w.heap.size w w') : WrSS k S w' v zss := h.touch (Below.touch (S := fun _ => False) b) (fun _ _ hx => hx)
theorem loadRowX {w : World} {g : Nat} {t ty : TypeId} {cs : Array Value} {fr : Nat × Nat} {d : TypeDesc} (hg : w.heap[g]? = some (.cells cs t fr)) (hu : Tryz.prog.underlying ty = some d) (hd : d.isRow = true) (hi : (Tryz.prog.info? ty).map (·.size) = some cs.size) :
    (Instr.loadAt ty (.pointer (some ⟨g, 0, none⟩))).run Tryz.prog w = .ok (.agg cs) w := by
  have := run_loadAt_mid (P := Tryz.prog) w g 0 ty cs.toList d (fun j v hv => by
    have hc : w.cell? ⟨g, 0 + j, none⟩ = cs[0 + j]? := cell_of_row w g (0 + j) cs t fr hg
    rw [hc, Nat.zero_add]; simpa using hv) hu hd (by rw [hi]; simp)
  simpa using this
theorem yieldsX {ops : Array Oper} {S : World → Prop} {op : Oper} {a : Act} (hw : Region.wanted op (yielded ops a.tmps) = true) (ty : TypeId) (x : Operand) (ho : op.op = .load ty x)
    (b : Nat) (hx : a.eval x = .pointer (some ⟨b, 0, none⟩)) (cs : Array Value) (t : TypeId) (d : TypeDesc) (hS : ∀ w : World, S w → w.heap[b]? = some (.cells cs t (0, 0)))
    (hu : Tryz.prog.underlying ty = some d) (hd : d.isRow = true) (hi : (Tryz.prog.info? ty).map (·.size) = some cs.size) : YieldsIf Tryz.prog ops S op (.agg cs) a := by
  have := yieldsIf_load_mid (P := Tryz.prog) hw ty x ho b 0 hx cs.toList d (fun w h j v hv => by
    have hc : w.cell? ⟨b, 0 + j, none⟩ = cs[0 + j]? := cell_of_row w b (0 + j) cs t (0, 0) (hS w h)
    rw [hc, Nat.zero_add]; simpa using hv) hu hd (by rw [hi]; simp)
  simpa using this
/-- A whole struct loaded, guarded or not. -/
theorem wpList_load_rowG {ops : Array Oper} {rest : List Oper} {o : Oper} {a : Act} {w : World} {Q : Exit → Act → World → Prop} (hw : Region.wanted o (yielded ops a.tmps) = true) (ty : TypeId) (x : Operand) (ho : o.op = .load ty x)
    (g : Nat) (hx : a.eval x = .pointer (some ⟨g, 0, none⟩)) (cs : Array Value) (hr : (Instr.loadAt ty (.pointer (some ⟨g, 0, none⟩))).run Tryz.prog w = .ok (.agg cs) w)
    (h : wpList Tryz.prog ops Q rest (a.put o.dst (.agg cs)) w) : wpList Tryz.prog ops Q (o :: rest) a w :=
  wpList_step fun K hK => by
    rw [if_pos hw]
    unfold Oper.wp execOp
    simp only [ho, hx, hr, Sem.run_bind, Sem.run_pure, Result.andThen_ok]
    exact hK _ _ h
/-- What a fresh box holds behind the store of a whole struct. -/
theorem freshX (w : World) (Z A : Array Value) (t : TypeId) : ((w.alloc (.cells Z t)).setRow w.heap.size A).heap[w.heap.size]? = some (.cells A t (0, 0)) ∧ Below w.heap.size w ((w.alloc (.cells Z t)).setRow w.heap.size A) ∧ w.heap.size < ((w.alloc (.cells Z t)).setRow w.heap.size A).heap.size :=
  ⟨setRow_heap _ _ Z A _ _ (heap_alloc_new _ _), below_setRow ((Below.refl _ _).alloc (Nat.le_refl _) _) (Nat.le_refl _) _, by simp [World.setRow]⟩
/-- A contract that names the block of its slice, as one that tells between which blocks it lies. -/
theorem toIn1 {P : Program} {f : FuncId} {args : Array Value} {w : World} {k : IntKind} {F : List Int} (h : Calls P f args w fun e w' => ∃ v b, e = .returned v ∧ w.heap.size ≤ b ∧ WrAt k w' v F b ∧ Below w.heap.size w w') :
    Calls P f args w fun e w' => ∃ v, e = .returned v ∧ WrIn k (In w.heap.size w'.heap.size) w' v F ∧ Below w.heap.size w w' :=
  h.mono fun e w' ⟨v, b, he, hb, hw, B⟩ => ⟨v, he, WrIn.of hw hb, B⟩
theorem toIn2 {P : Program} {f : FuncId} {args : Array Value} {w : World} {k : IntKind} {F : List Int} {u : Value} (h : Calls P f args w fun e w' => ∃ v b, e = .returned (.tuple #[v, u]) ∧ w.heap.size ≤ b ∧ WrAt k w' v F b ∧ Below w.heap.size w w') :
    Calls P f args w fun e w' => ∃ v, e = .returned (.tuple #[v, u]) ∧ WrIn k (In w.heap.size w'.heap.size) w' v F ∧ Below w.heap.size w w' :=
  h.mono fun e w' ⟨v, b, he, hb, hw, B⟩ => ⟨v, he, WrIn.of hw hb, B⟩
theorem two_apart {S T : Nat → Prop} {a b c d : Nat} (hs : ∀ x, S x → a ≤ x ∧ x < b) (ht : ∀ x, T x → c ≤ x ∧ x < d) (h : b ≤ c ∨ d ≤ a) : ∀ x, S x → ¬ T x := fun x h1 h2 => by
  have := hs x h1; have := ht x h2; omega
end Go.Proofs.YtijdhpkeojkphaaGreatDoor
namespace Go.Proofs.YtijdhpkeojkphaaGreatDoor
open Go.RowKit
set_option linter.unusedVariables false
set_option linter.unusedSimpArgs false

theorem ownSame {w w' : World} {B : Nat} {E : TypeId} {size n : Nat} {v : Value} {xs : List Value} (h : w.ownsRow B E size v n xs) (hk : ∀ q, v.ownBlock = some q → w'.heap[q]? = w.heap[q]?) : w'.ownsRow B E size v n xs := by
  obtain ⟨hl, h⟩ := h
  refine ⟨hl, h.imp id ?_⟩
  rintro ⟨g', cap', cur, e', hg, hh, r⟩
  refine ⟨g', cap', cur, e', hg, ?_, r⟩
  rw [hk g' (by rw [e']; rfl)]; exact hh
theorem own_lt {w : World} {B : Nat} {E : TypeId} {size n : Nat} {v : Value} {xs : List Value} (h : w.ownsRow B E size v n xs) {g : Nat} (hg : v.ownBlock = some g) : g < w.heap.size := by
  rcases h.2 with ⟨e, -⟩ | ⟨g', cap', cur, e', -, hh, -⟩
  · rw [e] at hg; cases hg
  · rw [e'] at hg
    obtain rfl : g' = g := Option.some.inj hg
    exact (Array.getElem?_eq_some_iff.1 hh).1
theorem own_to0 {w : World} {B : Nat} {E : TypeId} {size n : Nat} {v : Value} {xs : List Value} (h : w.ownsRow B E size v n xs) : w.ownsRow 0 E size v n xs := by
  obtain ⟨hl, h⟩ := h
  refine ⟨hl, h.imp id ?_⟩
  rintro ⟨g', cap', cur, e', hg, r⟩
  exact ⟨g', cap', cur, e', Nat.zero_le _, r⟩
theorem own_toB {w : World} {B : Nat} {E : TypeId} {size n : Nat} {v : Value} {xs : List Value} (h : w.ownsRow 0 E size v n xs) (hb : ∀ g, v.ownBlock = some g → B ≤ g) : w.ownsRow B E size v n xs := by
  obtain ⟨hl, h⟩ := h
  refine ⟨hl, h.imp id ?_⟩
  rintro ⟨g', cap', cur, e', hg, r⟩
  exact ⟨g', cap', cur, e', hb _ (by rw [e']; rfl), r⟩
theorem one_cells' (l : List Int) : ∀ u ∈ l.map (Value.int .i64), u.oneCell' = true := by
  intro u hu
  simp at hu
  obtain ⟨y, _, rfl⟩ := hu
  rfl
/-- The block that a slice with room holds. -/
def _root_.Go.Value.held : Value → Option Nat
  | .slice (some a) _ (_ + 1) => some a.block
  | _ => none
/-- A slice of the call's own, its block out of S; one without spare room need not fill its block. -/
def OwnI (S : Nat → Prop) (w : World) (v : Value) (zs : List Int) : Prop :=
  (∀ x ∈ zs, (Lit.int .i64 x).wf = true) ∧ ((∃ p b, v = .slice p zs.length zs.length ∧ WrAt .i64 w v zs b ∧ (zs ≠ [] → S b)) ∨ ∃ g cap, v = .slice (some ⟨g, 0, none⟩) zs.length (cap + 1) ∧ w.ownsRow 0 3 1 v zs.length (zs.map (Value.int .i64)) ∧ S g)
theorem full_held {w : World} {v : Value} {zs : List Int} {p : Option Addr} {b : Nat} (e : v = .slice p zs.length zs.length) (h : WrAt .i64 w v zs b) : (zs = [] ∧ v.held = none) ∨ (zs ≠ [] ∧ v.held = some b) := by
  by_cases hz : zs = []
  · subst hz; refine .inl ⟨rfl, ?_⟩; rw [e]; cases p <;> rfl
  · obtain ⟨a, c, e2, -, -, h4⟩ := h
    rcases h4 with h4 | ⟨off, ha, -⟩
    · exact absurd h4 hz
    · refine .inr ⟨hz, ?_⟩
      obtain ⟨n, hn⟩ : ∃ n, zs.length = n + 1 := ⟨zs.length - 1, by have := List.length_pos_iff.2 hz; omega⟩
      rw [e] at e2
      have := (Value.slice.inj e2).1
      rw [e, this, ha, hn]; rfl
theorem OwnI.held {S : Nat → Prop} {w : World} {v : Value} {zs : List Int} (h : OwnI S w v zs) {g : Nat} (hg : v.held = some g) : S g ∧ g < w.heap.size := by
  rcases h.2 with ⟨p, b, e, hw, hs⟩ | ⟨g', cap, e, ho, hs⟩
  · rcases full_held e hw with ⟨-, h2⟩ | ⟨hz, h2⟩
    · rw [h2] at hg; cases hg
    · rw [h2] at hg
      obtain rfl : b = g := Option.some.inj hg
      exact ⟨hs hz, hw.rd.lt hz⟩
  · have hl := own_lt ho (g := g') (by rw [e]; rfl)
    rw [e] at hg
    obtain rfl : g' = g := Option.some.inj hg
    exact ⟨hs, hl⟩
theorem OwnI.keep {S T : Nat → Prop} {w w' : World} {v : Value} {zs : List Int} (h : OwnI S w v zs) (hk : ∀ g, v.held = some g → w'.heap[g]? = w.heap[g]?) (hs : ∀ g, v.held = some g → S g → g < w.heap.size → T g) : OwnI T w' v zs := by
  refine ⟨h.1, h.2.imp ?_ ?_⟩
  · rintro ⟨p, b, e, hw, hS⟩
    have hh : zs ≠ [] → v.held = some b := fun hz => by
      rcases full_held e hw with ⟨h2, -⟩ | ⟨-, h2⟩
      · exact absurd h2 hz
      · exact h2
    exact ⟨p, b, e, hw.keep (fun hz => hk b (hh hz)), fun hz => hs b (hh hz) (hS hz) (hw.rd.lt hz)⟩
  · rintro ⟨g, cap, e, ho, hS⟩
    have hh : v.held = some g := by rw [e]; rfl
    exact ⟨g, cap, e, ownSame ho (fun q hq => by
      have : g = q := by rw [e] at hq; exact Option.some.inj hq
      exact this ▸ hk g hh), hs g hh hS (own_lt ho (by rw [e]; rfl))⟩
theorem OwnI.touch {S T : Nat → Prop} {w w' : World} {v : Value} {zs : List Int} (h : OwnI S w v zs) (t : Touch T w w') (hd : ∀ b, S b → ¬ T b) : OwnI S w' v zs :=
  h.keep (fun g hg => t.block g (h.held hg).2 (hd g (h.held hg).1)) (fun _ _ hS _ => hS)
theorem OwnI.below {S : Nat → Prop} {w w' : World} {v : Value} {zs : List Int} (h : OwnI S w v zs) (b : Below w.heap.size w w') : OwnI S w' v zs := h.touch (Below.touch (S := fun _ => False) b) (fun _ _ hx => hx)
theorem OwnI.mono {S T : Nat → Prop} {w : World} {v : Value} {zs : List Int} (h : OwnI S w v zs) (hs : ∀ b, S b → b < w.heap.size → T b) : OwnI T w v zs :=
  h.keep (fun _ _ => rfl) (fun g _ hS hl => hs g hS hl)
theorem OwnI.nil (S : Nat → Prop) (w : World) (p : Option Addr) : OwnI S w (.slice p 0 0) [] := by
  refine ⟨(by simp), .inl ⟨p, 0, rfl, ?_, fun h => absurd rfl h⟩⟩
  cases p with
  | none => exact WrAt.nil .i64 w none 0 0 ⟨by unfold maxLen; omega, fun _ => rfl⟩
  | some p => exact WrAt.nil .i64 w (some p) 0 0 ⟨by unfold maxLen; omega, fun h => by cases h⟩
theorem OwnI.full {S : Nat → Prop} {w : World} {v : Value} {zs : List Int} {p : Option Addr} {b : Nat} (e : v = .slice p zs.length zs.length) (h : WrAt .i64 w v zs b) (hs : zs ≠ [] → S b) : OwnI S w v zs := ⟨h.rd.wf, .inl ⟨p, b, e, h, hs⟩⟩
theorem OwnI.ofS {S : Nat → Prop} {B : Nat} {w : World} {v : Value} {zs : List Int} (h : w.ownsRow B 3 1 v zs.length (zs.map (Value.int .i64))) (hw : ∀ x ∈ zs, (Lit.int .i64 x).wf = true) (hS : ∀ g, v.ownBlock = some g → B ≤ g → g < w.heap.size → S g) : OwnI S w v zs := by
  have h' := own_to0 h
  rcases h.2 with ⟨e, hn⟩ | ⟨g, cap, cur, e, hg, hh, hnc, hcm, hcs, htake⟩
  · have hz := List.length_eq_zero_iff.1 hn
    subst hz e; exact OwnI.nil _ _ _
  · cases cap with
    | zero =>
      have hz : zs = [] := List.length_eq_zero_iff.1 (by omega)
      subst hz e; exact OwnI.nil _ _ _
    | succ cap => exact ⟨hw, .inr ⟨g, cap, e, h', hS g (by rw [e]; rfl) hg (Array.getElem?_eq_some_iff.1 hh).1⟩⟩
theorem OwnI.of {B : Nat} {w : World} {v : Value} {zs : List Int} (h : w.ownsRow B 3 1 v zs.length (zs.map (Value.int .i64))) (hw : ∀ x ∈ zs, (Lit.int .i64 x).wf = true) : OwnI (In B w.heap.size) w v zs :=
  OwnI.ofS h hw (fun g _ h1 h2 => ⟨h1, h2⟩)
theorem OwnI.shape {S : Nat → Prop} {w : World} {v : Value} {zs : List Int} (h : OwnI S w v zs) : ∃ p c, v = .slice p zs.length c := by
  rcases h.2 with ⟨p, b, e, -⟩ | ⟨g, cap, e, -⟩
  · exact ⟨p, _, e⟩
  · exact ⟨_, _, e⟩
theorem OwnI.wr {S : Nat → Prop} {w : World} {v : Value} {zs : List Int} (h : OwnI S w v zs) : WrIn .i64 S w v zs := by
  rcases h.2 with ⟨p, b, e, hw, hs⟩ | ⟨g, cap, e, ho, hS⟩
  · exact ⟨b, hw, hs⟩
  · obtain ⟨b, -, hb⟩ := own_wr ho h.1
    refine ⟨b, hb, fun hz => ?_⟩
    obtain ⟨p, c, e', -, -, h4⟩ := hb
    rcases h4 with h4 | ⟨off, hp, -⟩
    · exact absurd h4 hz
    · rw [e, hp] at e'
      have := (Value.slice.inj e').1
      have : g = b := by simpa using congrArg (fun o => o.map (·.block)) this
      exact this ▸ hS
theorem below_grown' {w w' : World} (b : w.grownBy w' none) (row : Option Nat) : w.grownBy w' row := ⟨b.os, b.tape, b.output, b.size, fun k hk _ => b.block k hk (by simp)⟩
/-- A slice of one's own, grown by what lies elsewhere. -/
theorem OwnI.append {S : Nat → Prop} {w : World} {v : Value} {zs ys : List Int} (h : OwnI S w v zs) (a : Addr) (c : Nat) (hys : ys ≠ []) (hc : ∀ j (hj : j < ys.length), w.cell? (a.add j) = some (.int .i64 ys[j])) (hw : ∀ x ∈ ys, (Lit.int .i64 x).wf = true) (hl : zs.length + ys.length ≤ 2097152) (ty : TypeId) :
    ∃ v' w', (Builtin.append_ #[22, 22] ty #[v, .slice (some a) ys.length c]).run Tryz.prog w = .ok v' w' ∧ OwnI (fun b => v.held = some b ∨ (w.heap.size ≤ b ∧ b < w'.heap.size)) w' v' (zs ++ ys) ∧ w.grownBy w' v.held := by
  obtain ⟨i0, hi, hz0, hz1, hz2⟩ := info_parts info_i64
  have hws : ∀ x ∈ zs ++ ys, (Lit.int .i64 x).wf = true := fun x hx => (List.mem_append.1 hx).elim (h.1 x) (hw x)
  have hnews : ∀ j u, (ys.map (Value.int .i64))[j]? = some u → w.cell? (a.add j) = some u := fun j u hu => by
    have hj : j < ys.length := by have := (List.getElem?_eq_some_iff.1 hu).1; simpa using this
    rw [hc j hj]; simpa [hj] using hu
  have hlen : 0 < ys.length := List.length_pos_iff.2 hys
  rcases h.2 with ⟨p, b, e, hwr, hs⟩ | ⟨g, cap, e, ho, hS⟩
  · by_cases hz : zs = []
    · subst hz e
      cases p with
      | none =>
        have hown0 : w.ownsRow w.heap.size 3 1 (.slice none 0 0) 0 [] := ⟨rfl, .inl ⟨rfl, rfl⟩⟩
        obtain ⟨v', w', hrun, hown, hgr, -, -⟩ := run_append_own_at (P := Tryz.prog) w w.heap.size 22 ty 3 i0 (.int .i64 0) 1 8 Tryz.underlying22 hi hz0 hz1 hz2 rfl (by decide) _ _ _ hown0 a ys.length c (ys.map (Value.int .i64)) (by simp) hnews (one_cells' ys) (by unfold maxLen; omega) (by omega) (Nat.le_refl _)
        exact ⟨v', w', hrun, OwnI.ofS (zs := ys) (by simpa using hown) (by simpa using hws) (fun g _ h1 h2 => .inr ⟨h1, h2⟩), hgr⟩
      | some p =>
        obtain ⟨v', w', hrun, hown, hgr⟩ := run_append_arg_grows (P := Tryz.prog) w 22 ty 3 i0 (.int .i64 0) 1 8 Tryz.underlying22 hi hz0 hz1 hz2 rfl (by decide) p 0 0 [] rfl (by intro j u hu; simp at hu) a ys.length c (ys.map (Value.int .i64)) (by simp) hnews (by omega) (by unfold maxLen; omega) (by omega)
        exact ⟨v', w', hrun, OwnI.ofS (zs := ys) (by simpa using hown) (by simpa using hws) (fun g _ h1 h2 => .inr ⟨h1, h2⟩), hgr⟩
    · obtain ⟨q, cc, e2, hcap, -, h4⟩ := id hwr
      rcases h4 with h4 | ⟨off, hq, hcell, -⟩
      · exact absurd h4 hz
      · rw [e] at e2
        have e3 := (Value.slice.inj e2).1
        subst hq
        rw [e3] at e
        obtain ⟨v', w', hrun, hown, hgr⟩ := run_append_arg_grows (P := Tryz.prog) w 22 ty 3 i0 (.int .i64 0) 1 8 Tryz.underlying22 hi hz0 hz1 hz2 rfl (by decide) ⟨b, off, none⟩ zs.length zs.length (zs.map (Value.int .i64)) (by simp) (fun j u hu => by
          have hj : j < zs.length := by have := (List.getElem?_eq_some_iff.1 hu).1; simpa using this
          have e2 : (⟨b, off, none⟩ : Addr).add j = ⟨b, off + j, none⟩ := by simp [Addr.add]
          rw [e2, hcell j hj]
          simpa [hj] using hu) a ys.length c (ys.map (Value.int .i64)) (by simp) hnews (by omega) (by unfold maxLen; omega) (by omega)
        rw [e]
        exact ⟨v', w', hrun, OwnI.ofS (zs := zs ++ ys) (by simpa using hown) hws (fun g _ h1 h2 => .inr ⟨h1, h2⟩), below_grown' hgr _⟩
  · obtain ⟨v', w', hrun, hown, hgr, -, hat⟩ := run_append_own_at (P := Tryz.prog) w 0 22 ty 3 i0 (.int .i64 0) 1 8 Tryz.underlying22 hi hz0 hz1 hz2 rfl (by decide) _ _ _ ho a ys.length c (ys.map (Value.int .i64)) (by simp) hnews (one_cells' ys) (by unfold maxLen; omega) (by omega) (Nat.zero_le _)
    have hbk : v.ownBlock = v.held := by rw [e]; rfl
    refine ⟨v', w', hrun, OwnI.ofS (zs := zs ++ ys) (by simpa using hown) hws (fun g' h1 _ h2 => ?_), by rw [← hbk]; exact hgr⟩
    rcases hat with h | h
    · exact .inl (by rw [← hbk, ← h]; exact h1)
    · rw [h1] at h
      have := Option.some.inj h
      exact .inr ⟨by omega, h2⟩
/-- Slices of slices of the call's own: the heads' block, and one for each row, all out of S, all apart. -/
def OwnR (S : Nat → Prop) (w : World) (v : Value) (zss : List (List Int)) : Prop :=
  ∃ xs : List Value, w.ownsRow 0 22 1 v zss.length xs ∧ (∀ g, v.ownBlock = some g → S g) ∧ (∀ j (hj : j < zss.length), ∃ r, xs[j]? = some r ∧ OwnI (fun b => S b ∧ v.ownBlock ≠ some b) w r zss[j]) ∧
    (∀ (i j : Nat) (ri rj : Value), i ≠ j → xs[i]? = some ri → xs[j]? = some rj → ∀ g, ri.held = some g → rj.held ≠ some g)
theorem OwnR.touch {S T : Nat → Prop} {w w' : World} {v : Value} {zss : List (List Int)} (h : OwnR S w v zss) (t : Touch T w w') (hd : ∀ b, S b → ¬ T b) : OwnR S w' v zss := by
  obtain ⟨xs, h1, h2, h3, h4⟩ := h
  refine ⟨xs, ownSame h1 (fun q hq => t.block q (own_lt h1 hq) (hd q (h2 q hq))), h2, fun j hj => ?_, h4⟩
  obtain ⟨r, a1, a2⟩ := h3 j hj
  exact ⟨r, a1, a2.touch t (fun b hb => hd b hb.1)⟩
theorem OwnR.below {S : Nat → Prop} {w w' : World} {v : Value} {zss : List (List Int)} (h : OwnR S w v zss) (b : Below w.heap.size w w') : OwnR S w' v zss := h.touch (Below.touch (S := fun _ => False) b) (fun _ _ hx => hx)
theorem OwnR.mono {S T : Nat → Prop} {w : World} {v : Value} {zss : List (List Int)} (h : OwnR S w v zss) (hs : ∀ b, S b → b < w.heap.size → T b) : OwnR T w v zss := by
  obtain ⟨xs, h1, h2, h3, h4⟩ := h
  refine ⟨xs, h1, fun g hg => hs g (h2 g hg) (own_lt h1 hg), fun j hj => ?_, h4⟩
  obtain ⟨r, a1, a2⟩ := h3 j hj
  exact ⟨r, a1, a2.mono (fun b hb hl => ⟨hs b hb.1 hl, hb.2⟩)⟩
theorem OwnR.shape {S : Nat → Prop} {w : World} {v : Value} {zss : List (List Int)} (h : OwnR S w v zss) : ∃ p c, v = .slice p zss.length c := by
  obtain ⟨xs, h1, -⟩ := h; exact own_shape h1
theorem WrIn.at {k : IntKind} {S : Nat → Prop} {w : World} {r : Value} {zs : List Int} (h : WrIn k S w r zs) : ∃ b, WrAt k w r zs b ∧ (zs ≠ [] → S b ∧ r.held = some b) := by
  obtain ⟨b, hb, hs⟩ := h
  refine ⟨b, hb, fun hz => ⟨hs hz, ?_⟩⟩
  obtain ⟨p, c, e, hc, -, hq⟩ := hb
  rcases hq with hq | ⟨off, hp, -⟩
  · exact absurd hq hz
  · have := List.length_pos_iff.2 hz
    obtain ⟨c, rfl⟩ : ∃ d, c = d + 1 := ⟨c - 1, by omega⟩
    rw [e, hp]; rfl
theorem OwnR.ss {S : Nat → Prop} {w : World} {v : Value} {zss : List (List Int)} (h : OwnR S w v zss) : WrSS .i64 S w v zss := by
  obtain ⟨xs, h1, h2, h3, h4⟩ := h
  have h1' := h1
  obtain ⟨h0, h⟩ := h1
  rcases h with ⟨e, hn⟩ | ⟨g, cap, cur, e, hg, hh, hnc, hcm, hcs, htake⟩
  · have : zss = [] := List.length_eq_zero_iff.1 hn
    subst this
    exact ⟨none, 0, e, ⟨Nat.le_refl _, Nat.zero_le _, fun _ => rfl⟩, .inl rfl⟩
  · subst e
    have hx : ∀ {j : Nat} {r : Value}, xs[j]? = some r → xs.getD j undef = r := fun {j r} h => by simp [List.getD, h]
    refine ⟨_, cap, rfl, ⟨hnc, hcm, fun e => by cases e⟩, .inr ⟨g, 0, fun j => ((xs.getD j undef).held).getD 0, rfl, h2 g rfl, fun j hj => ?_, fun i j hi hj hij hzi hzj => ?_⟩⟩
    · obtain ⟨r, a1, a2⟩ := h3 j hj
      obtain ⟨b, hb, hs⟩ := a2.wr.at
      refine ⟨r, by rw [Nat.zero_add, h1'.cellAt j (by omega)]; exact a1, ?_, fun hz => ?_⟩
      · by_cases hz : zss[j] = []
        · rw [hz] at hb ⊢; exact hb.anyNil _
        · show WrAt .i64 w r zss[j] (((xs.getD j undef).held).getD 0)
          rw [hx a1, (hs hz).2]; exact hb
      · show S (((xs.getD j undef).held).getD 0) ∧ ((xs.getD j undef).held).getD 0 ≠ g
        rw [hx a1, (hs hz).2]
        exact ⟨(hs hz).1.1, fun e => (hs hz).1.2 (by rw [← e]; rfl)⟩
    · obtain ⟨ri, a1, a2⟩ := h3 i hi
      obtain ⟨rj, c1, c2⟩ := h3 j hj
      obtain ⟨bi, -, ei⟩ := a2.wr.at
      obtain ⟨bj, -, ej⟩ := c2.wr.at
      show ((xs.getD i undef).held).getD 0 ≠ ((xs.getD j undef).held).getD 0
      rw [hx a1, hx c1, (ei hzi).2, (ej hzj).2]
      intro e
      exact h4 i j ri rj hij a1 c1 bi (ei hzi).2 (by rw [(ej hzj).2]; exact congrArg some e.symm)
theorem OwnR.empty (w : World) : OwnR (In w.heap.size (w.alloc (.cells #[] 22)).heap.size) (w.alloc (.cells #[] 22)) (.slice (some ⟨w.heap.size, 0, none⟩) 0 0) [] := by
  have hown0 := World.ownsRow_lit (base := w.heap.size) (e := 22) (size := 1) w #[] 0 (Nat.le_refl _) (Nat.zero_le _) rfl
  exact ⟨[], own_to0 hown0, fun g hg => ⟨own_block hown0 g hg, own_lt hown0 hg⟩, fun j hj => by simp at hj, fun i j ri rj _ h => by simp at h⟩
/-- Row j, as it lies. -/
theorem OwnR.row {S : Nat → Prop} {w : World} {v : Value} {zss : List (List Int)} (h : OwnR S w v zss) {j : Nat} (hj : j < zss.length) :
    ∃ hb cap r, v = .slice (some ⟨hb, 0, none⟩) zss.length cap ∧ S hb ∧ hb < w.heap.size ∧ w.cell? ⟨hb, j, none⟩ = some r ∧ w.frozen? ⟨hb, j, none⟩ = false ∧ OwnI (fun b => S b ∧ b ≠ hb) w r zss[j] := by
  obtain ⟨xs, h1, h2, h3, h4⟩ := h
  have h1' := h1
  obtain ⟨h0, h⟩ := h1
  rcases h with ⟨e, hn⟩ | ⟨g, cap, cur, e, hg, hh, hnc, hcm, hcs, htake⟩
  · omega
  · subst e
    obtain ⟨r, a1, a2⟩ := h3 j hj
    exact ⟨g, cap, r, rfl, h2 g rfl, own_lt h1' rfl, by rw [h1'.cellAt j (by omega)]; exact a1, h1'.frozenAt j, a2.mono (fun b hb _ => ⟨hb.1, fun e => hb.2 (by rw [e]; rfl)⟩)⟩
theorem ownsRow_set {w : World} {B g n cap : Nat} {E : TypeId} {xs : List Value} (h : w.ownsRow B E 1 (.slice (some ⟨g, 0, none⟩) n cap) n xs) (j : Nat) (hj : j < n) (r : Value) : (w.setCell ⟨g, j, none⟩ r).ownsRow B E 1 (.slice (some ⟨g, 0, none⟩) n cap) n (xs.set j r) := by
  obtain ⟨hl, h⟩ := h
  rcases h with ⟨e, -⟩ | ⟨g', cap', cur, e', hg, hh, hnc, hcm, hcs, htake⟩
  · cases e
  · have e1 := Value.slice.inj e'
    obtain rfl : g = g' := by have := e1.1; simpa using this
    obtain rfl : cap = cap' := e1.2.2
    refine ⟨by simpa using hl, .inr ⟨g, cap, cur.setIfInBounds j r, rfl, hg, ?_, hnc, hcm, by simpa using hcs, ?_⟩⟩
    · simp [World.setCell, Array.getElem?_modify, hh]
    · rw [Array.toList_setIfInBounds, List.take_set, htake]
/-- Row j is replaced: by one that lies in its own block or in a fresh one. -/
theorem OwnR.put {S : Nat → Prop} {w w1 : World} {v r r' : Value} {zss : List (List Int)} {zs' : List Int} {j hb cap : Nat} (h : OwnR S w v zss) (hj : j < zss.length) (hv : v = .slice (some ⟨hb, 0, none⟩) zss.length cap) (hr : w.cell? ⟨hb, j, none⟩ = some r)
    (hg : w.grownBy w1 r.held) (ho : OwnI (fun b => r.held = some b ∨ (w.heap.size ≤ b ∧ b < w1.heap.size)) w1 r' zs') :
    OwnR (fun b => S b ∨ (w.heap.size ≤ b ∧ b < w1.heap.size)) (w1.setCell ⟨hb, j, none⟩ r') v (zss.set j zs') := by
  subst hv
  obtain ⟨xs, h1, h2, h3, h4⟩ := h
  have hx : xs[j]? = some r := by rw [← h1.cellAt j (by omega)]; exact hr
  obtain ⟨r0, a1, a2⟩ := h3 j hj
  obtain rfl : r0 = r := Option.some.inj (a1.symm.trans hx)
  have hbl : hb < w.heap.size := own_lt h1 rfl
  have hne : ∀ g, r0.held = some g → g ≠ hb := fun g hg e => (a2.held hg).1.2 (by rw [e]; rfl)
  have hkeep : ∀ q, q < w.heap.size → r0.held ≠ some q → w1.heap[q]? = w.heap[q]? := fun q hq hn => hg.block q hq (fun e => hn e.symm)
  have h1' := ownSame (w' := w1) h1 (fun q hq => hkeep q (own_lt h1 hq) (fun e => by
    have : q = hb := (Option.some.inj hq).symm
    exact hne q e this))
  have hs := ownsRow_set h1' j hj r'
  have hr'b : ∀ g, r'.held = some g → g ≠ hb := fun g hg e => by
    rcases (ho.held hg).1 with h | h
    · exact hne g h e
    · omega
  have hlen : xs.length = zss.length := by have := h1.1; omega
  refine ⟨xs.set j r', by rw [List.length_set]; exact hs, fun g hg => .inl (h2 g hg), fun i hi => ?_, fun i k ri rk hik hi hk g hgi hgk => ?_⟩
  · have hi' : i < zss.length := by simpa using hi
    by_cases e : i = j
    · subst e
      refine ⟨r', by rw [List.getElem?_set_self (by omega)], ?_⟩
      rw [List.getElem_set_self]
      refine ho.keep (fun q hq => Below.heap_setCell _ _ _ _ (hr'b q hq)) (fun g hg hS _ => ⟨?_, fun e => hr'b g hg (Option.some.inj e).symm⟩)
      rcases hS with h | h
      · exact .inl (a2.held h).1.1
      · exact .inr h
    · obtain ⟨ri, c1, c2⟩ := h3 i hi'
      refine ⟨ri, by rw [List.getElem?_set_ne (Ne.symm e)]; exact c1, ?_⟩
      rw [List.getElem_set_ne (Ne.symm e)]
      refine c2.keep (fun q hq => ?_) (fun g hg hS _ => ⟨.inl hS.1, hS.2⟩)
      have hqb := (c2.held hq).1.2
      rw [Below.heap_setCell _ _ _ _ (show q ≠ hb from fun e => hqb (by rw [e]; rfl))]
      exact hkeep q (c2.held hq).2 (fun e2 => h4 i j ri r0 e c1 a1 q hq e2)
  · have rest : ∀ m rm, m ≠ j → (xs.set j r')[m]? = some rm → xs[m]? = some rm := fun m rm hm h => by rwa [List.getElem?_set_ne (Ne.symm hm)] at h
    have at_ : ∀ rm, (xs.set j r')[j]? = some rm → rm = r' := fun rm h => by rw [List.getElem?_set_self (by omega)] at h; exact (Option.some.inj h).symm
    have key : ∀ m rm, m ≠ j → xs[m]? = some rm → ∀ g, rm.held = some g → r'.held ≠ some g := fun m rm hm hx2 g h1g h2g => by
      rcases (ho.held h2g).1 with h | h
      · exact h4 m j rm r0 hm hx2 a1 g h1g h
      · have hm' : m < zss.length := by have := (List.getElem?_eq_some_iff.1 hx2).1; omega
        obtain ⟨rm2, d1, d2⟩ := h3 m hm'
        obtain rfl : rm2 = rm := Option.some.inj (d1.symm.trans hx2)
        have := (d2.held h1g).2
        omega
    by_cases ei : i = j
    · subst ei
      obtain rfl := at_ ri hi
      exact key k rk (Ne.symm hik) (rest k rk (Ne.symm hik) hk) g hgk hgi
    · by_cases ek : k = j
      · subst ek
        obtain rfl := at_ rk hk
        exact key i ri ei (rest i ri ei hi) g hgi hgk
      · exact h4 i k ri rk hik (rest i ri ei hi) (rest k rk ek hk) g hgi hgk
/-- One row more. -/
theorem OwnR.snoc {S : Nat → Prop} {w wy : World} {v r : Value} {zss : List (List Int)} {zs : List Int} (h : OwnR S w v zss) (hb : Below w.heap.size w wy) (hr : OwnI (fun b => w.heap.size ≤ b) wy r zs) (hl : zss.length ≤ 1048600)
    (t : TypeId) (hu : Tryz.prog.underlying t = some (.slice 22)) (ty : TypeId) :
    ∃ v' w4, (Builtin.append_ #[t, t] ty #[v, .slice (some ⟨wy.heap.size, 0, none⟩) 1 1]).run Tryz.prog (wy.alloc (.cells #[r] 22)) = .ok v' w4 ∧ OwnR (fun b => S b ∨ (w.heap.size ≤ b ∧ b < w4.heap.size)) w4 v' (zss ++ [zs]) ∧ (wy.alloc (.cells #[r] 22)).grownBy w4 v.ownBlock := by
  obtain ⟨i0, hi, hz0, hz1, hz2⟩ := info_parts info_rowI
  obtain ⟨xs, h1, h2, h3, h4⟩ := h
  have hb1 : Below w.heap.size w (wy.alloc (.cells #[r] 22)) := hb.alloc hb.size _
  have o1 := own_below h1 hb1
  have hone : r.oneCell' = true := by obtain ⟨p, c, e⟩ := hr.shape; rw [e]; rfl
  obtain ⟨v', w4, hrun, hown, hgr, -, hat⟩ := run_append_own_at (P := Tryz.prog) (wy.alloc (.cells #[r] 22)) 0 t ty 22 i0 (.slice none 0 0) 1 24 hu hi hz0 hz1 hz2 rfl (by decide) _ _ _ o1 ⟨wy.heap.size, 0, none⟩ 1 1 [r] rfl (cell_one_new _ _ _) (by intro u hu; simp at hu; subst hu; exact hone) (by unfold maxLen; omega) (by omega) (Nat.zero_le _)
  have hby : Below wy.heap.size wy (wy.alloc (.cells #[r] 22)) := (Below.refl _ _).alloc (Nat.le_refl _) _
  have hsz1 : (wy.alloc (.cells #[r] 22)).heap.size = wy.heap.size + 1 := by simp
  have hblk : ∀ k, k < (wy.alloc (.cells #[r] 22)).heap.size → v.ownBlock ≠ some k → w4.heap[k]? = (wy.alloc (.cells #[r] 22)).heap[k]? := fun k hk hn => hgr.block k hk (fun e => hn e.symm)
  have hwsz := hb.size
  have hxl : xs.length = zss.length := by have := h1.1; omega
  have hv' : ∀ g, v'.ownBlock = some g → v.ownBlock = some g ∨ (wy.heap.size < g ∧ g < w4.heap.size) := fun g hg => by
    rcases hat with h | h
    · exact .inl (by rw [← h]; exact hg)
    · rw [hg] at h
      have := Option.some.inj h
      exact .inr ⟨by omega, own_lt hown hg⟩
  have old : ∀ (m : Nat) (hm : m < zss.length) q, xs[m]? = some q → OwnI (fun b => (S b ∨ (w.heap.size ≤ b ∧ b < w4.heap.size)) ∧ v'.ownBlock ≠ some b) w4 q zss[m] := fun m hm q hq => by
    obtain ⟨q2, a1, a2⟩ := h3 m hm
    obtain rfl : q2 = q := Option.some.inj (a1.symm.trans hq)
    have ha2 := a2.below hb1
    refine ha2.keep (fun b hb2 => hblk b (ha2.held hb2).2 (a2.held hb2).1.2) (fun g hg hS _ => ⟨.inl hS.1, fun e => ?_⟩)
    rcases hv' g e with h | ⟨h, -⟩
    · exact hS.2 h
    · have := (a2.held hg).2; omega
  have hnew : OwnI (fun b => (S b ∨ (w.heap.size ≤ b ∧ b < w4.heap.size)) ∧ v'.ownBlock ≠ some b) w4 r zs := by
    have hr1 := hr.below hby
    refine hr1.keep (fun b hb2 => hblk b (hr1.held hb2).2 (fun e => by have := own_lt h1 e; have := (hr.held hb2).1; omega)) (fun g hg hS hl => ⟨.inr ⟨hS, ?_⟩, fun e => ?_⟩)
    · have := hgr.size; omega
    · have hlt := (hr.held hg).2
      rcases hv' g e with h | ⟨h, -⟩
      · have := own_lt h1 h; omega
      · omega
  refine ⟨v', w4, hrun, ⟨xs ++ [r], by simpa using hown, fun g hg => ?_, fun j hj => ?_, fun i j ri rj hij hi hj g hgi hgj => ?_⟩, hgr⟩
  · rcases hv' g hg with h | ⟨h, h2⟩
    · exact .inl (h2 g h)
    · exact .inr ⟨by omega, h2⟩
  · by_cases e : j = zss.length
    · subst e
      exact ⟨r, by rw [List.getElem?_append_right (by omega)]; simp [hxl], by simpa using hnew⟩
    · have hj' : j < zss.length := by simp at hj; omega
      obtain ⟨q, a1, -⟩ := h3 j hj'
      refine ⟨q, by rw [List.getElem?_append_left (by omega)]; exact a1, ?_⟩
      rw [List.getElem_append_left hj']
      exact old j hj' q a1
  · have low : ∀ m rm, m < zss.length → (xs ++ [r])[m]? = some rm → xs[m]? = some rm := fun m rm hm h => by rwa [List.getElem?_append_left (by omega)] at h
    have top : ∀ m rm, ¬ m < zss.length → (xs ++ [r])[m]? = some rm → rm = r := fun m rm hm h => by
      rw [List.getElem?_append_right (by omega)] at h
      have hl := (List.getElem?_eq_some_iff.1 h).1
      have : m - xs.length = 0 := by simpa using hl
      rw [this] at h; simpa using h.symm
    have key : ∀ m rm, m < zss.length → xs[m]? = some rm → ∀ g, rm.held = some g → r.held ≠ some g := fun m rm hm hx g h1g h2g => by
      obtain ⟨q, a1, a2⟩ := h3 m hm
      obtain rfl : q = rm := Option.some.inj (a1.symm.trans hx)
      have := (a2.held h1g).2
      have := (hr.held h2g).1
      omega
    by_cases ei : i < zss.length
    · by_cases ej : j < zss.length
      · exact h4 i j ri rj hij (low i ri ei hi) (low j rj ej hj) g hgi hgj
      · obtain rfl := top j rj ej hj
        exact key i ri ei (low i ri ei hi) g hgi hgj
    · obtain rfl := top i ri ei hi
      by_cases ej : j < zss.length
      · exact key j rj ej (low j rj ej hj) g hgj hgi
      · exfalso
        have hl1 := (List.getElem?_eq_some_iff.1 hi).1
        have hl2 := (List.getElem?_eq_some_iff.1 hj).1
        simp only [List.length_append, List.length_singleton] at hl1 hl2
        omega
end Go.Proofs.YtijdhpkeojkphaaGreatDoor
