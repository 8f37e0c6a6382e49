/-
  Several texts in one: FitsOn and DoesSkip, both sides. Without, both sides. Moves of a game, as meanings: what can be played, a card played, cards taken. No program in this text. MostOf, both sides. SuitCounts, both sides. ChoiceOf, what it says; pure. A region that draws its order, with several calls that make memory: each operation of a list J has its own contract, whichever order is drawn; no order is gone through one by one. Slices of slices found marked; loads and stores of whole structs as rows; small words for the walks over struct results.
-/
import Derived.Test.YtmhbonbjnpcpeaaGreatDoorM7
import Derived.Test.YtmhbonbjnpcpeaaGreatDoorPatMt
import Derived.Test.YtmhbonbjnpcpeaaGreatDoorM4
import Derived.Test.YtmhbonbjnpcpeaaGreatDoorM6
import Derived.OrdersHeld
import Derived.Below
import Derived.Deep.RegionHeld3
import Derived.Deep.Cut
namespace Go.Proofs.YtmhbonbjnpcpeaaGreatDoor
open Go.RowKit
set_option linter.unusedVariables false
set_option linter.unusedSimpArgs false

def fitsC (D : MRules) (t c : Int) : Bool := (D.sameSuit && (c / 13 == t / 13)) || ((D.sameRank && (c % 13 == t % 13)) || orF0 D.wild c)
def fitsOn (D : MRules) (t c : Int) : Bool := rulesB D && (isCard t && (isCard c && fitsC D t c))
def doesSkip (D : MRules) (c : Int) : Bool := rulesB D && (isCard c && orF0 D.skip c)
theorem orF0_match {p : List Int} {c : Int} (hp : patOr p = true) (hc : isCard c = true) : matchB p c = orF0 p c := by
  unfold matchB orF0 patOr at *
  rw [hc]
  by_cases h : p.length = 0
  · rw [if_pos h]
    have : p = [] := List.length_eq_zero_iff.1 h
    subst this; rfl
  · rw [if_neg h]
    simp [h] at hp
    rw [hp]; rfl
theorem match_out {p : List Int} {c : Int} (hc : isCard c = false) : matchB p c = false := by unfold matchB; rw [hc]; cases isPat p <;> rfl
theorem rulesB_pats {D : MRules} (h : rulesB D = true) : patOr D.wild = true ∧ patOr D.skip = true := by
  rw [rulesB_eq] at h
  cases h1 : patOr D.wild <;> cases h2 : patOr D.skip <;> rw [h1, h2] at h <;> simp at h ⊢
theorem matchB_card {p : List Int} {c : Int} (h : matchB p c = true) : isCard c = true := by
  cases e : isCard c with
  | true => rfl
  | false => rw [match_out e] at h; cases h

set_option maxRecDepth 100000 in
set_option maxHeartbeats 4000000 in
theorem fits_any (L : Nat) (pl ea ta li : Int) (ss sr : Bool) (p4 p5 : Option Addr) (n4 c4 n5 c5 : Nat) (f g : Value) (F G : Int → Bool) (t c : Int) (w : World) (hm : Means L w f F) (hm' : Means L w g G) (t0 : 0 ≤ t) (t1 : t ≤ 51) (c0 : 0 ≤ c) (c1 : c ≤ 51) (r : Bool) (hr : ((ss && (c / 13 == t / 13)) || ((sr && (c % 13 == t % 13)) || F c)) = r) :
    Calls Tryz.prog 65 #[.agg #[.int .i64 pl, .int .i64 ea, .bool ss, .bool sr, .slice p4 n4 c4, .slice p5 n5 c5, .int .i64 ta, .int .i64 li, f, g], .int .u8 t, .int .u8 c] w fun e w' => e = .returned (.bool r) ∧ Below w.heap.size w w' := by
  obtain ⟨nf, cf, ef, hE, hM⟩ := hm
  obtain ⟨ng, cg, eg, -⟩ := hm'
  subst ef eg
  obtain ⟨a1, ha1⟩ : ∃ x, c / 13 = x := ⟨_, rfl⟩
  obtain ⟨b1, hb1⟩ : ∃ x, t / 13 = x := ⟨_, rfl⟩
  obtain ⟨a2, ha2⟩ : ∃ x, c % 13 = x := ⟨_, rfl⟩
  obtain ⟨b2, hb2⟩ : ∃ x, t % 13 = x := ⟨_, rfl⟩
  have HSc := Lib.hid (fun wx => kSuit_r c wx c0 c1 a1 ha1)
  have HSt := Lib.hid (fun wx => kSuit_r t wx t0 t1 b1 hb1)
  have HRc := Lib.hid (fun wx => kRank_r c wx c0 c1 a2 ha2)
  have HRt := Lib.hid (fun wx => kRank_r t wx t0 t1 b2 hb2)
  rw [ha1, hb1, ha2, hb2] at hr
  have HM := Lib.hid (fun wx hx => hM wx hx c c0 c1)
  obtain ⟨q, hq⟩ : ∃ q, F c = q := ⟨_, rfl⟩
  rw [hq] at hr HM
  have HR := Lib.hid hr
  unfold Enters at hE
  clear ha1 hb1 ha2 hb2 hr hq hM
  have B0 : ∀ o1, Below w.heap.size w (w.alloc o1) := fun o1 => (Below.refl w.heap.size w).alloc (Nat.le_refl _) o1
  go_enter Tryz.func65, Tryz.ntmps65
  cases ss with
  | false =>
    cases sr with
    | false =>
      obtain rfl : q = r := HR.out
      go_wp2_with fail
      refine (HM.out _ (Below.keeps (B0 _))).mono ?_
      rintro e w2 ⟨rfl, B2⟩
      go_wp2_with fail
      go_ret
      exact ⟨rfl, (B0 _).trans (B2.mono (B0 _).size)⟩
    | true =>
      go_wp2_with fail
      refine (HRc.out _).mono ?_
      rintro e _w ⟨rfl, rfl⟩
      go_wp2_with fail
      refine (HRt.out _).mono ?_
      rintro e _w ⟨rfl, rfl⟩
      cases hq2 : (a2 == b2) with
      | true =>
        rw [hq2] at HR
        obtain rfl : true = r := HR.out
        go_wp2_with fail
        go_ret
        exact ⟨rfl, B0 _⟩
      | false =>
        rw [hq2] at HR
        obtain rfl : q = r := HR.out
        go_wp2_with fail
        refine (HM.out _ (Below.keeps (B0 _))).mono ?_
        rintro e w2 ⟨rfl, B2⟩
        go_wp2_with fail
        go_ret
        exact ⟨rfl, (B0 _).trans (B2.mono (B0 _).size)⟩
  | true =>
    go_wp2_with fail
    refine (HSc.out _).mono ?_
    rintro e _w ⟨rfl, rfl⟩
    go_wp2_with fail
    refine (HSt.out _).mono ?_
    rintro e _w ⟨rfl, rfl⟩
    cases hq1 : (a1 == b1) with
    | true =>
      rw [hq1] at HR
      obtain rfl : true = r := HR.out
      go_wp2_with fail
      go_ret
      exact ⟨rfl, B0 _⟩
    | false =>
      rw [hq1] at HR
      cases sr with
      | false =>
        obtain rfl : q = r := HR.out
        go_wp2_with fail
        refine (HM.out _ (Below.keeps (B0 _))).mono ?_
        rintro e w2 ⟨rfl, B2⟩
        go_wp2_with fail
        go_ret
        exact ⟨rfl, (B0 _).trans (B2.mono (B0 _).size)⟩
      | true =>
        go_wp2_with fail
        refine (HRc.out _).mono ?_
        rintro e _w ⟨rfl, rfl⟩
        go_wp2_with fail
        refine (HRt.out _).mono ?_
        rintro e _w ⟨rfl, rfl⟩
        cases hq2 : (a2 == b2) with
        | true =>
          rw [hq2] at HR
          obtain rfl : true = r := HR.out
          go_wp2_with fail
          go_ret
          exact ⟨rfl, B0 _⟩
        | false =>
          rw [hq2] at HR
          obtain rfl : q = r := HR.out
          go_wp2_with fail
          refine (HM.out _ (Below.keeps (B0 _))).mono ?_
          rintro e w2 ⟨rfl, B2⟩
          go_wp2_with fail
          go_ret
          exact ⟨rfl, (B0 _).trans (B2.mono (B0 _).size)⟩

set_option maxRecDepth 100000 in
set_option maxHeartbeats 4000000 in
theorem sFitsOn_any (v : Value) (D : MRules) (t c : Int) (w : World) (h : RdRules w v D) (hf : D.Few) (r : Bool) (hr : fitsOn D t c = r) :
    Calls Tryz.prog 28 #[v, .int .i64 t, .int .i64 c] w fun e w' => e = .returned (.bool r) ∧ Below w.heap.size w w' := by
  have HF := Lib.hid (fun wx (hb : Below w.heap.size w wx) => sIsRules_any v D wx (h.below hb) hf _ rfl)
  have hpw : rulesB D = true → patOr D.wild = true := fun e => (rulesB_pats e).1
  obtain ⟨f4, f5⟩ := hf
  obtain ⟨pl, ea, ss, sr, wi, sk, ta, li⟩ := D
  obtain ⟨v4, v5, b4, b5, rfl, h4, h5, -, -, -, -⟩ := h
  dsimp only at *
  have HM := Lib.hid (fun wx (hb : Below w.heap.size w wx) => sMatches_any _ wi _ c wx (h4.below hb) f4 _ rfl)
  obtain ⟨p4, c4, e4, -⟩ := id h4
  obtain ⟨p5, c5, e5, -⟩ := id h5
  subst e4 e5
  unfold fitsOn fitsC at hr
  dsimp only at hr
  generalize rulesB _ = q0 at *
  have HR := Lib.hid hr
  clear hr f4 f5 h4 h5
  have B0 : ∀ o1, Below w.heap.size w (w.alloc o1) := fun o1 => (Below.refl w.heap.size w).alloc (Nat.le_refl _) o1
  have H1 := Lib.hid (fun w1 o1 bb => one_boxR (w := w) (w1 := w1) (o1 := o1) bb)
  have HT := Lib.hid (fun wx => sIsCard_r t wx _ rfl)
  have HC := Lib.hid (fun wx => sIsCard_r c wx _ rfl)
  have HST := Lib.hid (fun wx => sSuitOf_r t wx _ rfl)
  have HSC := Lib.hid (fun wx => sSuitOf_r c wx _ rfl)
  have HRT := Lib.hid (fun wx => sRankOf_r t wx _ rfl)
  have HRC := Lib.hid (fun wx => sRankOf_r c wx _ rfl)
  have SW : isCard t = true → isCard c = true → suitOf t = t / 13 ∧ suitOf c = c / 13 ∧ rankOf t = t % 13 ∧ rankOf c = c % 13 := fun ht hc => ⟨suit_in ht, suit_in hc, rank_in ht, rank_in hc⟩
  have MW : q0 = true → isCard c = true → matchB wi c = orF0 wi c := fun e hc => orF0_match (hpw e) hc
  clear hpw
  generalize suitOf t = st at *
  generalize suitOf c = sc at *
  generalize rankOf t = rt at *
  generalize rankOf c = rc at *
  generalize isCard t = qt at *
  generalize isCard c = qc at *
  generalize matchB wi c = q at *
  go_enter Tryz.func28, Tryz.ntmps28
  go_wp2_with fail
  refine (HF.out _ (B0 _)).mono ?_
  rintro e w1 ⟨rfl, B1⟩
  obtain ⟨Bw1, G1⟩ := H1.out _ _ B1
  clear B1
  obtain ⟨k0, k1, k2, k3, k4, k5, k6, k7⟩ := SRules_cells G1
  cases q0 with
  | false =>
    obtain rfl : false = r := HR.out
    go_wp2_with fail
    go_ret
    exact ⟨rfl, Bw1⟩
  | true =>
    go_wp2_with fail
    refine (HT.out _).mono ?_
    rintro e _w ⟨rfl, rfl⟩
    cases qt with
    | false =>
      obtain rfl : false = r := HR.out
      go_wp2_with fail
      go_ret
      exact ⟨rfl, Bw1⟩
    | true =>
      go_wp2_with fail
      refine (HC.out _).mono ?_
      rintro e _w ⟨rfl, rfl⟩
      cases qc with
      | false =>
        obtain rfl : false = r := HR.out
        go_wp2_with fail
        go_ret
        exact ⟨rfl, Bw1⟩
      | true =>
        obtain ⟨hst, hsc, hrt, hrc⟩ := SW (by trivial) (by trivial)
        have hmq := MW (by trivial) (by trivial)
        have HR2 : Hid (((ss && (sc == st)) || ((sr && (rc == rt)) || q)) = r) := Lib.hid (by rw [hst, hsc, hrt, hrc, hmq]; exact HR.out)
        clear HR SW MW hst hsc hrt hrc hmq
        have HR := HR2
        clear HR2
        cases ss with
        | false =>
          cases sr with
          | false =>
            obtain rfl : q = r := HR.out
            go_wp2_with fail
            refine (HM.out _ Bw1).mono ?_
            rintro e w2 ⟨rfl, B2⟩
            go_wp2_with fail
            go_ret
            exact ⟨rfl, Bw1.trans (B2.mono Bw1.size)⟩
          | true =>
            go_wp2_with fail
            refine (HRC.out _).mono ?_
            rintro e _w ⟨rfl, rfl⟩
            go_wp2_with fail
            refine (HRT.out _).mono ?_
            rintro e _w ⟨rfl, rfl⟩
            cases hq2 : (rc == rt) with
            | true =>
              rw [hq2] at HR
              obtain rfl : true = r := HR.out
              go_wp2_with fail
              go_ret
              exact ⟨rfl, Bw1⟩
            | false =>
              rw [hq2] at HR
              obtain rfl : q = r := HR.out
              go_wp2_with fail
              refine (HM.out _ Bw1).mono ?_
              rintro e w2 ⟨rfl, B2⟩
              go_wp2_with fail
              go_ret
              exact ⟨rfl, Bw1.trans (B2.mono Bw1.size)⟩
        | true =>
          go_wp2_with fail
          refine (HSC.out _).mono ?_
          rintro e _w ⟨rfl, rfl⟩
          go_wp2_with fail
          refine (HST.out _).mono ?_
          rintro e _w ⟨rfl, rfl⟩
          cases hq1 : (sc == st) with
          | true =>
            rw [hq1] at HR
            obtain rfl : true = r := HR.out
            go_wp2_with fail
            go_ret
            exact ⟨rfl, Bw1⟩
          | false =>
            rw [hq1] at HR
            cases sr with
            | false =>
              obtain rfl : q = r := HR.out
              go_wp2_with fail
              refine (HM.out _ Bw1).mono ?_
              rintro e w2 ⟨rfl, B2⟩
              go_wp2_with fail
              go_ret
              exact ⟨rfl, Bw1.trans (B2.mono Bw1.size)⟩
            | true =>
              go_wp2_with fail
              refine (HRC.out _).mono ?_
              rintro e _w ⟨rfl, rfl⟩
              go_wp2_with fail
              refine (HRT.out _).mono ?_
              rintro e _w ⟨rfl, rfl⟩
              cases hq2 : (rc == rt) with
              | true =>
                rw [hq2] at HR
                obtain rfl : true = r := HR.out
                go_wp2_with fail
                go_ret
                exact ⟨rfl, Bw1⟩
              | false =>
                rw [hq2] at HR
                obtain rfl : q = r := HR.out
                go_wp2_with fail
                refine (HM.out _ Bw1).mono ?_
                rintro e w2 ⟨rfl, B2⟩
                go_wp2_with fail
                go_ret
                exact ⟨rfl, Bw1.trans (B2.mono Bw1.size)⟩
end Go.Proofs.YtmhbonbjnpcpeaaGreatDoor
namespace Go.Proofs.YtmhbonbjnpcpeaaGreatDoor
open Go.RowKit

def without (zs : List Int) (c : Int) : List Int := zs.filter fun x => x != c
theorem without_take (zs : List Int) (c : Int) (k : Nat) (h : k < zs.length) : without (zs.take (k + 1)) c = without (zs.take k) c ++ if zs[k] != c then [zs[k]] else [] := by
  unfold without
  rw [List.take_succ_eq_append_getElem h, List.filter_append]
  congr 1
  by_cases e : zs[k] = c <;> simp [e]
theorem without_le (zs : List Int) (c : Int) : (without zs c).length ≤ zs.length := List.length_filter_le _ _

end Go.Proofs.YtmhbonbjnpcpeaaGreatDoor
namespace Go.Proofs.YtmhbonbjnpcpeaaGreatDoor
open Go.RowKit
set_option linter.unusedVariables false
set_option linter.unusedSimpArgs false

def handG (D : MGame) : List Int := D.hands.getD D.turn.toNat []
def topG (D : MGame) : Int := D.heap.getD (D.heap.length - 1) 0
def goesOn (D : MGame) : Bool := gameB D && !overB D
def fitF (D : MGame) (c : Int) : Bool := fitsOn D.rules (topG D) c
def playableG (D : MGame) : List Int := if goesOn D = true then (sortI (handG D)).filter (fitF D) else []
theorem playable_t {D : MGame} (h : goesOn D = true) : playableG D = (sortI (handG D)).filter (fitF D) := if_pos h
theorem playable_f {D : MGame} (h : goesOn D = false) : playableG D = [] := if_neg (by rw [h]; decide)
theorem goes_0 {D : MGame} (h : gameB D = false) : goesOn D = false := by simp [goesOn, h]
theorem goes_1 {D : MGame} (h : overB D = true) : goesOn D = false := by simp [goesOn, h]
theorem goes_2 {D : MGame} (h : gameB D = true) (h2 : overB D = false) : goesOn D = true := by simp [goesOn, h, h2]
theorem goes_game {D : MGame} (h : goesOn D = true) : gameB D = true ∧ overB D = false := by simpa [goesOn] using h
/-- What a game's numbers tell. -/
theorem game_nums {D : MGame} (h : gameB D = true) : ∃ t : Nat, D.turn = (t : Int) ∧ t < D.hands.length ∧ (D.hands.length : Int) = D.rules.players ∧ 2 ≤ D.rules.players ∧ D.rules.players ≤ 6 ∧ 0 ≤ D.moves ∧ D.moves ≤ D.rules.limit ∧ D.rules.limit ≤ 400 ∧ 0 ≤ D.passes ∧ D.passes ≤ D.moves ∧ 1 ≤ D.rules.take ∧ D.rules.take ≤ 4 := by
  unfold gameB at h
  simp only [Bool.and_eq_true] at h
  obtain ⟨h0, h1, h2, h3, h4, h5, -⟩ := h
  unfold rulesB at h0
  simp only [Bool.and_eq_true] at h0
  obtain ⟨a1, a2, a3, a4, a5, a6, a7⟩ := h0
  unfold inB at *
  simp at *
  exact ⟨D.turn.toNat, by omega, by omega, by omega, by omega, by omega, by omega, by omega, by omega, by omega, by omega, by omega, by omega⟩
theorem game_top {D : MGame} (h : gameB D = true) : ∃ L, D.heap.length = L + 1 := by
  unfold gameB at h
  simp only [Bool.and_eq_true] at h
  obtain ⟨-, -, h2, -⟩ := h
  rcases e : D.heap with _ | ⟨x, xs⟩
  · rw [e] at h2; simp at h2
  · exact ⟨xs.length, by simp⟩
/-- All lists of a game together are 52 cards. -/
theorem game_52 {D : MGame} (h : gameB D = true) : sumLen D.hands + D.stock.length + D.heap.length = 52 ∧ isHand (allG D) = true := by
  unfold gameB at h
  simp only [Bool.and_eq_true] at h
  obtain ⟨-, -, -, -, -, -, h6⟩ := h
  unfold wholeB at h6
  simp only [Bool.and_eq_true, beq_iff_eq] at h6
  obtain ⟨h6, h7⟩ := h6
  refine ⟨?_, h7⟩
  unfold allG at h6
  simp only [List.length_append] at h6
  have : D.hands.flatten.length = sumLen D.hands := by
    unfold sumLen
    rw [List.length_flatten]
  omega
def playB (D : MGame) (c : Int) : Bool := hasI (playableG D) c
def skipI (D : MGame) (c : Int) : Int := if doesSkip D.rules c = true then 2 else 1
theorem skip_t {D : MGame} {c : Int} (h : doesSkip D.rules c = true) : skipI D c = 2 := if_pos h
theorem skip_f {D : MGame} {c : Int} (h : doesSkip D.rules c = false) : skipI D c = 1 := if_neg (by rw [h]; decide)
def playOnM (D : MGame) (c : Int) : MGame := { D with hands := D.hands.set D.turn.toNat (without (handG D) c), heap := D.heap ++ [c], turn := (D.turn + skipI D c).emod D.rules.players, moves := D.moves + 1, passes := 0 }
def playOnG (D : MGame) (c : Int) : MGame := if playB D c = true then playOnM D c else D
theorem playOn_t {D : MGame} {c : Int} (h : playB D c = true) : playOnG D c = playOnM D c := if_pos h
theorem playOn_f {D : MGame} {c : Int} (h : playB D c = false) : playOnG D c = D := if_neg (by rw [h]; decide)
/-- One card taken: hand, stock, heap. -/
structure Piles where
  hand : List Int
  stock : List Int
  heap : List Int
def turned (p : Piles) : Piles := if p.stock = [] then ⟨p.hand, p.heap.dropLast, p.heap.drop (p.heap.length - 1)⟩ else p
def takeP (p : Piles) : Piles := match turned p with
  | ⟨h, [], hp⟩ => ⟨h, [], hp⟩
  | ⟨h, c :: s, hp⟩ => ⟨h ++ [c], s, hp⟩
def takeN (n : Nat) (p : Piles) : Piles := match n with
  | 0 => p
  | n + 1 => takeP (takeN n p)
def pilesG (D : MGame) (k : Nat) : Piles := takeN k ⟨handG D, D.stock, D.heap⟩
def takeM (D : MGame) : MGame := { D with hands := D.hands.set D.turn.toNat (pilesG D D.rules.take.toNat).hand, stock := (pilesG D D.rules.take.toNat).stock, heap := (pilesG D D.rules.take.toNat).heap, turn := (D.turn + 1).emod D.rules.players, moves := D.moves + 1, passes := if (pilesG D D.rules.take.toNat).hand.length = (handG D).length then D.passes + 1 else 0 }
def takeG (D : MGame) : MGame := if goesOn D = true then takeM D else D
theorem take_t {D : MGame} (h : goesOn D = true) : takeG D = takeM D := if_pos h
theorem take_f {D : MGame} (h : goesOn D = false) : takeG D = D := if_neg (by rw [h]; decide)
theorem filt_takeM (P : Int → Bool) (zs : List Int) (k : Nat) (h : k < zs.length) : (zs.take (k + 1)).filter P = (zs.take k).filter P ++ if P zs[k] = true then [zs[k]] else [] := by
  rw [List.take_succ_eq_append_getElem h, List.filter_append]
  congr 1
  by_cases e : P zs[k] = true
  · rw [if_pos e]; simp [e]
  · rw [if_neg e]; simp [e]
end Go.Proofs.YtmhbonbjnpcpeaaGreatDoor
namespace Go.Proofs.YtmhbonbjnpcpeaaGreatDoor
open Go.RowKit
set_option linter.unusedVariables false

def mostI (zs : List Int) : Int := if zs = [] then -1 else Lib.idxOf zs (Lib.maxOf zs)
theorem max_up (zs : List Int) (M : Int) : ∀ i, 0 < i → i ≤ zs.length → (∀ j, j < i → zs.getD j 0 ≤ M) → Lib.maxOf (zs.take i) ≤ M := by
  intro i
  induction i with
  | zero => intro h; omega
  | succ i ih =>
    intro _ hl h
    by_cases h0 : i = 0
    · subst h0; rw [Lib.maxOf_one]; exact h 0 (by omega)
    · rw [Lib.maxOf_step zs i (by omega) (by omega)]
      have h1 := ih (by omega) (by omega) (fun j hj => h j (by omega))
      have h2 := h i (by omega)
      omega
theorem max_lo (zs : List Int) : ∀ i, i ≤ zs.length → ∀ j, j < i → zs.getD j 0 ≤ Lib.maxOf (zs.take i) := by
  intro i
  induction i with
  | zero => intro _ j h; omega
  | succ i ih =>
    intro hl j hj
    by_cases h0 : i = 0
    · subst h0
      have : j = 0 := by omega
      subst this
      rw [Lib.maxOf_one]; exact Int.le_refl _
    · rw [Lib.maxOf_step zs i (by omega) (by omega)]
      by_cases e : j = i
      · subst e; omega
      · have := ih (by omega) j (by omega); omega
theorem max_is (zs : List Int) (p : Nat) (hp : p < zs.length) (h : ∀ j, j < zs.length → zs.getD j 0 ≤ zs.getD p 0) : Lib.maxOf zs = zs.getD p 0 := by
  have h1 := max_up zs _ zs.length (by omega) (Nat.le_refl _) h
  have h2 := max_lo zs zs.length (Nat.le_refl _) p hp
  rw [List.take_length] at h1 h2
  omega
theorem most_is (zs : List Int) (p : Nat) (hp : p < zs.length) (h : ∀ j, j < zs.length → zs.getD j 0 ≤ zs.getD p 0) (h2 : ∀ j, j < p → zs.getD j 0 < zs.getD p 0) : mostI zs = p := by
  have hne : zs ≠ [] := by intro e; subst e; simp at hp
  unfold mostI
  rw [if_neg hne, max_is zs p hp h]
  have := Lib.idxOf_hit zs zs.length p (zs.getD p 0) hp (Nat.le_refl _) rfl (fun j hj => by have := h2 j hj; omega)
  rw [List.take_length] at this
  exact this

theorem cells_getD {k : IntKind} {w : World} {b off : Nat} {zs : List Int} (h : Cells k w b off zs) : ∀ j, j < zs.length → w.cell? ⟨b, off + j, none⟩ = some (.int k (zs.getD j 0)) := by
  intro j hj
  rw [h j hj]
  simp [List.getD, hj]
theorem mostOf_any (v : Value) (zs : List Int) (b : Nat) (w : World) (h : RdAt .i64 w v zs b) (hl : zs.length ≤ 1099511627776) :
    Calls Tryz.prog 51 #[v] w fun e w' => e = .returned (.int .i64 (mostI zs)) ∧ w = w' := by
  rcases h.open with ⟨rfl, a, cap, rfl, hcm, hnil⟩ | ⟨hz, off, cap, rfl, hcap, hc⟩
  · go_enter Tryz.func51, Tryz.ntmps51
    go_wp2_with fail
    go_ret
    exact ⟨rfl, rfl⟩
  · have hpos : 0 < zs.length := List.length_pos_iff.2 hz
    have H1 : Hid (Calls Tryz.prog 68 #[.slice (some ⟨b, off, none⟩) zs.length cap] w fun e w' => e = .returned (.int .i64 (Lib.maxOf zs)) ∧ w = w') := Lib.hid (by
      refine (Tryz.slices_Max_int b off zs.length cap zs w hpos (Nat.le_refl _) (by omega) (cells_getD hc)).mono ?_
      rintro e w' ⟨rfl, h2⟩
      exact ⟨by rw [List.take_length], h2.symm⟩)
    have H2 : Hid (Calls Tryz.prog 67 #[.slice (some ⟨b, off, none⟩) zs.length cap, .int .i64 (Lib.maxOf zs)] w fun e w' => e = .returned (.int .i64 (mostI zs)) ∧ w = w') := Lib.hid (by
      refine (Tryz.slices_Index_int b off zs.length cap zs (Lib.maxOf zs) w (Nat.le_refl _) (by omega) (cells_getD hc)).mono ?_
      rintro e w' ⟨rfl, h2⟩
      exact ⟨by rw [List.take_length]; unfold mostI; rw [if_neg hz], h2.symm⟩)
    generalize mostI zs = r at *
    generalize Lib.maxOf zs = m at *
    have hq : (((zs.length : Nat) : Int) == 0) = false := by simp; exact hz
    clear hc h hz
    generalize zs.length = n at *
    go_enter Tryz.func51, Tryz.ntmps51
    go_wp2_with fail
    refine H1.out.mono ?_
    rintro e _w ⟨rfl, rfl⟩
    go_wp2_with fail
    refine H2.out.mono ?_
    rintro e _w ⟨rfl, rfl⟩
    go_wp2_with fail
    go_ret
    exact ⟨rfl, rfl⟩
set_option maxRecDepth 100000 in
set_option maxHeartbeats 400000 in
theorem sMostOf_any (v : Value) (zs : List Int) (b : Nat) (w : World) (h : RdAt .i64 w v zs b) (hl : zs.length ≤ 1099511627776) :
    Calls Tryz.prog 15 #[v] w fun e w' => e = .returned (.int .i64 (mostI zs)) ∧ Below w.heap.size w w' := by
  obtain ⟨a, cap, rfl, -, -, hcell⟩ := h
  obtain ⟨n, hn⟩ : ∃ n, n = zs.length := ⟨_, rfl⟩
  have Hn := Lib.hid hn
  rw [← hn] at hl ⊢
  clear hn
  obtain ⟨r, hr⟩ : ∃ r, r = mostI zs := ⟨_, rfl⟩
  have Hr := Lib.hid hr
  rw [← hr]
  clear hr
  go_enter Tryz.func15, Tryz.ntmps15
  go_wp2_with fail
  go_loopw [3, 4] (fun m i wr => ∃ (k : Nat), k ≤ n ∧ i = .int .i64 k ∧ (∃ q, wr = w.drewN q) ∧ ((k = 0 ∧ m = .int .i64 (-1)) ∨ ∃ p : Nat, p < k ∧ m = .int .i64 p ∧ Hid (∀ j, j < k → zs.getD j 0 ≤ zs.getD p 0) ∧ Hid (∀ j, j < p → zs.getD j 0 < zs.getD p 0))) (fun _ i _ => n - (intOf i).toNat)
  case atStart => exact ⟨0, Nat.zero_le _, rfl, ⟨0, rfl⟩, .inl ⟨rfl, rfl⟩⟩
  case round =>
    obtain ⟨k, hk, rfl, ⟨q, rfl⟩, hm⟩ := hrel
    by_cases hlt : k < n
    · have hz : k < zs.length := by rw [← Hn.out]; exact hlt
      rcases hcell with h0 | ⟨off, rfl, hc⟩
      · subst h0; simp at hz
      rcases hm with ⟨rfl, rfl⟩ | ⟨p, hp, rfl, hall, hfst⟩
      · have hA : Hid (∀ j, j < 0 + 1 → zs.getD j 0 ≤ zs.getD 0 0) := Lib.hid (fun j hj => by
          obtain rfl : j = 0 := by omega
          exact Int.le_refl _)
        clear hc
        go_wp2_with fail
        go_quiet (fail)
        go_wp2_with fail
        go_roundw
        case rel => exact ⟨1, by omega, by go_num, ⟨_, rfl⟩, .inr ⟨0, by omega, by go_num, hA, Lib.hid (fun j hj => by omega)⟩⟩
        case measure => simp [intOf]; omega
      · have hpz : p < zs.length := by omega
        obtain ⟨y, hy⟩ : ∃ y, Hid (y = zs.getD k 0) := ⟨_, Lib.hid rfl⟩
        obtain ⟨x, hx⟩ : ∃ x, Hid (x = zs.getD p 0) := ⟨_, Lib.hid rfl⟩
        have h1 : w.cell? ⟨b, off + k, none⟩ = some (.int .i64 y) := by rw [hc k hz, hy.out]; simp [List.getD, hz]
        have h2 : w.cell? ⟨b, off + p, none⟩ = some (.int .i64 x) := by rw [hc p hpz, hx.out]; simp [List.getD, hpz]
        clear hc
        have hneg : ((p : Int) < 0) = False := by simp
        by_cases hxy : x < y
        · have hA : Hid (∀ j, j < k + 1 → zs.getD j 0 ≤ zs.getD k 0) := Lib.hid (fun j hj => by
            by_cases e : j = k
            · subst e; exact Int.le_refl _
            · have := hall.out j (by omega); rw [← hy.out]; rw [← hx.out] at this; omega)
          have hB : Hid (∀ j, j < k → zs.getD j 0 < zs.getD k 0) := Lib.hid (fun j hj => by
            have := hall.out j hj; rw [← hy.out]; rw [← hx.out] at this; omega)
          go_wp2_with fail
          go_quiet (fail)
          go_wp2_with fail
          go_roundw
          case rel => exact ⟨k + 1, by omega, by go_num, ⟨_, rfl⟩, .inr ⟨k, by omega, by go_num, hA, hB⟩⟩
          case measure => simp [intOf]; omega
        · have hA : Hid (∀ j, j < k + 1 → zs.getD j 0 ≤ zs.getD p 0) := Lib.hid (fun j hj => by
            by_cases e : j = k
            · subst e; rw [← hy.out, ← hx.out]; omega
            · exact hall.out j (by omega))
          go_wp2_with fail
          go_quiet (fail)
          go_wp2_with fail
          go_roundw
          case rel => exact ⟨k + 1, by omega, by go_num, ⟨_, rfl⟩, .inr ⟨p, by omega, by go_num, hA, hfst⟩⟩
          case measure => simp [intOf]; omega
    · obtain rfl : k = n := by omega
      rcases hm with ⟨rfl, rfl⟩ | ⟨p, hp, rfl, hall, hfst⟩
      · have hr1 : Hid (r = -1) := Lib.hid (by rw [Hr.out]; unfold mostI; rw [if_pos (List.length_eq_zero_iff.1 Hn.out.symm)])
        go_wp2_with fail
        go_ret
        exact ⟨by rw [hr1.out]; rfl, _root_.Go.below_drewN (Below.refl _ _) _⟩
      · have hr1 : Hid (r = p) := Lib.hid (by rw [Hr.out]; exact most_is zs p (by rw [← Hn.out]; exact hp) (fun j hj => hall.out j (by rw [Hn.out]; exact hj)) hfst.out)
        go_wp2_with fail
        go_ret
        exact ⟨by rw [hr1.out]; rfl, _root_.Go.below_drewN (Below.refl _ _) _⟩
end Go.Proofs.YtmhbonbjnpcpeaaGreatDoor
namespace Go.Proofs.YtmhbonbjnpcpeaaGreatDoor
open Go.RowKit

def cntS (zs : List Int) (s : Int) : Nat := (zs.filter fun x => decide (suitOf x = s)).length
def suitCounts (zs : List Int) : List Int := (List.range 4).map fun (s : Nat) => ((cntS zs s : Nat) : Int)
theorem suitCounts_len (zs : List Int) : (suitCounts zs).length = 4 := by simp [suitCounts]
theorem suitCounts_at (zs : List Int) (s : Nat) (h : s < (suitCounts zs).length) : (suitCounts zs)[s] = ((cntS zs s : Nat) : Int) := by simp [suitCounts]
theorem cnt_le (zs : List Int) (s : Int) : cntS zs s ≤ zs.length := List.length_filter_le _ _
theorem cnt_take (zs : List Int) (k : Nat) (h : k < zs.length) (s : Int) : cntS (zs.take (k + 1)) s = cntS (zs.take k) s + if suitOf zs[k] = s then 1 else 0 := by
  unfold cntS
  rw [List.take_succ_eq_append_getElem h, List.filter_append, List.length_append]
  congr 1
  by_cases e : suitOf zs[k] = s <;> simp [e]
theorem counts_none (zs : List Int) (k : Nat) (h : k < zs.length) (hc : isCard zs[k] = false) : suitCounts (zs.take (k + 1)) = suitCounts (zs.take k) := by
  refine List.ext_getElem (by rw [suitCounts_len, suitCounts_len]) fun j h1 h2 => ?_
  rw [suitCounts_at, suitCounts_at, cnt_take zs k h, suit_out hc, if_neg (by omega)]; rfl
theorem counts_one (zs : List Int) (k : Nat) (h : k < zs.length) (s : Nat) (hs : suitOf zs[k] = s)   :
    suitCounts (zs.take (k + 1)) = (suitCounts (zs.take k)).set s (((cntS (zs.take k) s : Nat) : Int) + 1) := by
  refine List.ext_getElem (by rw [suitCounts_len, List.length_set, suitCounts_len]) fun j h1 h2 => ?_
  rw [suitCounts_at, cnt_take zs k h, hs]
  by_cases e : s = j
  · subst e; rw [List.getElem_set_self, if_pos rfl]; rfl
  · rw [List.getElem_set_ne e, suitCounts_at, if_neg (by omega)]; rfl
theorem counts_wf (zs : List Int) (hl : zs.length ≤ 1099511627776) : ∀ x ∈ suitCounts zs, (Lit.int .i64 x).wf = true := by
  intro x hx
  obtain ⟨s, -, rfl⟩ := List.mem_map.1 hx
  have := cnt_le zs s
  exact WalkArith.wf_i64 (by omega)
theorem map_set_int (zs : List Int) (s : Nat) (y : Int) : (zs.map (Value.int .i64)).set s (.int .i64 y) = (zs.set s y).map (Value.int .i64) := by rw [List.map_set]

set_option maxRecDepth 100000 in
set_option maxHeartbeats 1000000 in
theorem sSuitCounts_any (v : Value) (zs : List Int) (b : Nat) (w : World) (h : RdAt .i64 w v zs b) (hl : zs.length ≤ 1048576) :
    Calls Tryz.prog 13 #[v] w fun e w' => ∃ v' b', e = .returned v' ∧ w.heap.size ≤ b' ∧ WrAt .i64 w' v' (suitCounts zs) b' ∧ Below w.heap.size w w' := by
  obtain ⟨i0, hi, hz0, hz1, hz2⟩ := info_parts info_i64
  obtain ⟨a, cap, rfl, -, -, hcell⟩ := h
  obtain ⟨n, hn⟩ : ∃ n, n = zs.length := ⟨_, rfl⟩
  have Hn := Lib.hid hn
  rw [← hn] at hl ⊢
  clear hn
  go_enter Tryz.func13, Tryz.ntmps13
  go_wp2_with (at_make; refine wpList_make_full _ rfl _ _ 22 rfl w.heap.size 3 i0 (.int .i64 0) 1 Tryz.underlying22 hi hz0 hz1 _ _ _ _ 4 rfl rfl rfl rfl ?c1 ?c2 ?c3 ?_)
  case c1 => rw [hz2]; omega
  case c2 => unfold maxLen; omega
  case c3 => exact Nat.le_refl _
  intro w1 hown hgr
  have hb1 : Below w.heap.size w w1 := (Below.refl _ _).grown hgr (Nat.le_refl _) (fun k hk => by cases hk)
  clear hgr hi hz0 hz1 hz2
  go_wp2_with fail
  go_loopw [4, 5] (fun i _ wr => ∃ k : Nat, k ≤ n ∧ i = .int .i64 k ∧ Below w.heap.size w wr ∧ wr.ownsRow w.heap.size 3 1 (.slice (some ⟨w.heap.size, 0, none⟩) 4 4) 4 ((suitCounts (zs.take k)).map (Value.int .i64))) (fun i _ _ => n - (intOf i).toNat)
  case atStart => exact ⟨0, Nat.zero_le _, rfl, hb1, by rw [made4] at hown; exact hown⟩
  case round =>
    clear hown hb1
    obtain ⟨k, hk, rfl, hb2, hown⟩ := hrel
    by_cases hlt : k < n
    · have hz : k < zs.length := by rw [← Hn.out]; exact hlt
      rcases hcell with h0 | ⟨off, rfl, hc⟩
      · subst h0; simp at hz
      obtain ⟨y, hy⟩ : ∃ y, Hid (y = zs[k]) := ⟨_, Lib.hid rfl⟩
      have h1 : wr.cell? ⟨b, off + k, none⟩ = some (.int .i64 y) := by
        have h1 := hc k hz
        rw [hb2.cell (World.block_lt_of_cell? _ _ h1), h1, hy.out]
      clear hc
      cases hcd : isCard y with
      | false =>
        have HC := Lib.hid (sSuitOf_r y wr _ (suit_out hcd))
        have hst : Hid (suitCounts (zs.take (k + 1)) = suitCounts (zs.take k)) := Lib.hid (counts_none zs k hz (by rw [← hy.out]; exact hcd))
        clear hcd
        go_wp2_with fail
        refine HC.out.mono ?_
        rintro e _w ⟨rfl, rfl⟩
        go_wp2_with fail
        go_roundw
        case rel => exact ⟨k + 1, by omega, by go_num, hb2, by rw [hst.out]; exact hown⟩
        case measure => simp [intOf]; omega
      | true =>
        have hrng := isCard_t hcd
        obtain ⟨s, hs⟩ : ∃ s : Nat, suitOf y = s := ⟨(y / 13).toNat, by rw [suit_in hcd]; omega⟩
        have h4 : s < 4 := by have := suit_in hcd; omega
        have HC := Lib.hid (sSuitOf_r y wr _ hs)
        obtain ⟨m, hm⟩ : ∃ m, m = cntS (zs.take k) s := ⟨_, rfl⟩
        have hst : Hid (suitCounts (zs.take (k + 1)) = (suitCounts (zs.take k)).set s ((m : Int) + 1)) := Lib.hid (by rw [hm]; exact counts_one zs k hz s (by rw [← hy.out]; exact hs))
        have hml : m ≤ 1048576 := by have := cnt_le (zs.take k) s; rw [List.length_take] at this; omega
        have hc2 : wr.cell? ⟨w.heap.size, s, none⟩ = some (.int .i64 m) := by
          rw [hown.cellAt s (by omega), List.getElem?_map, List.getElem?_eq_getElem (by rw [suitCounts_len]; exact h4), suitCounts_at, hm]; rfl
        have hf2 : wr.frozen? ⟨w.heap.size, s, none⟩ = false := hown.frozenAt s
        have hst2 := (hown.stored s (.int .i64 ((m : Int) + 1))).1
        rw [map_set_int, ← hst.out] at hst2
        have hb3 : Below w.heap.size w (wr.setCell ⟨w.heap.size, s, none⟩ (.int .i64 ((m : Int) + 1))) := hb2.setCell (Nat.le_refl _) _
        clear hcd hrng hs hm hst hown
        go_wp2_with fail
        refine HC.out.mono ?_
        rintro e _w ⟨rfl, rfl⟩
        go_wp2_with fail
        go_roundw
        case rel => exact ⟨k + 1, by omega, by go_num, hb3, hst2⟩
        case measure => simp [intOf]; omega
    · obtain rfl : k = n := by omega
      have he : Hid (suitCounts (zs.take k) = suitCounts zs) := Lib.hid (by rw [List.take_of_length_le (by rw [Hn.out]; exact Nat.le_refl _)])
      rw [he.out] at hown
      have hown2 : wr.ownsRow w.heap.size 3 1 (.slice (some ⟨w.heap.size, 0, none⟩) 4 4) (suitCounts zs).length ((suitCounts zs).map (Value.int .i64)) := by rw [suitCounts_len]; exact hown
      have HW := Lib.hid (own_wr hown2 (counts_wf zs (by rw [← Hn.out]; omega)))
      clear hown hown2
      go_wp2_with fail
      go_ret
      obtain ⟨b2, hb2', hw2⟩ := HW.out
      exact ⟨_, b2, rfl, hb2', hw2, hb2⟩
set_option maxRecDepth 100000 in
set_option maxHeartbeats 1000000 in
theorem suitCounts_any (v : Value) (zs : List Int) (b : Nat) (w : World) (h : RdAt .i64 w v zs b) (hl : zs.length ≤ 1048576) :
    Calls Tryz.prog 49 #[v] w fun e w' => ∃ v' b', e = .returned v' ∧ w.heap.size ≤ b' ∧ WrAt .i64 w' v' (suitCounts zs) b' ∧ Below w.heap.size w w' := by
  obtain ⟨i0, hi, hz0, hz1, hz2⟩ := info_parts info_i64
  obtain ⟨a, cap, rfl, -, -, hcell⟩ := h
  obtain ⟨n, hn⟩ : ∃ n, n = zs.length := ⟨_, rfl⟩
  have Hn := Lib.hid hn
  rw [← hn] at hl ⊢
  clear hn
  go_enter Tryz.func49, Tryz.ntmps49
  go_wp2_with (at_make; refine wpList_make_full _ rfl _ _ 22 rfl w.heap.size 3 i0 (.int .i64 0) 1 Tryz.underlying22 hi hz0 hz1 _ _ _ _ 4 rfl rfl rfl rfl ?c1 ?c2 ?c3 ?_)
  case c1 => rw [hz2]; omega
  case c2 => unfold maxLen; omega
  case c3 => exact Nat.le_refl _
  intro w1 hown hgr
  have hb1 : Below w.heap.size w w1 := (Below.refl _ _).grown hgr (Nat.le_refl _) (fun k hk => by cases hk)
  clear hgr hi hz0 hz1 hz2
  go_wp2_with fail
  go_loopw [5, 6, 7, 11] (fun _ _ _ i wr => ∃ k : Nat, k ≤ n ∧ i = .int .i64 k ∧ Below w.heap.size w wr ∧ wr.ownsRow w.heap.size 3 1 (.slice (some ⟨w.heap.size, 0, none⟩) 4 4) 4 ((suitCounts (zs.take k)).map (Value.int .i64))) (fun _ _ _ i _ => n - (intOf i).toNat)
  case atStart => exact ⟨0, Nat.zero_le _, rfl, hb1, by rw [made4] at hown; exact hown⟩
  case round =>
    clear hown hb1
    obtain ⟨k, hk, rfl, hb2, hown⟩ := hrel
    by_cases hlt : k < n
    · have hz : k < zs.length := by rw [← Hn.out]; exact hlt
      rcases hcell with h0 | ⟨off, rfl, hc⟩
      · subst h0; simp at hz
      obtain ⟨y, hy⟩ : ∃ y, Hid (y = zs[k]) := ⟨_, Lib.hid rfl⟩
      have h1 : wr.cell? ⟨b, off + k, none⟩ = some (.int .i64 y) := by
        have h1 := hc k hz
        rw [hb2.cell (World.block_lt_of_cell? _ _ h1), h1, hy.out]
      clear hc
      cases hcd : isCard y with
      | false =>
        have hst : Hid (suitCounts (zs.take (k + 1)) = suitCounts (zs.take k)) := Lib.hid (counts_none zs k hz (by rw [← hy.out]; exact hcd))
        have HC := Lib.hid (cardOf_out y wr hcd)
        clear hcd
        go_wp2_with fail
        refine HC.out.mono ?_
        rintro e _w ⟨rfl, rfl⟩
        go_wp2_with fail
        go_roundw
        case rel => exact ⟨k + 1, by omega, by go_num, hb2, by rw [hst.out]; exact hown⟩
        case measure => simp [intOf]; omega
      | true =>
        have hrng := isCard_t hcd
        obtain ⟨s, hs⟩ : ∃ s : Nat, suitOf y = s := ⟨(y / 13).toNat, by rw [suit_in hcd]; omega⟩
        have h4 : s < 4 := by have := suit_in hcd; omega
        have HC := Lib.hid (cardOf_in y wr hcd)
        have HK := Lib.hid (kSuit_r y wr hrng.1 hrng.2 s (by rw [← hs, suit_in hcd]))
        obtain ⟨m, hm⟩ : ∃ m, m = cntS (zs.take k) s := ⟨_, rfl⟩
        have hst : Hid (suitCounts (zs.take (k + 1)) = (suitCounts (zs.take k)).set s ((m : Int) + 1)) := Lib.hid (by rw [hm]; exact counts_one zs k hz s (by rw [← hy.out]; exact hs))
        have hml : m ≤ 1048576 := by have := cnt_le (zs.take k) s; rw [List.length_take] at this; omega
        have hc2 : wr.cell? ⟨w.heap.size, s, none⟩ = some (.int .i64 m) := by
          rw [hown.cellAt s (by omega), List.getElem?_map, List.getElem?_eq_getElem (by rw [suitCounts_len]; exact h4), suitCounts_at, hm]; rfl
        have hf2 : wr.frozen? ⟨w.heap.size, s, none⟩ = false := hown.frozenAt s
        have hst2 := (hown.stored s (.int .i64 ((m : Int) + 1))).1
        rw [map_set_int, ← hst.out] at hst2
        have hb3 : Below w.heap.size w (wr.setCell ⟨w.heap.size, s, none⟩ (.int .i64 ((m : Int) + 1))) := hb2.setCell (Nat.le_refl _) _
        have hs4 : (s : Int) < 4 := by omega
        clear hcd hs hm hst hown
        go_wp2_with fail
        refine HC.out.mono ?_
        rintro e _w ⟨rfl, rfl⟩
        go_wp2_with fail
        refine HK.out.mono ?_
        rintro e _w ⟨rfl, rfl⟩
        go_wp2_with fail
        go_roundw
        case rel => exact ⟨k + 1, by omega, by go_num, hb3, hst2⟩
        case measure => simp [intOf]; omega
    · obtain rfl : k = n := by omega
      have he : Hid (suitCounts (zs.take k) = suitCounts zs) := Lib.hid (by rw [List.take_of_length_le (by rw [Hn.out]; exact Nat.le_refl _)])
      rw [he.out] at hown
      have hown2 : wr.ownsRow w.heap.size 3 1 (.slice (some ⟨w.heap.size, 0, none⟩) 4 4) (suitCounts zs).length ((suitCounts zs).map (Value.int .i64)) := by rw [suitCounts_len]; exact hown
      have HW := Lib.hid (own_wr hown2 (counts_wf zs (by rw [← Hn.out]; omega)))
      clear hown hown2
      go_wp2_with fail
      go_ret
      obtain ⟨b2, hb2', hw2⟩ := HW.out
      exact ⟨_, b2, rfl, hb2', hw2, hb2⟩
end Go.Proofs.YtmhbonbjnpcpeaaGreatDoor
namespace Go.Proofs.YtmhbonbjnpcpeaaGreatDoor
open Go.RowKit
set_option linter.unusedVariables false
set_option linter.unusedSimpArgs false

def suitsIn (h p : List Int) : List Int := p.map fun c => (suitCounts h).getD (suitOf c).toNat 0
def pickS (h p : List Int) : Int := p.getD (mostI (suitsIn h p)).toNat 0
def choiceG (D : MGame) (k : Int) : Int :=
  if playableG D = [] then -1 else if k = 0 then (playableG D).getD 0 0 else if k = 1 then (playableG D).getD ((playableG D).length - 1) 0 else if k = 2 then pickS (handG D) (playableG D) else -1
theorem choice_none {D : MGame} (k : Int) (h : playableG D = []) : choiceG D k = -1 := if_pos h
theorem choice_0 {D : MGame} (h : playableG D ≠ []) : choiceG D 0 = (playableG D).getD 0 0 := by unfold choiceG; rw [if_neg h]; rfl
theorem choice_1 {D : MGame} (h : playableG D ≠ []) : choiceG D 1 = (playableG D).getD ((playableG D).length - 1) 0 := by unfold choiceG; rw [if_neg h]; rfl
theorem choice_2 {D : MGame} (h : playableG D ≠ []) : choiceG D 2 = pickS (handG D) (playableG D) := by unfold choiceG; rw [if_neg h]; rfl
theorem choice_no {D : MGame} {k : Int} (h : ¬ (0 ≤ k ∧ k ≤ 2)) : choiceG D k = -1 := by
  unfold choiceG
  split
  · rfl
  · rw [if_neg (by omega), if_neg (by omega), if_neg (by omega)]
theorem first_max (zs : List Int) : ∀ i, 0 < i → i ≤ zs.length → ∃ p, p < i ∧ (∀ j, j < i → zs.getD j 0 ≤ zs.getD p 0) ∧ (∀ j, j < p → zs.getD j 0 < zs.getD p 0) := by
  intro i
  induction i with
  | zero => intro h; omega
  | succ i ih =>
    intro _ hi
    by_cases h0 : i = 0
    · subst h0
      exact ⟨0, by omega, fun j hj => by obtain rfl : j = 0 := (by omega); exact Int.le_refl _, fun j hj => by omega⟩
    · obtain ⟨p, hp, h1, h2⟩ := ih (by omega) (by omega)
      by_cases hc : zs.getD i 0 ≤ zs.getD p 0
      · exact ⟨p, by omega, fun j hj => by
          by_cases e : j = i
          · subst e; exact hc
          · exact h1 j (by omega), h2⟩
      · refine ⟨i, by omega, fun j hj => ?_, fun j hj => ?_⟩
        · by_cases e : j = i
          · subst e; exact Int.le_refl _
          · have := h1 j (by omega); omega
        · have := h1 j hj; omega
theorem most_lt {zs : List Int} (h : zs ≠ []) : ∃ p : Nat, mostI zs = (p : Int) ∧ p < zs.length := by
  obtain ⟨p, hp, h1, h2⟩ := first_max zs zs.length (List.length_pos_iff.2 h) (Nat.le_refl _)
  exact ⟨p, most_is zs p hp h1 h2, hp⟩
theorem suitsIn_len (h p : List Int) : (suitsIn h p).length = p.length := by simp [suitsIn]
theorem suitsIn_take (h p : List Int) (k : Nat) (hk : k < p.length) : suitsIn h (p.take (k + 1)) = suitsIn h (p.take k) ++ [(suitCounts h).getD (suitOf p[k]).toNat 0] := by
  unfold suitsIn
  rw [List.take_succ_eq_append_getElem hk, List.map_append]; rfl
theorem sort_mem (zs : List Int) (x : Int) (h : x ∈ sortI zs) : x ∈ zs := by
  exact (sortI_perm zs).mem_iff.1 h
theorem playable_goes {D : MGame} (h : playableG D ≠ []) : goesOn D = true := by
  cases e : goesOn D with
  | true => rfl
  | false => exact absurd (playable_f e) h
theorem playable_card {D : MGame} {c : Int} (h : c ∈ playableG D) : isCard c = true := by
  have hg := playable_goes (D := D) (fun e => by rw [e] at h; cases h)
  rw [playable_t hg] at h
  have h1 := sort_mem _ _ (List.mem_filter.1 h).1
  obtain ⟨hb, -⟩ := goes_game hg
  obtain ⟨t, ht, htl, -⟩ := game_nums hb
  have h2 := (isHand_iff _).1 (game_52 hb).2
  refine h2.1 c ?_
  unfold handG at h1
  rw [ht] at h1
  have h3 : D.hands.getD ((t : Int)).toNat [] = D.hands[t] := by simp [List.getD, htl]
  rw [h3] at h1
  unfold allG
  simp only [List.mem_append, List.mem_flatten]
  exact .inl ⟨_, List.getElem_mem htl, h1⟩
theorem suit_range {c : Int} (h : isCard c = true) : 0 ≤ suitOf c ∧ suitOf c ≤ 3 := by
  unfold isCard at h
  unfold suitOf
  simp at h
  simp [isCard, h]
  omega
theorem playable_len {D : MGame} (hs : sumLen D.hands ≤ 1048576) : (playableG D).length ≤ 52 := by
  cases e : goesOn D with
  | false => rw [playable_f e]; simp
  | true =>
    rw [playable_t e]
    refine Nat.le_trans (List.length_filter_le _ _) ?_
    rw [sortI_len]
    obtain ⟨hb, -⟩ := goes_game e
    obtain ⟨t, ht, htl, -⟩ := game_nums hb
    have h1 := (game_52 hb).1
    unfold handG
    rw [ht]
    have h3 : D.hands.getD ((t : Int)).toNat [] = D.hands[t] := by simp [List.getD, htl]
    rw [h3]
    have := len_le_sum D.hands htl
    omega
end Go.Proofs.YtmhbonbjnpcpeaaGreatDoor
namespace Go.Proofs.YtmhbonbjnpcpeaaGreatDoor
open Go.RowKit
set_option linter.unusedVariables false
set_option linter.unusedSimpArgs false

section
variable {P : Program} {ops : Array Oper} {md : Region.Mode}

def dstOf (ops : Array Oper) (i : Nat) : Option Tmp := (ops[i]?).bind (·.dst)
def putAll (ops : Array Oper) (val : Nat → Value) (L : List Nat) (a : Act) : Act := L.foldl (fun a j => a.put (dstOf ops j) (val j)) a
def listAll (l : Array Bool) (L : List Nat) : Array Bool := L.foldl (fun l j => l.setIfInBounds j true) l
/-- j must have come up ahead of i. -/
def predOf (md : Region.Mode) (ops : Array Oper) (i j : Nat) : Bool := ((ops[i]?).map fun o => o.after.any fun e => Region.binds md e && e.on == j).getD false
def reachJ (md : Region.Mode) (ops : Array Oper) (J : List Nat) : Nat → Nat → Nat → Bool
  | 0, _, _ => false
  | f + 1, k, j => predOf md ops k j || J.any fun p => predOf md ops k p && reachJ md ops J f p j
def apartJ (md : Region.Mode) (ops : Array Oper) (j p : Nat) : Bool :=
  match dstOf ops p, ops[j]? with
  | some d, some o => (!(o.looksAt ops).contains d || predOf md ops j p) && o.dst != some d
  | _, _ => true
def jointB (md : Region.Mode) (ops : Array Oper) (listed : Array Bool) (J : List Nat) : Bool :=
  decide J.Nodup && (decide (listed.size = ops.size) && (J.all (fun j => decide (j < ops.size) && (!listed.getD j true &&
    (((ops[j]?).map fun o => o.after.all fun e => !Region.binds md e || (listed.getD e.on false || (J.contains e.on && decide (e.on < j)))).getD false &&
    J.all fun p => p == j || apartJ md ops j p))) &&
  (List.range ops.size).all fun k => J.contains k || (listed.getD k true || ((List.range ops.size).any (fun p => predOf md ops k p && (!J.contains p && !listed.getD p true)) || J.all fun j => reachJ md ops J ops.size k j))))

theorem listAll_size (L : List Nat) : ∀ l : Array Bool, (listAll l L).size = l.size := by
  induction L with
  | nil => intro l; rfl
  | cons x L ih => intro l; show (listAll (l.setIfInBounds x true) L).size = _; rw [ih]; simp
theorem listAll_not (L : List Nat) (k : Nat) (b : Bool) (hk : k ∉ L) : ∀ l : Array Bool, (listAll l L).getD k b = l.getD k b := by
  induction L with
  | nil => intro l; rfl
  | cons x L ih =>
    intro l
    show (listAll (l.setIfInBounds x true) L).getD k b = _
    rw [ih (fun h => hk (List.mem_cons_of_mem _ h)), getD_set_ne b (fun e => hk (by rw [e]; exact List.mem_cons_self))]
theorem listAll_mem (L : List Nat) (k : Nat) (b : Bool) (hk : k ∈ L) : ∀ l : Array Bool, k < l.size → (listAll l L).getD k b = true := by
  induction L with
  | nil => cases hk
  | cons x L ih =>
    intro l hl
    show (listAll (l.setIfInBounds x true) L).getD k b = true
    by_cases h : k ∈ L
    · exact ih h _ (by simpa using hl)
    · rw [listAll_not _ _ _ h]
      have : k = x := by simpa [h] using hk
      subst this
      simp [hl]
theorem listAll_snoc (l : Array Bool) (L : List Nat) (j : Nat) : listAll l (L ++ [j]) = (listAll l L).setIfInBounds j true := by
  unfold listAll; rw [List.foldl_append]; rfl
theorem listAll_perm {L L' : List Nat} (h : L.Perm L') (l : Array Bool) : listAll l L = listAll l L' := by
  unfold listAll
  refine h.foldl_eq' (fun x _ y _ z => ?_) l
  by_cases e : x = y
  · subst e; rfl
  · exact Array.setIfInBounds_comm _ _ e
theorem putAll_congr {val val' : Nat → Value} {L : List Nat} (h : ∀ k ∈ L, val k = val' k) : ∀ a : Act, putAll ops val L a = putAll ops val' L a := by
  induction L with
  | nil => intro a; rfl
  | cons x L ih =>
    intro a
    show putAll ops val L (a.put (dstOf ops x) (val x)) = putAll ops val' L (a.put (dstOf ops x) (val' x))
    rw [h x List.mem_cons_self, ih (fun k hk => h k (List.mem_cons_of_mem _ hk))]
theorem putAll_append (val : Nat → Value) (L L' : List Nat) (a : Act) : putAll ops val (L ++ L') a = putAll ops val L' (putAll ops val L a) := by
  unfold putAll; rw [List.foldl_append]
theorem putAll_perm {val : Nat → Value} {L L' : List Nat} (h : L.Perm L') (hd : ∀ x ∈ L, ∀ y ∈ L, x ≠ y → ∀ d, dstOf ops x = some d → dstOf ops y ≠ some d) (a : Act) : putAll ops val L a = putAll ops val L' a := by
  unfold putAll
  refine h.foldl_eq' (fun x hx y hy z => ?_) a
  by_cases e : x = y
  · subst e; rfl
  · exact Act.put_comm z (val x) (val y) (hd x hx y hy e)
theorem filter_add {J : List Nat} (hJ : J.Nodup) {f : Nat → Bool} {j : Nat} (hj : j ∈ J) (hf : f j = false) : (J.filter fun k => f k || k == j).Perm (J.filter f ++ [j]) := by
  induction J with
  | nil => cases hj
  | cons x J ih =>
    rw [List.nodup_cons] at hJ
    by_cases e : x = j
    · subst e
      have h1 : (J.filter fun k => f k || k == x) = J.filter f := by
        refine List.filter_congr (fun k hk => ?_)
        have : k ≠ x := fun e => hJ.1 (e ▸ hk)
        simp [this]
      rw [List.filter_cons_of_pos (by simp), List.filter_cons_of_neg (by simp [hf]), h1]
      exact (List.perm_append_singleton x _).symm
    · have hj' : j ∈ J := by simpa [Ne.symm e] using hj
      by_cases hx : f x = true
      · rw [List.filter_cons_of_pos (by simp [hx]), List.filter_cons_of_pos hx, List.cons_append]
        exact (ih hJ.2 hj').cons x
      · rw [List.filter_cons_of_neg (by simp [hx, e]), List.filter_cons_of_neg hx]
        exact ih hJ.2 hj'
/-- An operation does the same behind a put that it does not look at. -/
theorem wpOp_move {Q : Exit → Act → World → Prop} {j : Nat} {oj : Oper} {x : Option Tmp} {v : Value} (hj : ops[j]? = some oj) (hlook : ∀ d, x = some d → d ∉ oj.looksAt ops) (hdst : ∀ d, x = some d → oj.dst ≠ some d)
    (hsj : ∀ cs b, oj.op ≠ .select cs b) {K : Act → World → Prop} {b : Act} {w : World} (h : wpOp P ops (fun _ _ _ => False) j K b w) : wpOp P ops Q j (fun a' w' => ∃ a'', K a'' w' ∧ a' = a''.put x v) (b.put x v) w := by
  unfold wpOp at *
  simp only [hj] at *
  rw [wanted_put oj b x v hlook]
  split
  · rename_i hw
    simp only [hw, if_true] at h
    rcases h with h | ⟨-, hlets⟩
    case inr => obtain ⟨_, _, h⟩ := hlets; exact h.elim
    refine .inl ?_
    unfold Oper.wp at *
    rw [execOp_put oj hsj b x v hlook]
    generalize (execOp b.eval oj).run P w = r at *
    cases r with
    | ok n w' =>
      cases n <;> simp only [Oper.upon] at h ⊢
      case value u => exact ⟨_, h, Act.put_comm b v u hdst⟩
      case skip => exact ⟨_, h, Act.put_comm b v undef hdst⟩
      case defer d => exact ⟨_, h, by rw [Act.put_defers]; exact Act.put_comm _ v undef hdst⟩
      case enter f args =>
        refine Calls.mono h fun e w'' he => ?_
        cases e with
        | returned u => exact ⟨_, he, Act.put_comm b v u hdst⟩
        | panicked c => exact he.elim
        | outgrown => obtain ⟨_, _, h⟩ := he; exact h.elim
      case row row args => exact Rows.mono h fun u w'' he => ⟨_, he, Act.put_comm b v u hdst⟩
    | halt y w' =>
      cases y <;> simp only [Oper.upon] at h ⊢
  · rename_i hw
    simp only [hw] at h
    exact ⟨_, h, Act.put_comm b v undef hdst⟩
theorem wpOp_moves {Q : Exit → Act → World → Prop} {j : Nat} {oj : Oper} {val : Nat → Value} (hj : ops[j]? = some oj) (hsj : ∀ cs b, oj.op ≠ .select cs b) :
    ∀ (L : List Nat) (hL : ∀ k ∈ L, (∀ d, dstOf ops k = some d → d ∉ oj.looksAt ops) ∧ ∀ d, dstOf ops k = some d → oj.dst ≠ some d) {K : Act → World → Prop} {b : Act} {w : World} (h : wpOp P ops (fun _ _ _ => False) j K b w),
      wpOp P ops Q j (fun a' w' => ∃ a'', K a'' w' ∧ a' = putAll ops val L a'') (putAll ops val L b) w := by
  have key : ∀ (L : List Nat) (hL : ∀ k ∈ L, (∀ d, dstOf ops k = some d → d ∉ oj.looksAt ops) ∧ ∀ d, dstOf ops k = some d → oj.dst ≠ some d) {K : Act → World → Prop} {b : Act} {w : World} (h : wpOp P ops (fun _ _ _ => False) j K b w),
      wpOp P ops (fun _ _ _ => False) j (fun a' w' => ∃ a'', K a'' w' ∧ a' = putAll ops val L a'') (putAll ops val L b) w := by
    intro L
    induction L with
    | nil => intro _ K b w h; exact wpOp_mono (fun a' w' h => ⟨a', h, rfl⟩) h
    | cons x L ih =>
      intro hL K b w h
      obtain ⟨h1, h2⟩ := hL x List.mem_cons_self
      have := ih (fun k hk => hL k (List.mem_cons_of_mem _ hk)) (wpOp_move (Q := fun _ _ _ => False) (x := dstOf ops x) (v := val x) hj h1 h2 hsj h)
      exact wpOp_mono (fun a' w' ⟨a1, ⟨a2, hk, e⟩, e2⟩ => ⟨a2, hk, by rw [e2, e]; rfl⟩) this
  intro L hL K b w h
  exact wpOp_mono (fun a' w' ⟨a1, ⟨a2, hk, e⟩, e2⟩ => ⟨a2, hk, by rw [e2, e]; rfl⟩) (wpOp_move (Q := Q) (x := none) (v := undef) hj (fun d h => by cases h) (fun d h => by cases h) hsj (key L hL h))

structure JointOK (md : Region.Mode) (ops : Array Oper) (listed : Array Bool) (J : List Nat) : Prop where
  nodup : J.Nodup
  size : listed.size = ops.size
  each : ∀ j ∈ J, j < ops.size ∧ listed.getD j true = false ∧ (∃ o, ops[j]? = some o ∧ ∀ e ∈ o.after, Region.binds md e = true → listed.getD e.on false = true ∨ e.on ∈ J ∧ e.on < j) ∧ ∀ p ∈ J, p = j ∨ apartJ md ops j p = true
  tail : ∀ k, k < ops.size → k ∈ J ∨ listed.getD k true = true ∨ (∃ p, p < ops.size ∧ predOf md ops k p = true ∧ p ∉ J ∧ listed.getD p true = false) ∨ ∀ j ∈ J, reachJ md ops J ops.size k j = true
theorem jointOK {listed : Array Bool} {J : List Nat} (h : jointB md ops listed J = true) : JointOK md ops listed J := by
  unfold jointB at h
  rw [Bool.and_eq_true, Bool.and_eq_true, Bool.and_eq_true, decide_eq_true_eq, decide_eq_true_eq, List.all_eq_true, List.all_eq_true] at h
  obtain ⟨h1, h2, h3, h4⟩ := h
  refine ⟨h1, h2, fun j hj => ?_, fun k hk => ?_⟩
  · have := h3 j hj
    rw [Bool.and_eq_true, Bool.and_eq_true, Bool.and_eq_true, decide_eq_true_eq, Bool.not_eq_true', List.all_eq_true] at this
    obtain ⟨a1, a2, a3, a4⟩ := this
    refine ⟨a1, a2, ?_, fun p hp => ?_⟩
    · obtain ⟨o, ho⟩ : ∃ o, ops[j]? = some o := ⟨_, Array.getElem?_eq_getElem a1⟩
      rw [ho] at a3
      refine ⟨o, ho, fun e he hb => ?_⟩
      obtain ⟨i, hi, rfl⟩ := Array.getElem_of_mem he
      have a3 : ∀ (i : Nat) (x : i < o.after.size), Region.binds md o.after[i] = false ∨ listed[o.after[i].on]?.getD false = true ∨ o.after[i].on ∈ J ∧ o.after[i].on < j := by simpa using a3
      have := a3 i hi
      simpa [hb] using this
    · have := a4 p hp
      simpa using this
  · have := h4 k (List.mem_range.2 hk)
    simp only [Bool.or_eq_true, List.contains_iff_mem, List.any_eq_true, List.mem_range, Bool.and_eq_true, Bool.not_eq_true', List.all_eq_true] at this
    rcases this with h | h | ⟨p, hp, h1, h2, h3⟩ | h
    · exact .inl h
    · exact .inr (.inl h)
    · exact .inr (.inr (.inl ⟨p, hp, h1, by simpa using h2, h3⟩))
    · exact .inr (.inr (.inr h))
theorem predOf_iff {i j : Nat} {o : Oper} (ho : ops[i]? = some o) : predOf md ops i j = true ↔ ∃ e ∈ o.after, Region.binds md e = true ∧ e.on = j := by
  unfold predOf
  rw [ho]
  simp only [Option.map_some, Option.getD_some, Array.any_eq_true', Bool.and_eq_true, beq_iff_eq]
theorem reach_done {J : List Nat} {f : Nat → Bool} (hdown : ∀ j ∈ J, f j = true → ∀ p ∈ J, predOf md ops j p = true → f p = true) :
    ∀ (n k j : Nat), (∀ p ∈ J, predOf md ops k p = true → f p = true) → j ∈ J → reachJ md ops J n k j = true → f j = true := by
  intro n
  induction n with
  | zero => intro k j _ _ h; cases h
  | succ n ih =>
    intro k j hk hj h
    simp only [reachJ, Bool.or_eq_true, List.any_eq_true, Bool.and_eq_true] at h
    rcases h with h | ⟨p, hp, h1, h2⟩
    · exact hk j hj h
    · exact ih p j (hdown p hp (hk p hp h1)) hj h2
theorem putAll_late {i : Nat} (val : Nat → Value) : ∀ (L : List Nat) (hne : ∀ k ∈ L, ∀ d, dstOf ops i = some d → dstOf ops k ≠ some d) (b : Act) (v : Value), putAll ops val L (b.put (dstOf ops i) v) = (putAll ops val L b).put (dstOf ops i) v := by
  intro L
  induction L with
  | nil => intro _ b v; rfl
  | cons x L ihL =>
    intro hne b v
    show putAll ops val L ((b.put (dstOf ops i) v).put (dstOf ops x) (val x)) = (putAll ops val L (b.put (dstOf ops x) (val x))).put (dstOf ops i) v
    rw [Act.put_comm b v (val x) (hne x List.mem_cons_self), ihL (fun k hk => hne k (List.mem_cons_of_mem _ hk))]
theorem wpAny_core {Q : Exit → Act → World → Prop} {J : List Nat} {V : Nat → (Nat → Value) → (Nat → Nat × Nat) → World → Prop} {w0 : World} {a0 : Act} {n : Nat} {listed : Array Bool} (hB : JointOK md ops listed J) (hsel : Region.noSelect ops = true)
    (hcong : ∀ j ∈ J, ∀ val val' iv iv' w, (∀ p, (p = j ∨ p ∈ J ∧ predOf md ops j p = true) → val p = val' p ∧ iv p = iv' p) → V j val iv w → V j val' iv' w)
    (hst : ∀ j ∈ J, ∀ val iv w w', V j val iv w → Below w.heap.size w w' → V j val iv w')
    (step : ∀ j ∈ J, ∀ w val (iv : Nat → Nat × Nat), Below w0.heap.size w0 w → (∀ p ∈ J, predOf md ops j p = true → V p val iv w) → wpOp P ops (fun _ _ _ => False) j (fun a' w' => ∃ v, a' = (putAll ops val (J.filter (predOf md ops j)) a0).put (dstOf ops j) v ∧ V j (fun k => if k = j then v else val k) (fun k => if k = j then (w.heap.size, w'.heap.size) else iv k) w' ∧ Below w.heap.size w w') (putAll ops val (J.filter (predOf md ops j)) a0) w)
    (fin : ∀ w val (iv : Nat → Nat × Nat), Below w0.heap.size w0 w → (∀ j ∈ J, V j val iv w ∧ w0.heap.size ≤ (iv j).1 ∧ (iv j).2 ≤ w.heap.size) → (∀ i ∈ J, ∀ j ∈ J, i ≠ j → (iv i).2 ≤ (iv j).1 ∨ (iv j).2 ≤ (iv i).1) → wpAny P md ops Q n (listAll listed J) (putAll ops val J a0) w) :
    ∀ (m : Nat) (f : Nat → Bool) (val : Nat → Value) (iv : Nat → Nat × Nat) (w : World), (J.filter fun k => !f k).length = m → (∀ j ∈ J, f j = true → ∀ p ∈ J, predOf md ops j p = true → f p = true) → Below w0.heap.size w0 w → (∀ j ∈ J, f j = true → V j val iv w ∧ w0.heap.size ≤ (iv j).1 ∧ (iv j).2 ≤ w.heap.size) → (∀ i ∈ J, ∀ j ∈ J, f i = true → f j = true → i ≠ j → (iv i).2 ≤ (iv j).1 ∨ (iv j).2 ≤ (iv i).1) →
      wpAny P md ops Q (n + m) (listAll listed (J.filter f)) (putAll ops val (J.filter f) a0) w := by
  have hdd : ∀ x ∈ J, ∀ y ∈ J, x ≠ y → ∀ d, dstOf ops x = some d → dstOf ops y ≠ some d := fun x hx y hy hne d hd => by
    obtain ⟨-, -, ⟨o, ho, -⟩, h⟩ := hB.each y hy
    rcases h x hx with h | h
    · exact absurd h hne
    · unfold apartJ at h
      rw [hd, ho] at h
      simp only [Bool.and_eq_true, bne_iff_ne] at h
      unfold dstOf; rw [ho]; exact h.2
  intro m
  induction m with
  | zero =>
    intro f val iv w hm hdown B hV hD
    have hall : ∀ j ∈ J, f j = true := fun j hj => by
      have := List.filter_eq_nil_iff.1 (List.length_eq_zero_iff.1 hm) j hj
      simpa using this
    rw [List.filter_eq_self.2 hall]
    exact fin w val iv B (fun j hj => hV j hj (hall j hj)) (fun i hi j hj => hD i hi j hj (hall i hi) (hall j hj))
  | succ m ih =>
    intro f val iv w hm hdown B hV hD
    have hgetF : ∀ j ∈ J, f j = false → (listAll listed (J.filter f)).getD j true = false := fun j hj hf => by
      rw [listAll_not _ _ _ (by simp [hf])]; exact (hB.each j hj).2.1
    have hgetT : ∀ j ∈ J, f j = true → (listAll listed (J.filter f)).getD j false = true := fun j hj hf =>
      listAll_mem _ _ _ (List.mem_filter.2 ⟨hj, hf⟩) _ (by rw [hB.size]; exact (hB.each j hj).1)
    have hkeep : ∀ k, listed.getD k false = true → (listAll listed (J.filter f)).getD k false = true := fun k hk => by
      by_cases h : k ∈ J.filter f
      · exact listAll_mem _ _ _ h _ (by rcases Nat.lt_or_ge k listed.size with h | h; exact h; simp [Array.getElem?_eq_none h] at hk)
      · rw [listAll_not _ _ _ h]; exact hk
    -- somebody is ready
    have hsome : ∀ j, j ∈ J → f j = false → Region.ready md ops (listAll listed (J.filter f)) ≠ [] := by
      intro j
      induction j using Nat.strongRecOn with
      | _ j ihj =>
        intro hj hf
        obtain ⟨h1, h2, ⟨o, ho, h3⟩, -⟩ := hB.each j hj
        by_cases hp : ∃ p ∈ J, p < j ∧ f p = false
        · obtain ⟨p, hp, hlt, hfp⟩ := hp
          exact ihj p hlt hp hfp
        · intro hnil
          have : j ∈ Region.ready md ops (listAll listed (J.filter f)) := mem_ready.2 ⟨hgetF j hj hf, o, ho, fun e he hb => by
            rcases h3 e he hb with h | ⟨h, hlt⟩
            · exact hkeep _ h
            · refine hgetT _ h ?_
              cases hq : f e.on with
              | true => rfl
              | false => exact absurd ⟨_, h, hlt, hq⟩ hp⟩
          rw [hnil] at this
          cases this
    obtain ⟨j0, hj0, hf0⟩ : ∃ j ∈ J, f j = false := by
      have : (J.filter fun k => !f k) ≠ [] := fun e => by rw [e] at hm; cases hm
      obtain ⟨j, hj⟩ := List.exists_mem_of_ne_nil _ this
      obtain ⟨h1, h2⟩ := List.mem_filter.1 hj
      exact ⟨j, h1, by simpa using h2⟩
    refine ⟨fun h => absurd h (hsome j0 hj0 hf0), fun i hi => ?_⟩
    obtain ⟨hun, o, ho, hpre⟩ := mem_ready.1 hi
    have hilt : i < ops.size := (Array.getElem?_eq_some_iff.1 ho).1
    have hpJ : ∀ p ∈ J, predOf md ops i p = true → f p = true := fun p hp h => by
      obtain ⟨e, he, hb, rfl⟩ := (predOf_iff ho).1 h
      have := hpre e he hb
      cases hq : f e.on with
      | true => rfl
      | false =>
        have h2 := hgetF _ hp hq
        have hs : e.on < (listAll listed (J.filter f)).size := by rw [listAll_size, hB.size]; exact (hB.each _ hp).1
        simp [hs] at h2 this
        rw [h2] at this; cases this
    have hiJ : i ∈ J := by
      rcases hB.tail i hilt with h | h | ⟨p, hp, h1, h2, h3⟩ | h
      · exact h
      · exfalso
        by_cases hm2 : i ∈ J.filter f
        · exact absurd (List.mem_filter.1 hm2).1 (fun h => by rw [listAll_mem _ _ _ hm2 _ (by rw [hB.size]; exact hilt)] at hun; cases hun)
        · rw [listAll_not _ _ _ hm2, h] at hun; cases hun
      · exfalso
        obtain ⟨e, he, hb, rfl⟩ := (predOf_iff ho).1 h1
        have := hpre e he hb
        rw [listAll_not _ _ _ (fun h => h2 (List.mem_filter.1 h).1)] at this
        have hs : e.on < listed.size := by rw [hB.size]; exact hp
        simp [hs] at h3 this
        rw [h3] at this; cases this
      · exact absurd (reach_done hdown _ i j0 hpJ hj0 (h j0 hj0)) (by rw [hf0]; decide)
    have hfi : f i = false := by
      cases hq : f i with
      | false => rfl
      | true => rw [listAll_mem _ _ _ (List.mem_filter.2 ⟨hiJ, hq⟩) _ (by rw [hB.size]; exact hilt)] at hun; cases hun
    -- the operation, behind its own predecessors alone
    have h0 := step i hiJ w val iv B (fun p hp h => (hV p hp (hpJ p hp h)).1)
    have hL : ∀ k ∈ (J.filter f).filter (fun k => !predOf md ops i k), (∀ d, dstOf ops k = some d → d ∉ o.looksAt ops) ∧ ∀ d, dstOf ops k = some d → o.dst ≠ some d := fun k hk => by
      obtain ⟨hk1, hk2⟩ := List.mem_filter.1 hk
      obtain ⟨hk3, hk4⟩ := List.mem_filter.1 hk1
      obtain ⟨-, -, -, h⟩ := hB.each i hiJ
      rcases h k hk3 with h | h
      · subst h; rw [hfi] at hk4; cases hk4
      · unfold apartJ at h
        have hk2 : predOf md ops i k = false := by simpa using hk2
        refine ⟨fun d hd => ?_, fun d hd => ?_⟩ <;> rw [hd, ho] at h <;> simp [hk2] at h
        · exact h.1
        · exact h.2
    have h1 := wpOp_moves (Q := Q) (val := val) ho (fun cs b => Region.noSelect_spec hsel i o cs b ho) _ hL h0
    have hpf : (J.filter f).filter (predOf md ops i) = J.filter (predOf md ops i) := by
      rw [List.filter_filter]
      refine List.filter_congr (fun k hk => ?_)
      cases hq : predOf md ops i k with
      | false => rfl
      | true => rw [hpJ k hk hq]; rfl
    have hperm : (J.filter (predOf md ops i) ++ (J.filter f).filter (fun k => !predOf md ops i k)).Perm (J.filter f) := by
      rw [← hpf]; exact List.filter_append_perm _ _
    have hmemJ : ∀ {g : Nat → Bool} {x : Nat}, x ∈ J.filter g → x ∈ J := fun h => (List.mem_filter.1 h).1
    have hput : ∀ a : Act, putAll ops val ((J.filter f).filter (fun k => !predOf md ops i k)) (putAll ops val (J.filter (predOf md ops i)) a) = putAll ops val (J.filter f) a := fun a => by
      rw [← putAll_append]
      refine putAll_perm hperm (fun x hx y hy => hdd x ?_ y ?_) a
      · exact hmemJ (hperm.mem_iff.1 hx)
      · exact hmemJ (hperm.mem_iff.1 hy)
    rw [hput] at h1
    refine wpOp_mono ?_ h1
    rintro a' w' ⟨a'', ⟨v, rfl, hv, B1⟩, rfl⟩
    have hfil := filter_add hB.nodup hiJ hfi
    have hset : (listAll listed (J.filter f)).setIfInBounds i true = listAll listed (J.filter fun k => f k || k == i) := by
      rw [← listAll_snoc]; exact (listAll_perm hfil listed).symm
    have hval : ∀ k ∈ J.filter f, val k = (if k = i then v else val k) := fun k hk => by
      have : k ≠ i := fun e => by subst e; have := (List.mem_filter.1 hk).2; rw [hfi] at this; cases this
      rw [if_neg this]
    have hact : putAll ops val ((J.filter f).filter (fun k => !predOf md ops i k)) ((putAll ops val (J.filter (predOf md ops i)) a0).put (dstOf ops i) v) = putAll ops (fun k => if k = i then v else val k) (J.filter fun k => f k || k == i) a0 := by
      rw [putAll_perm hfil (fun x hx y hy => hdd x (hmemJ hx) y (hmemJ hy)), putAll_append, ← putAll_congr hval, ← hput]
      show _ = (putAll ops val _ (putAll ops val _ a0)).put (dstOf ops i) (if i = i then v else val i)
      rw [if_pos rfl]
      generalize putAll ops val (J.filter (predOf md ops i)) a0 = b
      have hne : ∀ k ∈ (J.filter f).filter (fun k => !predOf md ops i k), ∀ d, dstOf ops i = some d → dstOf ops k ≠ some d := fun k hk => by
        have h1 := List.mem_filter.1 (List.mem_filter.1 hk).1
        refine hdd i hiJ k h1.1 (fun e => ?_)
        subst e; rw [hfi] at h1; cases h1.2
      exact putAll_late val _ hne b v
    rw [hset, hact]
    refine ih (fun k => f k || k == i) (fun k => if k = i then v else val k) (fun k => if k = i then (w.heap.size, w'.heap.size) else iv k) w' ?_ ?_ (B.trans (B1.mono B.size)) ?_ ?_
    · have h3 := hfil.length_eq
      rw [List.length_append] at h3
      have c1 := (List.filter_append_perm f J).length_eq
      have c2 := (List.filter_append_perm (fun k => f k || k == i) J).length_eq
      rw [List.length_append] at c1 c2
      simp only [List.length_singleton] at h3
      omega
    · intro j hj hfj p hp hpp
      simp only [Bool.or_eq_true, beq_iff_eq] at hfj ⊢
      rcases hfj with h | h
      · exact .inl (hdown j hj h p hp hpp)
      · subst h; exact .inl (hpJ p hp hpp)
    · intro j hj hfj
      by_cases e : j = i
      · subst e; simp only [if_true]; exact ⟨hv, B.size, Nat.le_refl _⟩
      · simp only [if_neg e]
        have : f j = true := by simpa [e] using hfj
        obtain ⟨q1, q2, q3⟩ := hV j hj this
        refine ⟨hcong j hj val _ iv _ w' (fun p hp => ?_) (hst j hj _ _ w w' q1 B1), q2, Nat.le_trans q3 B1.size⟩
        have hpi : p ≠ i := fun e2 => by
          subst e2
          rcases hp with h | ⟨h1, h2⟩
          · exact e h.symm
          · rw [hdown j hj this p h1 h2] at hfi; cases hfi
        simp only [if_neg hpi, and_self]
    · intro j hj k hk hfj hfk hne
      by_cases e : j = i
      · have e2 : k ≠ i := fun h => hne (e.trans h.symm)
        have h2 : f k = true := by simpa [e2] using hfk
        simp only [if_pos e, if_neg e2]
        exact .inr (hV k hk h2).2.2
      · have h1 : f j = true := by simpa [e] using hfj
        by_cases e2 : k = i
        · simp only [if_pos e2, if_neg e]
          exact .inl (hV j hj h1).2.2
        · have h2 : f k = true := by simpa [e2] using hfk
          simp only [if_neg e2, if_neg e]
          exact hD j hj k hk h1 h2 hne
end
end Go.Proofs.YtmhbonbjnpcpeaaGreatDoor
namespace Go.Proofs.YtmhbonbjnpcpeaaGreatDoor
open Go.RowKit
set_option linter.unusedVariables false
set_option linter.unusedSimpArgs false

theorem WrIn.below {k : IntKind} {S : Nat → Prop} {w w' : World} {v : Value} {zs : List Int} (h : WrIn k S w v zs) (b : Below w.heap.size w w') : WrIn k S w' v zs := h.touch (Below.touch (S := fun _ => False) b) (fun _ _ hx => hx)
theorem WrSS.below {k : IntKind} {S : Nat → Prop} {w w' : World} {v : Value} {zss : List (List Int)} (h : WrSS k S w v zss) (b : Below w.heap.size w w') : WrSS k S w' v zss := h.touch (Below.touch (S := fun _ => False) b) (fun _ _ hx => hx)
theorem loadRowX {w : World} {g : Nat} {t ty : TypeId} {cs : Array Value} {fr : Nat × Nat} {d : TypeDesc} (hg : w.heap[g]? = some (.cells cs t fr)) (hu : Tryz.prog.underlying ty = some d) (hd : d.isRow = true) (hi : (Tryz.prog.info? ty).map (·.size) = some cs.size) :
    (Instr.loadAt ty (.pointer (some ⟨g, 0, none⟩))).run Tryz.prog w = .ok (.agg cs) w := by
  have := run_loadAt_mid (P := Tryz.prog) w g 0 ty cs.toList d (fun j v hv => by
    have hc : w.cell? ⟨g, 0 + j, none⟩ = cs[0 + j]? := cell_of_row w g (0 + j) cs t fr hg
    rw [hc, Nat.zero_add]; simpa using hv) hu hd (by rw [hi]; simp)
  simpa using this
theorem yieldsX {ops : Array Oper} {S : World → Prop} {op : Oper} {a : Act} (hw : Region.wanted op (yielded ops a.tmps) = true) (ty : TypeId) (x : Operand) (ho : op.op = .load ty x)
    (b : Nat) (hx : a.eval x = .pointer (some ⟨b, 0, none⟩)) (cs : Array Value) (t : TypeId) (d : TypeDesc) (hS : ∀ w : World, S w → w.heap[b]? = some (.cells cs t (0, 0)))
    (hu : Tryz.prog.underlying ty = some d) (hd : d.isRow = true) (hi : (Tryz.prog.info? ty).map (·.size) = some cs.size) : YieldsIf Tryz.prog ops S op (.agg cs) a := by
  have := yieldsIf_load_mid (P := Tryz.prog) hw ty x ho b 0 hx cs.toList d (fun w h j v hv => by
    have hc : w.cell? ⟨b, 0 + j, none⟩ = cs[0 + j]? := cell_of_row w b (0 + j) cs t (0, 0) (hS w h)
    rw [hc, Nat.zero_add]; simpa using hv) hu hd (by rw [hi]; simp)
  simpa using this
/-- A whole struct loaded, guarded or not. -/
theorem wpList_load_rowG {ops : Array Oper} {rest : List Oper} {o : Oper} {a : Act} {w : World} {Q : Exit → Act → World → Prop} (hw : Region.wanted o (yielded ops a.tmps) = true) (ty : TypeId) (x : Operand) (ho : o.op = .load ty x)
    (g : Nat) (hx : a.eval x = .pointer (some ⟨g, 0, none⟩)) (cs : Array Value) (hr : (Instr.loadAt ty (.pointer (some ⟨g, 0, none⟩))).run Tryz.prog w = .ok (.agg cs) w)
    (h : wpList Tryz.prog ops Q rest (a.put o.dst (.agg cs)) w) : wpList Tryz.prog ops Q (o :: rest) a w :=
  wpList_step fun K hK => by
    rw [if_pos hw]
    unfold Oper.wp execOp
    simp only [ho, hx, hr, Sem.run_bind, Sem.run_pure, Result.andThen_ok]
    exact hK _ _ h
/-- What a fresh box holds behind the store of a whole struct. -/
theorem freshX (w : World) (Z A : Array Value) (t : TypeId) : ((w.alloc (.cells Z t)).setRow w.heap.size A).heap[w.heap.size]? = some (.cells A t (0, 0)) ∧ Below w.heap.size w ((w.alloc (.cells Z t)).setRow w.heap.size A) ∧ w.heap.size < ((w.alloc (.cells Z t)).setRow w.heap.size A).heap.size :=
  ⟨setRow_heap _ _ Z A _ _ (heap_alloc_new _ _), below_setRow ((Below.refl _ _).alloc (Nat.le_refl _) _) (Nat.le_refl _) _, by simp [World.setRow]⟩
/-- A contract that names the block of its slice, as one that tells between which blocks it lies. -/
theorem toIn1 {P : Program} {f : FuncId} {args : Array Value} {w : World} {k : IntKind} {F : List Int} (h : Calls P f args w fun e w' => ∃ v b, e = .returned v ∧ w.heap.size ≤ b ∧ WrAt k w' v F b ∧ Below w.heap.size w w') :
    Calls P f args w fun e w' => ∃ v, e = .returned v ∧ WrIn k (In w.heap.size w'.heap.size) w' v F ∧ Below w.heap.size w w' :=
  h.mono fun e w' ⟨v, b, he, hb, hw, B⟩ => ⟨v, he, WrIn.of hw hb, B⟩
theorem toIn2 {P : Program} {f : FuncId} {args : Array Value} {w : World} {k : IntKind} {F : List Int} {u : Value} (h : Calls P f args w fun e w' => ∃ v b, e = .returned (.tuple #[v, u]) ∧ w.heap.size ≤ b ∧ WrAt k w' v F b ∧ Below w.heap.size w w') :
    Calls P f args w fun e w' => ∃ v, e = .returned (.tuple #[v, u]) ∧ WrIn k (In w.heap.size w'.heap.size) w' v F ∧ Below w.heap.size w w' :=
  h.mono fun e w' ⟨v, b, he, hb, hw, B⟩ => ⟨v, he, WrIn.of hw hb, B⟩
theorem two_apart {S T : Nat → Prop} {a b c d : Nat} (hs : ∀ x, S x → a ≤ x ∧ x < b) (ht : ∀ x, T x → c ≤ x ∧ x < d) (h : b ≤ c ∨ d ≤ a) : ∀ x, S x → ¬ T x := fun x h1 h2 => by
  have := hs x h1; have := ht x h2; omega
end Go.Proofs.YtmhbonbjnpcpeaaGreatDoor
