/-
  IsRules, both sides, and the rules made ready.
-/
import Derived.Test.YtmfammgdcdlceaaDoorPatG
import Derived.Test.YtmfammgdcdlceaaDoorPatS
import Derived.Test.YtmfammgdcdlceaaDoorSRules
namespace Go.Proofs.YtmfammgdcdlceaaDoor
open Go.RowKit
set_option linter.unusedVariables false
set_option linter.unusedSimpArgs false

def patOr (p : List Int) : Bool := decide (p.length = 0) || isPat p
/-- The cards that a pattern or the empty list means. -/
def orF0 (p : List Int) : Int → Bool := if p.length = 0 then fun _ => false else patF p
def inB (n lo hi : Int) : Bool := decide (lo ≤ n ∧ n ≤ hi)
def numsB (D : MRules) : Bool := inB D.players 2 6 && (inB D.each 1 8 && (inB D.take 1 4 && inB D.limit 1 400))
def rulesB (D : MRules) : Bool := inB D.players 2 6 && (inB D.each 1 8 && ((D.sameSuit || D.sameRank) && (patOr D.wild && (patOr D.skip && (inB D.take 1 4 && inB D.limit 1 400)))))
theorem rulesB_eq (D : MRules) : rulesB D = (patOr D.wild && (patOr D.skip && (numsB D && (D.sameSuit || D.sameRank)))) := by
  unfold rulesB numsB
  cases inB D.players 2 6 <;> cases inB D.each 1 8 <;> cases D.sameSuit <;> cases D.sameRank <;> cases patOr D.wild <;> cases patOr D.skip <;> cases inB D.take 1 4 <;> cases inB D.limit 1 400 <;> rfl

set_option maxRecDepth 100000 in
theorem sPatOr_any (v : Value) (zs : List Int) (b : Nat) (w : World) (h : RdAt .i64 w v zs b) (hl : zs.length ≤ 1099511627776) (r : Bool) (hr : patOr zs = r) :
    Calls Tryd.prog 87 #[v] w fun e w' => e = .returned (.bool r) ∧ w = w' := by
  have HP := Lib.hid (sIsPattern_any v zs b w h hl _ rfl)
  obtain ⟨a, cap, rfl, -⟩ := h
  unfold patOr at hr
  obtain ⟨n, hn⟩ : ∃ n, n = zs.length := ⟨_, rfl⟩
  rw [← hn] at hr hl HP ⊢
  clear hn
  by_cases h0 : n = 0
  · subst h0
    obtain rfl : r = true := by rw [← hr]; rfl
    clear hr
    go_enter Tryd.func87, Tryd.ntmps87
    go_wp2_with fail
    go_ret
    exact ⟨rfl, rfl⟩
  · have hz : ((n : Int) == 0) = false := by simpa using h0
    have hr2 : isPat zs = r := by rw [← hr]; simp [h0]
    rw [hr2] at HP
    clear hr hr2
    go_enter Tryd.func87, Tryd.ntmps87
    go_wp2_with fail
    refine HP.out.mono ?_
    rintro e _w ⟨rfl, rfl⟩
    go_wp2_with fail
    go_ret
    exact ⟨rfl, rfl⟩

set_option maxRecDepth 100000 in
set_option maxHeartbeats 4000000 in
theorem sIsRules_any (v : Value) (D : MRules) (w : World) (h : RdRules w v D) (hf : D.Few) (r : Bool) (hr : rulesB D = r) :
    Calls Tryd.prog 75 #[v] w fun e w' => e = .returned (.bool r) ∧ Below w.heap.size w w' := by
  obtain ⟨pl, ea, ss, sr, wi, sk, ta, li⟩ := D
  obtain ⟨v4, v5, b4, b5, rfl, h4, h5, -, -, -, -⟩ := h
  obtain ⟨f4, f5⟩ := hf
  dsimp only at *
  have HI := Lib.hid (fun n lo hi wx => inM_any n lo hi wx (inB n lo hi) rfl)
  have HW := Lib.hid (fun wx (hb : Below w.heap.size w wx) => sPatOr_any _ wi _ wx (h4.below hb) (by omega) _ rfl)
  have HK := Lib.hid (fun wx (hb : Below w.heap.size w wx) => sPatOr_any _ sk _ wx (h5.below hb) (by omega) _ rfl)
  obtain ⟨p4, c4, e4, -⟩ := id h4
  obtain ⟨p5, c5, e5, -⟩ := id h5
  subst e4 e5
  have B0 := fun o => (Below.refl w.heap.size w).alloc (Nat.le_refl _) o
  unfold rulesB at hr
  dsimp only at hr
  obtain ⟨q0, hq0⟩ : ∃ q, q = inB pl 2 6 := ⟨_, rfl⟩
  obtain ⟨q1, hq1⟩ : ∃ q, q = inB ea 1 8 := ⟨_, rfl⟩
  obtain ⟨q2, hq2⟩ : ∃ q, q = patOr wi := ⟨_, rfl⟩
  obtain ⟨q3, hq3⟩ : ∃ q, q = patOr sk := ⟨_, rfl⟩
  obtain ⟨q4, hq4⟩ : ∃ q, q = inB ta 1 4 := ⟨_, rfl⟩
  obtain ⟨q5, hq5⟩ : ∃ q, q = inB li 1 400 := ⟨_, rfl⟩
  have H0 := Lib.hid (fun wx => HI.out pl 2 6 wx)
  have H1 := Lib.hid (fun wx => HI.out ea 1 8 wx)
  have H4 := Lib.hid (fun wx => HI.out ta 1 4 wx)
  have H5 := Lib.hid (fun wx => HI.out li 1 400 wx)
  rw [← hq0] at hr H0
  rw [← hq1] at hr H1
  rw [← hq2] at hr HW
  rw [← hq3] at hr HK
  rw [← hq4] at hr H4
  rw [← hq5] at hr H5
  have HR := Lib.hid hr
  clear hr hq0 hq1 hq2 hq3 hq4 hq5 h4 h5 f4 f5 HI
  go_enter Tryd.func75, Tryd.ntmps75
  go_wp2_with fail
  refine (H0.out _).mono ?_
  rintro e _w ⟨rfl, rfl⟩
  cases q0 with
  | false =>
    obtain rfl : false = r := HR.out
    go_wp2_with fail
    go_ret
    exact ⟨rfl, B0 _⟩
  | true =>
    go_wp2_with fail
    refine (H1.out _).mono ?_
    rintro e _w ⟨rfl, rfl⟩
    cases q1 with
    | false =>
      obtain rfl : false = r := HR.out
      go_wp2_with fail
      go_ret
      exact ⟨rfl, B0 _⟩
    | true =>
      cases ss with
      | true =>
        go_wp2_with fail
        refine (HW.out _ (B0 _)).mono ?_
        rintro e _w ⟨rfl, rfl⟩
        cases q2 with
        | false =>
          obtain rfl : false = r := HR.out
          go_wp2_with fail
          go_ret
          exact ⟨rfl, B0 _⟩
        | true =>
          go_wp2_with fail
          refine (HK.out _ (B0 _)).mono ?_
          rintro e _w ⟨rfl, rfl⟩
          cases q3 with
          | false =>
            obtain rfl : false = r := HR.out
            go_wp2_with fail
            go_ret
            exact ⟨rfl, B0 _⟩
          | true =>
            go_wp2_with fail
            refine (H4.out _).mono ?_
            rintro e _w ⟨rfl, rfl⟩
            cases q4 with
            | false =>
              obtain rfl : false = r := HR.out
              go_wp2_with fail
              go_ret
              exact ⟨rfl, B0 _⟩
            | true =>
              go_wp2_with fail
              refine (H5.out _).mono ?_
              rintro e _w ⟨rfl, rfl⟩
              cases q5 with
              | false =>
                obtain rfl : false = r := HR.out
                go_wp2_with fail
                go_ret
                exact ⟨rfl, B0 _⟩
              | true =>
                obtain rfl : true = r := HR.out
                go_wp2_with fail
                go_ret
                exact ⟨rfl, B0 _⟩
      | false =>
        cases sr with
        | false =>
          obtain rfl : false = r := HR.out
          go_wp2_with fail
          go_ret
          exact ⟨rfl, B0 _⟩
        | true =>
          go_wp2_with fail
          refine (HW.out _ (B0 _)).mono ?_
          rintro e _w ⟨rfl, rfl⟩
          cases q2 with
          | false =>
            obtain rfl : false = r := HR.out
            go_wp2_with fail
            go_ret
            exact ⟨rfl, B0 _⟩
          | true =>
            go_wp2_with fail
            refine (HK.out _ (B0 _)).mono ?_
            rintro e _w ⟨rfl, rfl⟩
            cases q3 with
            | false =>
              obtain rfl : false = r := HR.out
              go_wp2_with fail
              go_ret
              exact ⟨rfl, B0 _⟩
            | true =>
              go_wp2_with fail
              refine (H4.out _).mono ?_
              rintro e _w ⟨rfl, rfl⟩
              cases q4 with
              | false =>
                obtain rfl : false = r := HR.out
                go_wp2_with fail
                go_ret
                exact ⟨rfl, B0 _⟩
              | true =>
                go_wp2_with fail
                refine (H5.out _).mono ?_
                rintro e _w ⟨rfl, rfl⟩
                cases q5 with
                | false =>
                  obtain rfl : false = r := HR.out
                  go_wp2_with fail
                  go_ret
                  exact ⟨rfl, B0 _⟩
                | true =>
                  obtain rfl : true = r := HR.out
                  go_wp2_with fail
                  go_ret
                  exact ⟨rfl, B0 _⟩

theorem entNone : Enters Tryd.prog 107 := enters_of Tryd.func107 (by kernel_rfl) rfl
theorem saysNone (c : Int) (w : World) :
    Calls Tryd.prog 107 #[.int .u8 c] w fun e w' => e = .returned (.bool false) ∧ Below w.heap.size w w' := by
  go_enter Tryd.func107, Tryd.ntmps107
  go_wp2
  go_ret
  exact ⟨rfl, Below.refl _ _⟩
set_option maxRecDepth 100000 in
theorem matcherOrNone_any (v : Value) (zs : List Int) (b : Nat) (w : World) (h : RdAt .i64 w v zs b) (hl : zs.length ≤ 1099511627776) (hG : Grps w) (r : Bool) (hr : patOr zs = r) :
    Calls Tryd.prog 97 #[v] w fun e w' => (∃ f, e = .returned (.tuple #[f, .bool r]) ∧ (r = true → Means w.heap.size w' f (orF0 zs))) ∧ Below w.heap.size w w' := by
  have HM := Lib.hid (matcherOf_any v zs b w h hl hG)
  obtain ⟨a, cap, rfl, -⟩ := h
  unfold patOr at hr
  unfold orF0
  obtain ⟨n, hn⟩ : ∃ n, n = zs.length := ⟨_, rfl⟩
  rw [← hn] at hr hl HM ⊢
  clear hn hG
  by_cases h0 : n = 0
  · subst h0
    obtain rfl : r = true := by rw [← hr]; rfl
    clear hr HM
    rw [if_pos rfl]
    go_enter Tryd.func97, Tryd.ntmps97
    go_wp2_with fail
    go_ret2
    exact ⟨⟨_, rfl, fun _ => ⟨_, _, rfl, entNone, fun w' hb c _ _ => saysNone c w'⟩⟩, Below.refl _ _⟩
  · have hz : ((n : Int) == 0) = false := by simpa using h0
    have hr2 : isPat zs = r := by rw [← hr]; simp [h0]
    rw [hr2] at HM
    rw [if_neg h0]
    clear hr hr2
    go_enter Tryd.func97, Tryd.ntmps97
    go_wp2_with fail
    refine HM.out.mono ?_
    rintro e w1 ⟨⟨f, rfl, hm⟩, B1⟩
    go_wp2_with fail
    go_ret2
    exact ⟨⟨f, rfl, hm⟩, B1⟩
set_option maxRecDepth 100000 in
set_option maxHeartbeats 4000000 in
theorem hasNums_any (v : Value) (D : MRules) (w : World) (h : RdRules w v D) (r : Bool) (hr : numsB D = r) :
    Calls Tryd.prog 98 #[v] w fun e w' => e = .returned (.bool r) ∧ Below w.heap.size w w' := by
  obtain ⟨pl, ea, ss, sr, wi, sk, ta, li⟩ := D
  obtain ⟨v4, v5, b4, b5, rfl, h4, h5, -, -, -, -⟩ := h
  dsimp only at *
  have HI := Lib.hid (fun n lo hi wx => inR_any n lo hi wx (inB n lo hi) rfl)
  obtain ⟨p4, c4, e4, -⟩ := id h4
  obtain ⟨p5, c5, e5, -⟩ := id h5
  subst e4 e5
  have B0 := fun o => (Below.refl w.heap.size w).alloc (Nat.le_refl _) o
  unfold numsB at hr
  dsimp only at hr
  obtain ⟨q0, hq0⟩ : ∃ q, q = inB pl 2 6 := ⟨_, rfl⟩
  obtain ⟨q1, hq1⟩ : ∃ q, q = inB ea 1 8 := ⟨_, rfl⟩
  obtain ⟨q4, hq4⟩ : ∃ q, q = inB ta 1 4 := ⟨_, rfl⟩
  obtain ⟨q5, hq5⟩ : ∃ q, q = inB li 1 400 := ⟨_, rfl⟩
  have H0 := Lib.hid (fun wx => HI.out pl 2 6 wx)
  have H1 := Lib.hid (fun wx => HI.out ea 1 8 wx)
  have H4 := Lib.hid (fun wx => HI.out ta 1 4 wx)
  have H5 := Lib.hid (fun wx => HI.out li 1 400 wx)
  rw [← hq0] at hr H0
  rw [← hq1] at hr H1
  rw [← hq4] at hr H4
  rw [← hq5] at hr H5
  have HR := Lib.hid hr
  clear hr hq0 hq1 hq4 hq5 h4 h5 HI
  go_enter Tryd.func98, Tryd.ntmps98
  go_wp2_with fail
  refine (H0.out _).mono ?_
  rintro e _w ⟨rfl, rfl⟩
  cases q0 with
  | false =>
    obtain rfl : false = r := HR.out
    go_wp2_with fail
    go_ret
    exact ⟨rfl, B0 _⟩
  | true =>
    go_wp2_with fail
    refine (H1.out _).mono ?_
    rintro e _w ⟨rfl, rfl⟩
    cases q1 with
    | false =>
      obtain rfl : false = r := HR.out
      go_wp2_with fail
      go_ret
      exact ⟨rfl, B0 _⟩
    | true =>
      go_wp2_with fail
      refine (H4.out _).mono ?_
      rintro e _w ⟨rfl, rfl⟩
      cases q4 with
      | false =>
        obtain rfl : false = r := HR.out
        go_wp2_with fail
        go_ret
        exact ⟨rfl, B0 _⟩
      | true =>
        go_wp2_with fail
        refine (H5.out _).mono ?_
        rintro e _w ⟨rfl, rfl⟩
        cases q5 with
        | false =>
          obtain rfl : false = r := HR.out
          go_wp2_with fail
          go_ret
          exact ⟨rfl, B0 _⟩
        | true =>
          obtain rfl : true = r := HR.out
          go_wp2_with fail
          go_ret
          exact ⟨rfl, B0 _⟩

end Go.Proofs.YtmfammgdcdlceaaDoor
