/-
  Several texts in one: IsRules, both sides, and the rules made ready. Games: what the numbers of a game must be. No program in this text. copyInts by contract. Contracts of the library, of the kit, at this dump: slices_Sort_int, slices_Sort_int_none, slices_Max_int, slices_Index_int. Sorted, the program's, by the library's contract. A whole struct stored into its box: the cells one by one. Rules made ready, the program's side. Missing (the model's), FullDeck (both sides).
-/
import Derived.Test.YtmhbonbjnpcpeaaGreatDoorM6
import Derived.Test.YtmhbonbjnpcpeaaGreatDoorM4
import Derived.Test.YtmhbonbjnpcpeaaGreatDoorM5
import Derived.Shelf.Small.Bits
import Derived.Shelf.Small.Wraps
import Derived.Shelf.Strconv.Itoa0
import Derived.Shelf.Sort.Plain
import Derived.Shelf.Slices.Turned
import Derived.Ground.Names2Prog
import Derived.Shelf.Slices.SearchI
import Derived.Shelf.Slices.In.SortNone
import Derived.Test.YtmhbonbjnpcpeaaGreatDoorProg
import Derived.Sort.OwnSortedInts
import Derived.Lib.OwnBridge
import Derived.Laws.Rows
namespace Go.Proofs.YtmhbonbjnpcpeaaGreatDoor
open Go.RowKit
set_option linter.unusedVariables false
set_option linter.unusedSimpArgs false

def patOr (p : List Int) : Bool := decide (p.length = 0) || isPat p
/-- The cards that a pattern or the empty list means. -/
def orF0 (p : List Int) : Int → Bool := if p.length = 0 then fun _ => false else patF p
def inB (n lo hi : Int) : Bool := decide (lo ≤ n ∧ n ≤ hi)
def numsB (D : MRules) : Bool := inB D.players 2 6 && (inB D.each 1 8 && (inB D.take 1 4 && inB D.limit 1 400))
def rulesB (D : MRules) : Bool := inB D.players 2 6 && (inB D.each 1 8 && ((D.sameSuit || D.sameRank) && (patOr D.wild && (patOr D.skip && (inB D.take 1 4 && inB D.limit 1 400)))))
theorem rulesB_eq (D : MRules) : rulesB D = (patOr D.wild && (patOr D.skip && (numsB D && (D.sameSuit || D.sameRank)))) := by
  unfold rulesB numsB
  cases inB D.players 2 6 <;> cases inB D.each 1 8 <;> cases D.sameSuit <;> cases D.sameRank <;> cases patOr D.wild <;> cases patOr D.skip <;> cases inB D.take 1 4 <;> cases inB D.limit 1 400 <;> rfl

set_option maxRecDepth 100000 in
theorem sPatOr_any (v : Value) (zs : List Int) (b : Nat) (w : World) (h : RdAt .i64 w v zs b) (hl : zs.length ≤ 1099511627776) (r : Bool) (hr : patOr zs = r) :
    Calls Tryz.prog 52 #[v] w fun e w' => e = .returned (.bool r) ∧ w = w' := by
  have HP := Lib.hid (sIsPattern_any v zs b w h hl _ rfl)
  obtain ⟨a, cap, rfl, -⟩ := h
  unfold patOr at hr
  obtain ⟨n, hn⟩ : ∃ n, n = zs.length := ⟨_, rfl⟩
  rw [← hn] at hr hl HP ⊢
  clear hn
  by_cases h0 : n = 0
  · subst h0
    obtain rfl : r = true := by rw [← hr]; rfl
    clear hr
    go_enter Tryz.func52, Tryz.ntmps52
    go_wp2_with fail
    go_ret
    exact ⟨rfl, rfl⟩
  · have hz : ((n : Int) == 0) = false := by simpa using h0
    have hr2 : isPat zs = r := by rw [← hr]; simp [h0]
    rw [hr2] at HP
    clear hr hr2
    go_enter Tryz.func52, Tryz.ntmps52
    go_wp2_with fail
    refine HP.out.mono ?_
    rintro e _w ⟨rfl, rfl⟩
    go_wp2_with fail
    go_ret
    exact ⟨rfl, rfl⟩

set_option maxRecDepth 100000 in
set_option maxHeartbeats 4000000 in
theorem sIsRules_any (v : Value) (D : MRules) (w : World) (h : RdRules w v D) (hf : D.Few) (r : Bool) (hr : rulesB D = r) :
    Calls Tryz.prog 35 #[v] w fun e w' => e = .returned (.bool r) ∧ Below w.heap.size w w' := by
  obtain ⟨pl, ea, ss, sr, wi, sk, ta, li⟩ := D
  obtain ⟨v4, v5, b4, b5, rfl, h4, h5, -, -, -, -⟩ := h
  obtain ⟨f4, f5⟩ := hf
  dsimp only at *
  have HI := Lib.hid (fun n lo hi wx => inM_any n lo hi wx (inB n lo hi) rfl)
  have HW := Lib.hid (fun wx (hb : Below w.heap.size w wx) => sPatOr_any _ wi _ wx (h4.below hb) (by omega) _ rfl)
  have HK := Lib.hid (fun wx (hb : Below w.heap.size w wx) => sPatOr_any _ sk _ wx (h5.below hb) (by omega) _ rfl)
  obtain ⟨p4, c4, e4, -⟩ := id h4
  obtain ⟨p5, c5, e5, -⟩ := id h5
  subst e4 e5
  have B0 := fun o => (Below.refl w.heap.size w).alloc (Nat.le_refl _) o
  unfold rulesB at hr
  dsimp only at hr
  obtain ⟨q0, hq0⟩ : ∃ q, q = inB pl 2 6 := ⟨_, rfl⟩
  obtain ⟨q1, hq1⟩ : ∃ q, q = inB ea 1 8 := ⟨_, rfl⟩
  obtain ⟨q2, hq2⟩ : ∃ q, q = patOr wi := ⟨_, rfl⟩
  obtain ⟨q3, hq3⟩ : ∃ q, q = patOr sk := ⟨_, rfl⟩
  obtain ⟨q4, hq4⟩ : ∃ q, q = inB ta 1 4 := ⟨_, rfl⟩
  obtain ⟨q5, hq5⟩ : ∃ q, q = inB li 1 400 := ⟨_, rfl⟩
  have H0 := Lib.hid (fun wx => HI.out pl 2 6 wx)
  have H1 := Lib.hid (fun wx => HI.out ea 1 8 wx)
  have H4 := Lib.hid (fun wx => HI.out ta 1 4 wx)
  have H5 := Lib.hid (fun wx => HI.out li 1 400 wx)
  rw [← hq0] at hr H0
  rw [← hq1] at hr H1
  rw [← hq2] at hr HW
  rw [← hq3] at hr HK
  rw [← hq4] at hr H4
  rw [← hq5] at hr H5
  have HR := Lib.hid hr
  clear hr hq0 hq1 hq2 hq3 hq4 hq5 h4 h5 f4 f5 HI
  go_enter Tryz.func35, Tryz.ntmps35
  go_wp2_with fail
  refine (H0.out _).mono ?_
  rintro e _w ⟨rfl, rfl⟩
  cases q0 with
  | false =>
    obtain rfl : false = r := HR.out
    go_wp2_with fail
    go_ret
    exact ⟨rfl, B0 _⟩
  | true =>
    go_wp2_with fail
    refine (H1.out _).mono ?_
    rintro e _w ⟨rfl, rfl⟩
    cases q1 with
    | false =>
      obtain rfl : false = r := HR.out
      go_wp2_with fail
      go_ret
      exact ⟨rfl, B0 _⟩
    | true =>
      cases ss with
      | true =>
        go_wp2_with fail
        refine (HW.out _ (B0 _)).mono ?_
        rintro e _w ⟨rfl, rfl⟩
        cases q2 with
        | false =>
          obtain rfl : false = r := HR.out
          go_wp2_with fail
          go_ret
          exact ⟨rfl, B0 _⟩
        | true =>
          go_wp2_with fail
          refine (HK.out _ (B0 _)).mono ?_
          rintro e _w ⟨rfl, rfl⟩
          cases q3 with
          | false =>
            obtain rfl : false = r := HR.out
            go_wp2_with fail
            go_ret
            exact ⟨rfl, B0 _⟩
          | true =>
            go_wp2_with fail
            refine (H4.out _).mono ?_
            rintro e _w ⟨rfl, rfl⟩
            cases q4 with
            | false =>
              obtain rfl : false = r := HR.out
              go_wp2_with fail
              go_ret
              exact ⟨rfl, B0 _⟩
            | true =>
              go_wp2_with fail
              refine (H5.out _).mono ?_
              rintro e _w ⟨rfl, rfl⟩
              cases q5 with
              | false =>
                obtain rfl : false = r := HR.out
                go_wp2_with fail
                go_ret
                exact ⟨rfl, B0 _⟩
              | true =>
                obtain rfl : true = r := HR.out
                go_wp2_with fail
                go_ret
                exact ⟨rfl, B0 _⟩
      | false =>
        cases sr with
        | false =>
          obtain rfl : false = r := HR.out
          go_wp2_with fail
          go_ret
          exact ⟨rfl, B0 _⟩
        | true =>
          go_wp2_with fail
          refine (HW.out _ (B0 _)).mono ?_
          rintro e _w ⟨rfl, rfl⟩
          cases q2 with
          | false =>
            obtain rfl : false = r := HR.out
            go_wp2_with fail
            go_ret
            exact ⟨rfl, B0 _⟩
          | true =>
            go_wp2_with fail
            refine (HK.out _ (B0 _)).mono ?_
            rintro e _w ⟨rfl, rfl⟩
            cases q3 with
            | false =>
              obtain rfl : false = r := HR.out
              go_wp2_with fail
              go_ret
              exact ⟨rfl, B0 _⟩
            | true =>
              go_wp2_with fail
              refine (H4.out _).mono ?_
              rintro e _w ⟨rfl, rfl⟩
              cases q4 with
              | false =>
                obtain rfl : false = r := HR.out
                go_wp2_with fail
                go_ret
                exact ⟨rfl, B0 _⟩
              | true =>
                go_wp2_with fail
                refine (H5.out _).mono ?_
                rintro e _w ⟨rfl, rfl⟩
                cases q5 with
                | false =>
                  obtain rfl : false = r := HR.out
                  go_wp2_with fail
                  go_ret
                  exact ⟨rfl, B0 _⟩
                | true =>
                  obtain rfl : true = r := HR.out
                  go_wp2_with fail
                  go_ret
                  exact ⟨rfl, B0 _⟩

theorem entNone : Enters Tryz.prog 79 := enters_of Tryz.func79 (by kernel_rfl) rfl
theorem saysNone (c : Int) (w : World) :
    Calls Tryz.prog 79 #[.int .u8 c] w fun e w' => e = .returned (.bool false) ∧ Below w.heap.size w w' := by
  go_enter Tryz.func79, Tryz.ntmps79
  go_wp2
  go_ret
  exact ⟨rfl, Below.refl _ _⟩
set_option maxRecDepth 100000 in
theorem matcherOrNone_any (v : Value) (zs : List Int) (b : Nat) (w : World) (h : RdAt .i64 w v zs b) (hl : zs.length ≤ 1099511627776) (hG : Grps w) (r : Bool) (hr : patOr zs = r) :
    Calls Tryz.prog 71 #[v] w fun e w' => (∃ f, e = .returned (.tuple #[f, .bool r]) ∧ (r = true → Means w.heap.size w' f (orF0 zs))) ∧ Below w.heap.size w w' := by
  have HM := Lib.hid (matcherOf_any v zs b w h hl hG)
  obtain ⟨a, cap, rfl, -⟩ := h
  unfold patOr at hr
  unfold orF0
  obtain ⟨n, hn⟩ : ∃ n, n = zs.length := ⟨_, rfl⟩
  rw [← hn] at hr hl HM ⊢
  clear hn hG
  by_cases h0 : n = 0
  · subst h0
    obtain rfl : r = true := by rw [← hr]; rfl
    clear hr HM
    rw [if_pos rfl]
    go_enter Tryz.func71, Tryz.ntmps71
    go_wp2_with fail
    go_ret2
    exact ⟨⟨_, rfl, fun _ => ⟨_, _, rfl, entNone, fun w' hb c _ _ => saysNone c w'⟩⟩, Below.refl _ _⟩
  · have hz : ((n : Int) == 0) = false := by simpa using h0
    have hr2 : isPat zs = r := by rw [← hr]; simp [h0]
    rw [hr2] at HM
    rw [if_neg h0]
    clear hr hr2
    go_enter Tryz.func71, Tryz.ntmps71
    go_wp2_with fail
    refine HM.out.mono ?_
    rintro e w1 ⟨⟨f, rfl, hm⟩, B1⟩
    go_wp2_with fail
    go_ret2
    exact ⟨⟨f, rfl, hm⟩, B1⟩
set_option maxRecDepth 100000 in
set_option maxHeartbeats 4000000 in
theorem hasNums_any (v : Value) (D : MRules) (w : World) (h : RdRules w v D) (r : Bool) (hr : numsB D = r) :
    Calls Tryz.prog 72 #[v] w fun e w' => e = .returned (.bool r) ∧ Below w.heap.size w w' := by
  obtain ⟨pl, ea, ss, sr, wi, sk, ta, li⟩ := D
  obtain ⟨v4, v5, b4, b5, rfl, h4, h5, -, -, -, -⟩ := h
  dsimp only at *
  have HI := Lib.hid (fun n lo hi wx => inR_any n lo hi wx (inB n lo hi) rfl)
  obtain ⟨p4, c4, e4, -⟩ := id h4
  obtain ⟨p5, c5, e5, -⟩ := id h5
  subst e4 e5
  have B0 := fun o => (Below.refl w.heap.size w).alloc (Nat.le_refl _) o
  unfold numsB at hr
  dsimp only at hr
  obtain ⟨q0, hq0⟩ : ∃ q, q = inB pl 2 6 := ⟨_, rfl⟩
  obtain ⟨q1, hq1⟩ : ∃ q, q = inB ea 1 8 := ⟨_, rfl⟩
  obtain ⟨q4, hq4⟩ : ∃ q, q = inB ta 1 4 := ⟨_, rfl⟩
  obtain ⟨q5, hq5⟩ : ∃ q, q = inB li 1 400 := ⟨_, rfl⟩
  have H0 := Lib.hid (fun wx => HI.out pl 2 6 wx)
  have H1 := Lib.hid (fun wx => HI.out ea 1 8 wx)
  have H4 := Lib.hid (fun wx => HI.out ta 1 4 wx)
  have H5 := Lib.hid (fun wx => HI.out li 1 400 wx)
  rw [← hq0] at hr H0
  rw [← hq1] at hr H1
  rw [← hq4] at hr H4
  rw [← hq5] at hr H5
  have HR := Lib.hid hr
  clear hr hq0 hq1 hq4 hq5 h4 h5 HI
  go_enter Tryz.func72, Tryz.ntmps72
  go_wp2_with fail
  refine (H0.out _).mono ?_
  rintro e _w ⟨rfl, rfl⟩
  cases q0 with
  | false =>
    obtain rfl : false = r := HR.out
    go_wp2_with fail
    go_ret
    exact ⟨rfl, B0 _⟩
  | true =>
    go_wp2_with fail
    refine (H1.out _).mono ?_
    rintro e _w ⟨rfl, rfl⟩
    cases q1 with
    | false =>
      obtain rfl : false = r := HR.out
      go_wp2_with fail
      go_ret
      exact ⟨rfl, B0 _⟩
    | true =>
      go_wp2_with fail
      refine (H4.out _).mono ?_
      rintro e _w ⟨rfl, rfl⟩
      cases q4 with
      | false =>
        obtain rfl : false = r := HR.out
        go_wp2_with fail
        go_ret
        exact ⟨rfl, B0 _⟩
      | true =>
        go_wp2_with fail
        refine (H5.out _).mono ?_
        rintro e _w ⟨rfl, rfl⟩
        cases q5 with
        | false =>
          obtain rfl : false = r := HR.out
          go_wp2_with fail
          go_ret
          exact ⟨rfl, B0 _⟩
        | true =>
          obtain rfl : true = r := HR.out
          go_wp2_with fail
          go_ret
          exact ⟨rfl, B0 _⟩

end Go.Proofs.YtmhbonbjnpcpeaaGreatDoor
namespace Go.Proofs.YtmhbonbjnpcpeaaGreatDoor
open Go.RowKit
set_option linter.unusedVariables false
set_option linter.unusedSimpArgs false

theorem isHand_nodup (zs : List Int) : isHand zs = decide (zs.Nodup ∧ ∀ z ∈ zs, isCard z = true) := by
  unfold isHand
  by_cases h : ∀ j (h : j < zs.length), isCard zs[j] = true ∧ zs[j] ∉ zs.take j
  · rw [decide_eq_true h, eq_comm, decide_eq_true_eq]
    refine ⟨?_, fun z hz => ?_⟩
    · rw [List.nodup_iff_pairwise_ne, List.pairwise_iff_getElem]
      intro i j hi hj hij e
      refine (h j hj).2 ?_
      rw [← e]
      exact List.mem_take_iff_getElem.2 ⟨i, by omega, rfl⟩
    · obtain ⟨j, hj, rfl⟩ := List.getElem_of_mem hz
      exact (h j hj).1
  · rw [decide_eq_false h, eq_comm, decide_eq_false_iff_not]
    rintro ⟨hn, hc⟩
    refine h fun j hj => ⟨hc _ (List.getElem_mem hj), fun hm => ?_⟩
    obtain ⟨i, hi, e⟩ := List.mem_take_iff_getElem.1 hm
    rw [List.nodup_iff_pairwise_ne, List.pairwise_iff_getElem] at hn
    exact hn i j (by omega) hj (by omega) e
theorem isHand_perm {a b : List Int} (h : a.Perm b) : isHand a = isHand b := by
  rw [isHand_nodup, isHand_nodup]
  have h1 := h.nodup_iff
  have h2 : (∀ z ∈ a, isCard z = true) ↔ ∀ z ∈ b, isCard z = true := ⟨fun k z hz => k z (h.mem_iff.2 hz), fun k z hz => k z (h.mem_iff.1 hz)⟩
  by_cases e : b.Nodup ∧ ∀ z ∈ b, isCard z = true
  · rw [decide_eq_true e, decide_eq_true ⟨h1.2 e.1, h2.2 e.2⟩]
  · rw [decide_eq_false e, decide_eq_false (fun k => e ⟨h1.1 k.1, h2.1 k.2⟩)]
/-- Each card once. -/
def wholeB (zs : List Int) : Bool := ((zs.length : Int) == 52) && isHand zs
theorem wholeB_perm {a b : List Int} (h : a.Perm b) : wholeB a = wholeB b := by unfold wholeB; rw [h.length_eq, isHand_perm h]
/-- The cards of a game as the program gathers them, and as the model does. -/
def allG (D : MGame) : List Int := D.hands.flatten ++ (D.stock ++ D.heap)
def allS (D : MGame) : List Int := (D.stock ++ D.heap) ++ D.hands.flatten
theorem all_perm (D : MGame) : wholeB (allS D) = wholeB (allG D) := wholeB_perm List.perm_append_comm
def numsG (D : MGame) : Bool := ((D.hands.length : Int) == D.rules.players) && (!((D.heap.length : Int) == 0) && (inB D.turn 0 (D.rules.players - 1) && (inB D.moves 0 D.rules.limit && inB D.passes 0 D.moves)))
def gameB (D : MGame) : Bool := rulesB D.rules && (((D.hands.length : Int) == D.rules.players) && (!((D.heap.length : Int) == 0) && (inB D.turn 0 (D.rules.players - 1) && (inB D.moves 0 D.rules.limit && (inB D.passes 0 D.moves && wholeB (allG D))))))
/-- The first player without cards. -/
def firstOut (zss : List (List Int)) : Int := match (List.range zss.length).find? (fun j => (zss.getD j []).isEmpty) with
  | some j => (j : Int)
  | none => -1
theorem first_hit {zss : List (List Int)} {k : Nat} (hk : k < zss.length) (h : zss[k] = []) (hno : ∀ j (hj : j < zss.length), j < k → zss[j] ≠ []) : firstOut zss = (k : Int) := by
  have e : (List.range zss.length).find? (fun j => (zss.getD j []).isEmpty) = some k := by
    rw [List.find?_range_eq_some]
    refine ⟨by simpa [List.getD, hk] using h, by simpa using hk, fun j hj => ?_⟩
    have hj2 : j < zss.length := by omega
    simpa [List.getD, hj2] using hno j hj2 hj
  unfold firstOut; rw [e]
theorem first_miss {zss : List (List Int)} (hno : ∀ j (hj : j < zss.length), zss[j] ≠ []) : firstOut zss = -1 := by
  have e : (List.range zss.length).find? (fun j => (zss.getD j []).isEmpty) = none := by
    rw [List.find?_range_eq_none]
    intro j hj
    simpa [List.getD, hj] using hno j hj
  unfold firstOut; rw [e]
theorem first_ge (zss : List (List Int)) : -1 ≤ firstOut zss ∧ firstOut zss < 9223372036854775807 ∨ 9223372036854775807 ≤ zss.length := by
  by_cases h : 9223372036854775807 ≤ zss.length
  · exact .inr h
  · refine .inl ?_
    unfold firstOut
    split
    · rename_i j hj
      have := List.find?_range_eq_some.1 hj
      have : j < zss.length := by simpa using this.2.1
      omega
    · omega
def overB (D : MGame) : Bool := decide (0 ≤ firstOut D.hands) || ((D.moves == D.rules.limit) || decide (D.rules.players ≤ D.passes))
def winnerG (D : MGame) : Int := if gameB D then firstOut D.hands else -1
def endedB (D : MGame) : Bool := gameB D && overB D
def movesLeft (D : MGame) : Int := if gameB D && !overB D then D.rules.limit - D.moves else 0
def drawnB (D : MGame) : Bool := endedB D && (winnerG D == -1)

end Go.Proofs.YtmhbonbjnpcpeaaGreatDoor
namespace Go.Proofs.YtmhbonbjnpcpeaaGreatDoor
open Go.RowKit

set_option maxRecDepth 100000 in
set_option maxHeartbeats 1000000 in
theorem copyInts_own (v : Value) (zs : List Int) (b : Nat) (w : World) (h : RdAt .i64 w v zs b) (hl : zs.length ≤ 1099511627776) :
    Calls Tryz.prog 61 #[v] w fun e w' => ∃ v', e = .returned v' ∧ w'.ownsRow w.heap.size 3 1 v' zs.length (zs.map (Value.int .i64)) ∧ Below w.heap.size w w' := by
  obtain ⟨i0, hi, hz0, hz1, hz2⟩ := info_parts info_i64
  have hown0 := World.ownsRow_lit (base := w.heap.size) (e := 3) (size := 1) w #[] 0 (Nat.le_refl _) (Nat.zero_le _) rfl
  have ha : RdAt .i64 (w.alloc (.cells #[] 3)) v zs b := h.below ((Below.refl _ _).alloc (Nat.le_refl _) _)
  obtain ⟨p0, cap0, hv0, -⟩ := id h
  go_enter Tryz.func61, Tryz.ntmps61
  subst hv0
  go_wp2_with (at_builtin; refine wpList_append_rd _ rfl _ _ 22 rfl w.heap.size 3 i0 (.int .i64 0) 8 Tryz.underlying22 hi hz0 hz1 hz2 rfl _ _ _ rfl hown0 .i64 _ zs b rfl ha ?d3 ?d4 (by simp) ?_)
  case d3 => unfold maxLen; omega
  case d4 => omega
  intro v1 w1 hown hgr
  have hb1 : Below w.heap.size w w1 := ((Below.refl _ _).alloc (Nat.le_refl _) _).grown hgr (by simp) (own_block hown0)
  try simp only [Nat.zero_add, List.nil_append] at hown
  clear hgr ha hown0
  go_wp2_with fail
  go_ret
  exact ⟨_, rfl, hown, hb1⟩
end Go.Proofs.YtmhbonbjnpcpeaaGreatDoor
namespace Go.Proofs
open Go.Shelf
def Tryz.lays189_ren : Go.Shelf.Ren := ⟨fun | 189 => 62 | 125 => 77 | 257 => 76 | 128 => 91 | 129 => 92 | 294 => 82 | 295 => 83 | 296 => 84 | 297 => 85 | 298 => 86 | 299 => 87 | 216 => 88 | 300 => 89 | 301 => 90 | 328 => 111 | 329 => 112 | 330 => 113 | 331 => 114 | 332 => 115 | 215 => 116 | 343 => 120 | n => n, fun | 28 => 22 | 3 => 3 | 46 => 98 | 0 => 0 | 51 => 108 | 53 => 110 | 4 => 4 | 183 => 101 | 182 => 100 | 131 => 105 | 5 => 5 | 9 => 9 | 218 => 124 | 222 => 128 | 228 => 132 | 229 => 133 | n => n, fun | n => n⟩
theorem Tryz.lays189 : Go.Proofs.Lays.n189 Tryz.prog Tryz.lays189_ren := {
  mixed := by kernel_rfl
  f125 := Tryz.func77.trans (congrArg some (by kernel_rfl))
  f128 := Tryz.func91.trans (congrArg some (by kernel_rfl))
  f129 := Tryz.func92.trans (congrArg some (by kernel_rfl))
  f189 := Tryz.func62.trans (congrArg some (by kernel_rfl))
  f215 := Tryz.func116.trans (congrArg some (by kernel_rfl))
  f216 := Tryz.func88.trans (congrArg some (by kernel_rfl))
  f257 := Tryz.func76.trans (congrArg some (by kernel_rfl))
  f294 := Tryz.func82.trans (congrArg some (by kernel_rfl))
  f295 := Tryz.func83.trans (congrArg some (by kernel_rfl))
  f296 := Tryz.func84.trans (congrArg some (by kernel_rfl))
  f297 := Tryz.func85.trans (congrArg some (by kernel_rfl))
  f298 := Tryz.func86.trans (congrArg some (by kernel_rfl))
  f299 := Tryz.func87.trans (congrArg some (by kernel_rfl))
  f300 := Tryz.func89.trans (congrArg some (by kernel_rfl))
  f301 := Tryz.func90.trans (congrArg some (by kernel_rfl))
  f328 := Tryz.func111.trans (congrArg some (by kernel_rfl))
  f329 := Tryz.func112.trans (congrArg some (by kernel_rfl))
  f330 := Tryz.func113.trans (congrArg some (by kernel_rfl))
  f331 := Tryz.func114.trans (congrArg some (by kernel_rfl))
  f332 := Tryz.func115.trans (congrArg some (by kernel_rfl))
  f343 := Tryz.func120.trans (congrArg some (by kernel_rfl))
  t0 := Tryz.underlying0
  a0 := Tryz.isAgg0
  z0 := Tryz.sizeOf0
  v0 := Tryz.zeroValue0
  t3 := Tryz.underlying3
  a3 := Tryz.isAgg3
  z3 := Tryz.sizeOf3
  v3 := Tryz.zeroValue3
  t4 := Tryz.underlying4
  a4 := Tryz.isAgg4
  z4 := Tryz.sizeOf4
  v4 := Tryz.zeroValue4
  t5 := Tryz.underlying5
  a5 := Tryz.isAgg5
  z5 := Tryz.sizeOf5
  v5 := Tryz.zeroValue5
  t9 := Tryz.underlying9
  a9 := Tryz.isAgg9
  z9 := Tryz.sizeOf9
  v9 := Tryz.zeroValue9
  t28 := Tryz.underlying22
  a28 := Tryz.isAgg22
  z28 := Tryz.sizeOf22
  v28 := Tryz.zeroValue22
  t46 := Tryz.underlying98
  a46 := Tryz.isAgg98
  z46 := Tryz.sizeOf98
  v46 := Tryz.zeroValue98
  t51 := Tryz.underlying108
  a51 := Tryz.isAgg108
  z51 := Tryz.sizeOf108
  v51 := Tryz.zeroValue108
  t53 := Tryz.underlying110
  a53 := Tryz.isAgg110
  z53 := Tryz.sizeOf110
  v53 := Tryz.zeroValue110
  t131 := Tryz.underlying105
  a131 := Tryz.isAgg105
  z131 := Tryz.sizeOf105
  v131 := Tryz.zeroValue105
  t182 := Tryz.underlying100
  a182 := Tryz.isAgg100
  z182 := Tryz.sizeOf100
  v182 := Tryz.zeroValue100
  t183 := Tryz.underlying101
  a183 := Tryz.isAgg101
  z183 := Tryz.sizeOf101
  v183 := Tryz.zeroValue101
  t218 := Tryz.underlying124
  a218 := Tryz.isAgg124
  z218 := Tryz.sizeOf124
  v218 := Tryz.zeroValue124
  t222 := Tryz.underlying128
  a222 := Tryz.isAgg128
  z222 := Tryz.sizeOf128
  v222 := Tryz.zeroValue128
  t228 := Tryz.underlying132
  a228 := Tryz.isAgg132
  z228 := Tryz.sizeOf132
  v228 := Tryz.zeroValue132
  t229 := Tryz.underlying133
  a229 := Tryz.isAgg133
  z229 := Tryz.sizeOf133
  v229 := Tryz.zeroValue133 }
open Go.Sort Go.RowKit in
theorem Tryz.slices_Sort_int (blk off cap : Nat) (zs : List Int) (w : World) (hH : Holds (Value.int .i64) w blk off zs.toArray) (hblk : blk < w.heap.size) (hsz : zs.length < 4611686018427387904) :
    Calls Tryz.prog 62 #[.slice (some ⟨blk, off, none⟩) zs.length cap] w fun e w' =>
      e = .returned (.tuple #[]) ∧ ∃ n os, w' = grow (putRow (Value.int .i64) (Sort.ahead w n) blk off (zs.mergeSort fun x y => decide (x ≤ y)).toArray) os := Any.slices_Sort_int Tryz.lays189 blk off cap zs w hH hblk hsz
def Tryz.lays108_ren : Go.Shelf.Ren := ⟨fun | 108 => 67 | n => n, fun | 28 => 22 | 3 => 3 | 0 => 0 | 4 => 4 | n => n, fun | n => n⟩
theorem Tryz.lays108 : Go.Proofs.Lays.n108 Tryz.prog Tryz.lays108_ren := {
  mixed := by kernel_rfl
  f108 := Tryz.func67.trans (congrArg some (by kernel_rfl))
  t0 := Tryz.underlying0
  a0 := Tryz.isAgg0
  z0 := Tryz.sizeOf0
  v0 := Tryz.zeroValue0
  t3 := Tryz.underlying3
  a3 := Tryz.isAgg3
  z3 := Tryz.sizeOf3
  v3 := Tryz.zeroValue3
  t4 := Tryz.underlying4
  a4 := Tryz.isAgg4
  z4 := Tryz.sizeOf4
  v4 := Tryz.zeroValue4
  t28 := Tryz.underlying22
  a28 := Tryz.isAgg22
  z28 := Tryz.sizeOf22
  v28 := Tryz.zeroValue22 }
open Go.Lib in
theorem Tryz.slices_Index_int (b off n c : Nat) (zs : List Int) (x : Int) (w : World) (hz : n ≤ zs.length) (hbig : n ≤ 9223372036854775807) (hc : ∀ j, j < zs.length → w.cell? ⟨b, off + j, none⟩ = some (.int .i64 (zs.getD j 0))) :
    Calls Tryz.prog 67 #[.slice (some ⟨b, off, none⟩) n c, .int .i64 x] w fun e w' => e = .returned (.int .i64 (Lib.idxOf (zs.take n) x)) ∧ w' = w := Any.slices_Index_int Tryz.lays108 b off n c zs x w hz hbig hc
def Tryz.lays113_ren : Go.Shelf.Ren := ⟨fun | 113 => 68 | n => n, fun | 28 => 22 | 3 => 3 | 4 => 4 | 9 => 9 | 20 => 20 | 0 => 0 | n => n, fun | n => n⟩
theorem Tryz.lays113 : Go.Proofs.Lays.n113 Tryz.prog Tryz.lays113_ren := {
  mixed := by kernel_rfl
  f113 := Tryz.func68.trans (congrArg some (by kernel_rfl))
  t0 := Tryz.underlying0
  a0 := Tryz.isAgg0
  z0 := Tryz.sizeOf0
  v0 := Tryz.zeroValue0
  t3 := Tryz.underlying3
  a3 := Tryz.isAgg3
  z3 := Tryz.sizeOf3
  v3 := Tryz.zeroValue3
  t4 := Tryz.underlying4
  a4 := Tryz.isAgg4
  z4 := Tryz.sizeOf4
  v4 := Tryz.zeroValue4
  t9 := Tryz.underlying9
  a9 := Tryz.isAgg9
  z9 := Tryz.sizeOf9
  v9 := Tryz.zeroValue9
  t20 := Tryz.underlying20
  a20 := Tryz.isAgg20
  z20 := Tryz.sizeOf20
  v20 := Tryz.zeroValue20
  t28 := Tryz.underlying22
  a28 := Tryz.isAgg22
  z28 := Tryz.sizeOf22
  v28 := Tryz.zeroValue22 }
open Go.Lib in
theorem Tryz.slices_Max_int (b off n c : Nat) (zs : List Int) (w : World) (hn : 0 < n) (hz : n ≤ zs.length) (hbig : n ≤ 9223372036854775807) (hc : ∀ j, j < zs.length → w.cell? ⟨b, off + j, none⟩ = some (.int .i64 (zs.getD j 0))) :
    Calls Tryz.prog 68 #[.slice (some ⟨b, off, none⟩) n c] w fun e w' => e = .returned (.int .i64 (Lib.maxOf (zs.take n))) ∧ w' = w := Any.slices_Max_int Tryz.lays113 b off n c zs w hn hz hbig hc
open Go.RowKit Go.Sort in
theorem Tryz.slices_Sort_int_none (p : Option Addr) (cap : Nat) (w : World) :
    Calls Tryz.prog 62 #[.slice p 0 cap] w fun e w' => e = .returned (.tuple #[]) ∧ w' = w := Any.slices_Sort_int_none Tryz.lays189 p cap w
end Go.Proofs
namespace Go.Proofs.YtmhbonbjnpcpeaaGreatDoor
open Go.RowKit Go.Sort

def sortI (zs : List Int) : List Int := zs.mergeSort fun x y => decide (x ≤ y)
theorem sortI_len (zs : List Int) : (sortI zs).length = zs.length := List.length_mergeSort zs
theorem sortI_perm (zs : List Int) : (sortI zs).Perm zs := List.mergeSort_perm zs _
theorem sortI_wf {k : IntKind} (zs : List Int) (h : ∀ x ∈ zs, (Lit.int k x).wf = true) : ∀ x ∈ sortI zs, (Lit.int k x).wf = true := fun x hx => h x ((sortI_perm zs).mem_iff.1 hx)
theorem sortI_sorted (zs : List Int) : (sortI zs).Pairwise (fun a b => a ≤ b) := by
  have := List.pairwise_mergeSort (le := fun x y : Int => decide (x ≤ y)) (fun _ _ _ h1 h2 => by simp at *; omega) (fun _ _ => by simp; omega) zs
  exact this.imp (fun h => by simpa using h)
theorem sortI_unique {zs S : List Int} (hp : S.Perm zs) (hs : S.Pairwise (fun a b => a ≤ b)) : S = sortI zs :=
  List.Perm.eq_of_pairwise (fun _ _ _ _ h1 h2 => Int.le_antisymm h1 h2) hs (sortI_sorted zs) (hp.trans (sortI_perm zs).symm)

theorem sort_own (B : Nat) (v : Value) (zs : List Int) (w : World) (hown : w.ownsRow B 3 1 v zs.length (zs.map (Value.int .i64))) (hB : B ≤ w.heap.size) (hl : zs.length ≤ 1099511627776) :
    Calls Tryz.prog 62 #[v] w fun e w' => e = .returned (.tuple #[]) ∧ w'.ownsRow B 3 1 v zs.length ((sortI zs).map (Value.int .i64)) ∧ Below B w w' := by
  by_cases hnn : v = .slice none 0 0
  · subst hnn
    have h0 : zs.length = 0 := by
      rcases hown.2 with ⟨_, h0⟩ | ⟨g, cap, cur, hv, _⟩
      · exact h0
      · cases hv
    have hz : zs = [] := List.length_eq_zero_iff.1 h0
    subst hz
    refine (Tryz.slices_Sort_int_none none 0 w).mono ?_
    rintro e w' ⟨rfl, rfl⟩
    exact ⟨rfl, by have e : sortI [] = [] := by simp [sortI]
                   rw [e]; exact hown, Below.refl _ _⟩
  · obtain ⟨g0, cap0, hv, hbg, hgl, hncap, hcm, hlen, hH⟩ := Lib.holds_of_ownsRow hown hnn
    rcases hown.2 with ⟨h0, _⟩ | ⟨g', cap', cur, hv', hbase, hb, h1, h2, h3, h4⟩
    · exact absurd h0 hnn
    subst hv
    simp only [Value.slice.injEq, Option.some.injEq, Addr.mk.injEq, and_true, true_and] at hv'
    obtain ⟨rfl, rfl⟩ := hv'
    refine (Tryz.slices_Sort_int g0 0 cap0 zs w hH hgl (by omega)).mono ?_
    rintro e w' ⟨rfl, nn, os, rfl⟩
    exact ⟨rfl, ownsRow_sortedI (n := nn) (os := os) (ts := sortI zs) (sortI_len zs) hbase hb h1 h2 h3, (Below.refl _ _).grown (grownBy_sortedI _) hB (fun j hj => by cases hj; exact hbase)⟩
set_option maxRecDepth 100000 in
theorem sorted_own (v : Value) (zs : List Int) (b : Nat) (w : World) (h : RdAt .i64 w v zs b) (hl : zs.length ≤ 1099511627776) :
    Calls Tryz.prog 47 #[v] w fun e w' => ∃ v', e = .returned v' ∧ w'.ownsRow w.heap.size 3 1 v' (sortI zs).length ((sortI zs).map (Value.int .i64)) ∧ Below w.heap.size w w' := by
  have HL := Lib.hid (sortI_len zs)
  go_enter Tryz.func47, Tryz.ntmps47
  go_wp2_with fail
  refine (copyInts_own v zs b w h hl).mono ?_
  rintro e w1 ⟨v1, rfl, hown, hb1⟩
  go_wp2_with fail
  refine (sort_own w.heap.size v1 zs w1 hown hb1.size hl).mono ?_
  rintro e w2 ⟨rfl, hown2, hb2⟩
  have hb3 := hb1.trans hb2
  clear hown hb1 hb2
  go_wp2_with fail
  go_ret
  exact ⟨_, rfl, by rw [HL.out]; exact hown2, hb3⟩
theorem sorted_any (v : Value) (zs : List Int) (b : Nat) (w : World) (h : RdAt .i64 w v zs b) (hl : zs.length ≤ 1099511627776) :
    Calls Tryz.prog 47 #[v] w fun e w' => ∃ v' b', e = .returned v' ∧ w.heap.size ≤ b' ∧ WrAt .i64 w' v' (sortI zs) b' ∧ Below w.heap.size w w' := by
  refine (sorted_own v zs b w h hl).mono ?_
  rintro e w' ⟨v', rfl, hown, hb⟩
  obtain ⟨b', hb', hw'⟩ := own_wr hown (sortI_wf zs h.wf)
  exact ⟨v', b', rfl, hb', hw', hb⟩
end Go.Proofs.YtmhbonbjnpcpeaaGreatDoor
namespace Go.Proofs.YtmhbonbjnpcpeaaGreatDoor
open Go.RowKit

/-- The world behind the stores of the values, one cell after the other. -/
def setAll (w : World) (g : Nat) (i : Nat) : List Value → World
  | [] => w
  | v :: vs => setAll (w.setCell ⟨g, i, none⟩ v) g (i + 1) vs
theorem setAll_size (g : Nat) (vs : List Value) : ∀ (w : World) (i : Nat), (setAll w g i vs).heap.size = w.heap.size := by
  induction vs with
  | nil => intro w i; rfl
  | cons v vs ih => intro w i; show (setAll _ g (i + 1) vs).heap.size = _; rw [ih]; simp [World.setCell]
theorem setAll_other (g : Nat) (vs : List Value) (k : Nat) (hk : k ≠ g) : ∀ (w : World) (i : Nat), (setAll w g i vs).heap[k]? = w.heap[k]? := by
  induction vs with
  | nil => intro w i; rfl
  | cons v vs ih => intro w i; show (setAll _ g (i + 1) vs).heap[k]? = _; rw [ih, Below.heap_setCell _ _ _ _ hk]
theorem setAll_below {B g : Nat} {w0 : World} (hg : B ≤ g) (vs : List Value) : ∀ (w : World) (i : Nat), Below B w0 w → Below B w0 (setAll w g i vs) := by
  induction vs with
  | nil => intro w i h; exact h
  | cons v vs ih => intro w i h; exact ih _ _ (h.setCell hg v)
theorem setAll_heap (g : Nat) (vs : List Value) : ∀ (w : World) (i : Nat) (cs : List Value) (t : TypeId) (fr : Nat × Nat), w.heap[g]? = some (.cells ⟨cs⟩ t fr) → i + vs.length = cs.length → (setAll w g i vs).heap[g]? = some (.cells ⟨cs.take i ++ vs⟩ t fr) := by
  induction vs with
  | nil => intro w i cs t fr h hl; simp at hl; subst hl; simpa [setAll] using h
  | cons v vs ih =>
    intro w i cs t fr h hl
    simp at hl
    have h2 : (w.setCell ⟨g, i, none⟩ v).heap[g]? = some (.cells ⟨cs.set i v⟩ t fr) := by simp [World.setCell, Array.getElem?_modify, h]
    have := ih _ (i + 1) (cs.set i v) t fr h2 (by simp; omega)
    show (setAll _ g (i + 1) vs).heap[g]? = _
    rw [this]
    have hi : i < cs.length := by omega
    rw [List.take_succ_eq_append_getElem (by simpa using hi)]
    simp [List.take_set_of_le]
theorem setAll_full {w : World} {g : Nat} {c : Array Value} {t : TypeId} {fr : Nat × Nat} (h : w.heap[g]? = some (.cells c t fr)) (vs : List Value) (hl : vs.length = c.size) : (setAll w g 0 vs).heap[g]? = some (.cells ⟨vs⟩ t fr) := by
  obtain ⟨cs⟩ := c
  have := setAll_heap g vs w 0 cs t fr h (by simpa using hl)
  simpa using this
theorem results_row_tmp {P : Program} {fn : Func} {p u : Tmp} {ty : TypeId} (h : fn.results = #[.cell p ty, .tmp u]) (tmps : Array Value) (w : World) (g : Nat) (t : TypeId) (cs : Array Value) (fr : Nat × Nat) (d : TypeDesc)
    (hp : tmps.getD p undef = .pointer (some ⟨g, 0, none⟩)) (hg : w.heap[g]? = some (.cells cs t fr))
    (hu : P.underlying ty = some d) (hd : (match d with | .struct _ | .array _ _ => true | _ => false) = true) (hi : (P.info? ty).map (·.size) = some cs.size) :
    (results fn tmps).run P w = .ok (.tuple #[.agg cs, tmps.getD u undef]) w := by
  have hp' : tmps[p]?.getD undef = .pointer (some ⟨g, 0, none⟩) := by simpa using hp
  simp [results, h, hp', asAddr, run_loadVar_row w g t ty cs fr d hg hu hd hi]
theorem two_boxesR {w w1 : World} {o1 o2 : Obj} (bb : Below ((w.alloc o1).alloc o2).heap.size ((w.alloc o1).alloc o2) w1) : Below w.heap.size w w1 ∧ w1.heap[w.heap.size]? = some o1 ∧ w1.heap[w.heap.size + 1]? = some o2 := by
  refine ⟨(((Below.refl w.heap.size w).alloc (Nat.le_refl _) o1).alloc (by simp) o2).trans (bb.mono (by simp; omega)), (bb.block _ (by simp; omega)).trans ?_, (bb.block _ (by simp)).trans ?_⟩
  · show ((w.heap.push o1).push o2)[w.heap.size]? = _
    rw [Array.getElem?_push, if_neg (by simp)]; simp
  · show ((w.heap.push o1).push o2)[w.heap.size + 1]? = _
    rw [Array.getElem?_push, if_pos (by simp)]
theorem one_boxR {w w1 : World} {o1 : Obj} (bb : Below (w.alloc o1).heap.size (w.alloc o1) w1) : Below w.heap.size w w1 ∧ w1.heap[w.heap.size]? = some o1 := by
  refine ⟨((Below.refl w.heap.size w).alloc (Nat.le_refl _) o1).trans (bb.mono (by simp)), (bb.block _ (by simp)).trans ?_⟩
  show (w.heap.push o1)[w.heap.size]? = _
  rw [Array.getElem?_push, if_pos (by simp)]

end Go.Proofs.YtmhbonbjnpcpeaaGreatDoor
namespace Go.Proofs.YtmhbonbjnpcpeaaGreatDoor
open Go.RowKit
set_option linter.unusedVariables false
set_option linter.unusedSimpArgs false

/-- The value of the rules made ready. -/
def readyV (D : MRules) (v4 v5 f g : Value) : Bool → Value
  | true => .agg #[.int .i64 D.players, .int .i64 D.each, .bool D.sameSuit, .bool D.sameRank, v4, v5, .int .i64 D.take, .int .i64 D.limit, f, g]
  | false => .agg #[.int .i64 0, .int .i64 0, .bool false, .bool false, .slice none 0 0, .slice none 0 0, .int .i64 0, .int .i64 0, .nilFunc, .nilFunc]
def ReadyAt (L : Nat) (w : World) (D : MRules) (v4 v5 f g : Value) : Prop := (∃ b4, RdAt .i64 w v4 D.wild b4) ∧ (∃ b5, RdAt .i64 w v5 D.skip b5) ∧ Means L w f (orF0 D.wild) ∧ Means L w g (orF0 D.skip)
set_option maxRecDepth 100000 in
set_option maxHeartbeats 4000000 in
theorem readyFrom_own (v : Value) (D : MRules) (w : World) (h : RdRules w v D) (hf : D.Few) (hG : Grps w) (r : Bool) (hr : rulesB D = r) :
    Calls Tryz.prog 56 #[v] w fun e w' => (∃ v4 v5 f g, e = .returned (.tuple #[readyV D v4 v5 f g r, .bool r]) ∧ Hid (v = .agg #[.int .i64 D.players, .int .i64 D.each, .bool D.sameSuit, .bool D.sameRank, v4, v5, .int .i64 D.take, .int .i64 D.limit]) ∧ (r = true → ReadyAt w.heap.size w' D v4 v5 f g)) ∧ Below w.heap.size w w' := by
  rw [rulesB_eq] at hr
  have HN := Lib.hid (fun vx wx (hx : RdRules wx vx D) => hasNums_any vx D wx hx _ rfl)
  obtain ⟨pl, ea, ss, sr, wi, sk, ta, li⟩ := D
  have Hh := Lib.hid h
  obtain ⟨v4, v5, b4, b5, rfl, h4, h5, wf0, wf1, wf6, wf7⟩ := h
  obtain ⟨f4, f5⟩ := hf
  unfold ReadyAt
  dsimp only at *
  have HW := Lib.hid (fun wx (hb : Below w.heap.size w wx) => matcherOrNone_any _ wi _ wx (h4.below hb) (by omega) (hG.below hb) _ rfl)
  have HK := Lib.hid (fun wx (hb : Below w.heap.size w wx) => matcherOrNone_any _ sk _ wx (h5.below hb) (by omega) (hG.below hb) _ rfl)
  have H45 := Lib.hid (fun wx (hb : Below w.heap.size w wx) => And.intro (h4.below hb) (h5.below hb))
  have HD := Lib.hid (fun wx (hb : Below w.heap.size w wx) => Hh.out.below hb)
  obtain ⟨p4, c4, e4, -⟩ := id h4
  obtain ⟨p5, c5, e5, -⟩ := id h5
  subst e4 e5
  have B0 : ∀ o1 o2, Below w.heap.size w ((w.alloc o1).alloc o2) := fun o1 o2 => ((Below.refl w.heap.size w).alloc (Nat.le_refl _) o1).alloc (by simp) o2
  obtain ⟨q2, hq2⟩ : ∃ q, q = patOr wi := ⟨_, rfl⟩
  obtain ⟨q3, hq3⟩ : ∃ q, q = patOr sk := ⟨_, rfl⟩
  obtain ⟨q4, hq4⟩ : ∃ q, q = numsB ⟨pl, ea, ss, sr, wi, sk, ta, li⟩ := ⟨_, rfl⟩
  rw [← hq2] at hr HW
  rw [← hq3] at hr HK
  rw [← hq4] at hr HN
  have HR := Lib.hid hr
  clear hr hq2 hq3 hq4 h4 h5 f4 f5 hG Hh
  have H2 := Lib.hid (fun w1 o1 o2 bb => two_boxesR (w := w) (w1 := w1) (o1 := o1) (o2 := o2) bb)
  go_enter Tryz.func56, Tryz.ntmps56
  go_wp2_with fail
  refine (HW.out _ (B0 _ _)).mono ?_
  rintro e w1 ⟨⟨f, rfl, hm⟩, B1⟩
  obtain ⟨Bw1, G1, G2⟩ := H2.out _ _ _ B1
  have hm0 : q2 = true → Means (w.heap.size + 2) w1 f (orF0 wi) := fun e => (hm e).weaken (by simp)
  have hz1 : w.heap.size + 2 ≤ w1.heap.size := by have := B1.size; simp at this; omega
  clear hm B1
  obtain ⟨k0, k1, k2, k3, k4, k5, k6, k7⟩ := SRules_cells G1
  go_wp2_with fail
  refine (HK.out _ Bw1).mono ?_
  rintro e w2 ⟨⟨g, rfl, hm'⟩, B2⟩
  have G1' := (B2.block _ (by omega)).trans G1
  have G2' := (B2.block _ (by omega)).trans G2
  have Bw2 := Bw1.trans (B2.mono Bw1.size)
  have hz2 : w.heap.size + 2 ≤ w2.heap.size := Nat.le_trans hz1 B2.size
  have hmw : q2 = true → Means (w.heap.size + 2) w2 f (orF0 wi) := fun e => (hm0 e).below B2
  have hmk : q3 = true → Means (w.heap.size + 2) w2 g (orF0 sk) := fun e => (hm' e).weaken hz1
  clear k0 k1 k2 k3 k4 k5 k6 k7 hm0 hm' B2 G1 G2
  obtain ⟨k0, k1, k2, k3, k4, k5, k6, k7⟩ := SRules_cells G1'
  have r0 := SRules_cell G2'
  have r1 := SRules_free G2'
  cases q2 with
  | false =>
    obtain rfl : false = r := HR.out
    have N := setAll_full G2' [.int .i64 0, .int .i64 0, .bool false, .bool false, .slice none 0 0, .slice none 0 0, .int .i64 0, .int .i64 0, .nilFunc, .nilFunc] rfl
    have NB := setAll_below (Nat.le_succ w.heap.size) [.int .i64 0, .int .i64 0, .bool false, .bool false, .slice none 0 0, .slice none 0 0, .int .i64 0, .int .i64 0, .nilFunc, .nilFunc] w2 0 Bw2
    have HN2 := Lib.hid (And.intro N NB)
    clear N NB
    go_wp2_with fail
    exact bodyPost_ret (results_row_tmp rfl _ _ (w.heap.size + 1) _ _ _ _ rfl HN2.out.1 Tryz.underlying61 rfl (by kernel_rfl)) rfl ⟨⟨_, _, .nilFunc, .nilFunc, rfl, Lib.hid rfl, fun h => by cases h⟩, HN2.out.2⟩
  | true =>
    cases q3 with
    | false =>
      obtain rfl : false = r := HR.out
      have N := setAll_full G2' [.int .i64 0, .int .i64 0, .bool false, .bool false, .slice none 0 0, .slice none 0 0, .int .i64 0, .int .i64 0, .nilFunc, .nilFunc] rfl
      have NB := setAll_below (Nat.le_succ w.heap.size) [.int .i64 0, .int .i64 0, .bool false, .bool false, .slice none 0 0, .slice none 0 0, .int .i64 0, .int .i64 0, .nilFunc, .nilFunc] w2 0 Bw2
      have HN2 := Lib.hid (And.intro N NB)
      clear N NB
      go_wp2_with fail
      exact bodyPost_ret (results_row_tmp rfl _ _ (w.heap.size + 1) _ _ _ _ rfl HN2.out.1 Tryz.underlying61 rfl (by kernel_rfl)) rfl ⟨⟨_, _, .nilFunc, .nilFunc, rfl, Lib.hid rfl, fun h => by cases h⟩, HN2.out.2⟩
    | true =>
      have HN1 := Lib.hid (HN.out _ w2 (HD.out w2 Bw2))
      go_wp2_with fail
      refine HN1.out.mono ?_
      rintro e w3 ⟨rfl, B3⟩
      have G3 := (B3.block _ (by omega)).trans G1'
      have G3b := (B3.block _ (by omega)).trans G2'
      have Bw3 := Bw2.trans (B3.mono Bw2.size)
      have hmw3 := (hmw (by trivial)).below B3
      have hmk3 := (hmk (by trivial)).below B3
      clear k0 k1 k2 k3 k4 k5 k6 k7 r0 r1 hmw hmk B3 G1' G2'
      obtain ⟨k0, k1, k2, k3, k4, k5, k6, k7⟩ := SRules_cells G3
      have r0 := SRules_cell G3b
      have r1 := SRules_free G3b
      cases q4 with
      | false =>
        obtain rfl : false = r := HR.out
        have N := setAll_full G3b [.int .i64 0, .int .i64 0, .bool false, .bool false, .slice none 0 0, .slice none 0 0, .int .i64 0, .int .i64 0, .nilFunc, .nilFunc] rfl
        have NB := setAll_below (Nat.le_succ w.heap.size) [.int .i64 0, .int .i64 0, .bool false, .bool false, .slice none 0 0, .slice none 0 0, .int .i64 0, .int .i64 0, .nilFunc, .nilFunc] w3 0 Bw3
        have HN2 := Lib.hid (And.intro N NB)
        clear N NB
        go_wp2_with fail
        exact bodyPost_ret (results_row_tmp rfl _ _ (w.heap.size + 1) _ _ _ _ rfl HN2.out.1 Tryz.underlying61 rfl (by kernel_rfl)) rfl ⟨⟨_, _, .nilFunc, .nilFunc, rfl, Lib.hid rfl, fun h => by cases h⟩, HN2.out.2⟩
      | true =>
        cases ss with
        | true =>
          obtain rfl : true = r := HR.out
          have N := setAll_full G3b [.int .i64 pl, .int .i64 ea, .bool true, .bool sr, .slice p4 wi.length c4, .slice p5 sk.length c5, .int .i64 ta, .int .i64 li, f, g] rfl
          have NB := setAll_below (Nat.le_succ w.heap.size) [.int .i64 pl, .int .i64 ea, .bool true, .bool sr, .slice p4 wi.length c4, .slice p5 sk.length c5, .int .i64 ta, .int .i64 li, f, g] w3 0 Bw3
          have H45' := H45.out _ NB
          have hK : Keeps (w.heap.size + 2) w3 (setAll w3 (w.heap.size + 1) 0 [.int .i64 pl, .int .i64 ea, .bool true, .bool sr, .slice p4 wi.length c4, .slice p5 sk.length c5, .int .i64 ta, .int .i64 li, f, g]) := ⟨by rw [setAll_size]; exact Nat.le_refl _, fun k h1 h2 => setAll_other _ _ k (by omega) _ _⟩
          have HMm := Lib.hid (And.intro ((hmw3.keep hK).weaken (Nat.le_add_right w.heap.size 2)) ((hmk3.keep hK).weaken (Nat.le_add_right w.heap.size 2)))
          have HN2 := Lib.hid (And.intro N (And.intro NB H45'))
          clear N NB H45' hK
          obtain ⟨nf, cf, ef, -⟩ := id hmw3
          obtain ⟨ng, cg, eg, -⟩ := id hmk3
          subst ef eg
          go_wp2_with fail
          exact bodyPost_ret (results_row_tmp rfl _ _ (w.heap.size + 1) _ _ _ _ rfl HN2.out.1 Tryz.underlying61 rfl (by kernel_rfl)) rfl ⟨⟨_, _, _, _, rfl, Lib.hid ⟨rfl, rfl⟩, ⟨_, HN2.out.2.2.1⟩, ⟨_, HN2.out.2.2.2⟩, HMm.out.1, HMm.out.2⟩, HN2.out.2.1⟩
        | false =>
          cases sr with
          | true =>
            obtain rfl : true = r := HR.out
            have N := setAll_full G3b [.int .i64 pl, .int .i64 ea, .bool false, .bool true, .slice p4 wi.length c4, .slice p5 sk.length c5, .int .i64 ta, .int .i64 li, f, g] rfl
            have NB := setAll_below (Nat.le_succ w.heap.size) [.int .i64 pl, .int .i64 ea, .bool false, .bool true, .slice p4 wi.length c4, .slice p5 sk.length c5, .int .i64 ta, .int .i64 li, f, g] w3 0 Bw3
            have H45' := H45.out _ NB
            have hK : Keeps (w.heap.size + 2) w3 (setAll w3 (w.heap.size + 1) 0 [.int .i64 pl, .int .i64 ea, .bool false, .bool true, .slice p4 wi.length c4, .slice p5 sk.length c5, .int .i64 ta, .int .i64 li, f, g]) := ⟨by rw [setAll_size]; exact Nat.le_refl _, fun k h1 h2 => setAll_other _ _ k (by omega) _ _⟩
            have HMm := Lib.hid (And.intro ((hmw3.keep hK).weaken (Nat.le_add_right w.heap.size 2)) ((hmk3.keep hK).weaken (Nat.le_add_right w.heap.size 2)))
            have HN2 := Lib.hid (And.intro N (And.intro NB H45'))
            clear N NB H45' hK
            obtain ⟨nf, cf, ef, -⟩ := id hmw3
            obtain ⟨ng, cg, eg, -⟩ := id hmk3
            subst ef eg
            go_wp2_with fail
            exact bodyPost_ret (results_row_tmp rfl _ _ (w.heap.size + 1) _ _ _ _ rfl HN2.out.1 Tryz.underlying61 rfl (by kernel_rfl)) rfl ⟨⟨_, _, _, _, rfl, Lib.hid ⟨rfl, rfl⟩, ⟨_, HN2.out.2.2.1⟩, ⟨_, HN2.out.2.2.2⟩, HMm.out.1, HMm.out.2⟩, HN2.out.2.1⟩
          | false =>
            obtain rfl : false = r := HR.out
            have N := setAll_full G3b [.int .i64 0, .int .i64 0, .bool false, .bool false, .slice none 0 0, .slice none 0 0, .int .i64 0, .int .i64 0, .nilFunc, .nilFunc] rfl
            have NB := setAll_below (Nat.le_succ w.heap.size) [.int .i64 0, .int .i64 0, .bool false, .bool false, .slice none 0 0, .slice none 0 0, .int .i64 0, .int .i64 0, .nilFunc, .nilFunc] w3 0 Bw3
            have HN2 := Lib.hid (And.intro N NB)
            clear N NB
            go_wp2_with fail
            exact bodyPost_ret (results_row_tmp rfl _ _ (w.heap.size + 1) _ _ _ _ rfl HN2.out.1 Tryz.underlying61 rfl (by kernel_rfl)) rfl ⟨⟨_, _, .nilFunc, .nilFunc, rfl, Lib.hid rfl, fun h => by cases h⟩, HN2.out.2⟩
theorem readyFrom_any (v : Value) (D : MRules) (w : World) (h : RdRules w v D) (hf : D.Few) (hG : Grps w) (r : Bool) (hr : rulesB D = r) :
    Calls Tryz.prog 56 #[v] w fun e w' => (∃ v4 v5 f g, e = .returned (.tuple #[readyV D v4 v5 f g r, .bool r]) ∧ (r = true → ReadyAt w.heap.size w' D v4 v5 f g)) ∧ Below w.heap.size w w' :=
  (readyFrom_own v D w h hf hG r hr).mono (by rintro e w' ⟨⟨v4, v5, f, g, h1, -, h2⟩, hb⟩; exact ⟨⟨v4, v5, f, g, h1, h2⟩, hb⟩)

end Go.Proofs.YtmhbonbjnpcpeaaGreatDoor
namespace Go.Proofs.YtmhbonbjnpcpeaaGreatDoor
open Go.RowKit

def missI (zs : List Int) (k : Nat) : List Int := ((List.range k).map fun (i : Nat) => (i : Int)).filter fun c => !hasI zs c
theorem miss_step (zs : List Int) (k : Nat) : missI zs (k + 1) = missI zs k ++ if hasI zs k then [] else [(k : Int)] := by
  unfold missI
  rw [List.range_succ, List.map_append, List.filter_append]
  congr 1
  cases h : hasI zs k <;> simp [h]
theorem miss_len (zs : List Int) (k : Nat) : (missI zs k).length ≤ k := by
  unfold missI
  refine Nat.le_trans (List.length_filter_le _ _) ?_
  simp
theorem miss_wf (zs : List Int) (k : Nat) (hk : k ≤ 52) : ∀ x ∈ missI zs k, (Lit.int .i64 x).wf = true := by
  intro x hx
  have := (List.mem_filter.1 hx).1
  simp only [List.mem_map, List.mem_range] at this
  obtain ⟨i, hi, rfl⟩ := this
  exact WalkArith.wf_i64 (by omega)

def deck : List Int := marksI 0 52
theorem miss_nil : missI [] 52 = deck := by decide +kernel
end Go.Proofs.YtmhbonbjnpcpeaaGreatDoor
