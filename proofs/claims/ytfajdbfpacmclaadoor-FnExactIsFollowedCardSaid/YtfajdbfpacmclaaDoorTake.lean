/-
  One call of a bidding, by contract: it is made, or the program panics.
-/
import Derived.Test.YtfajdbfpacmclaaDoorCallsEnd
import Derived.Deep.RegionWith
namespace Go.Proofs.YtfajdbfpacmclaaDoor
open Go.RowKit

/-- The sentinel of the bidding lies in its variable. -/
def Sent1 (s : Addr) (w : World) : Prop := w.cell? ⟨0, 0, none⟩ = some (.iface 94 (.pointer (some s))) ∧ 0 < w.heap.size
theorem Sent1.below {s : Addr} {w w' : World} (h : Sent1 s w) (hb : Below w.heap.size w w') : Sent1 s w' :=
  ⟨by rw [hb.cell (p := ⟨0, 0, none⟩) h.2]; exact h.1, Nat.lt_of_lt_of_le h.2 hb.size⟩
theorem Sent1.grown {s : Addr} {w w' : World} {k : Nat} (h : Sent1 s w) (hg : w.grownBy w' (some k)) (hk : k ≠ 0) : Sent1 s w' :=
  ⟨by rw [World.cell?_of_block (w := w) (a := ⟨0, 0, none⟩) (hg.block _ h.2 (fun e => hk (Option.some.inj e).symm))]; exact h.1, Nat.lt_of_lt_of_le h.2 hg.size⟩

/-- The state of a bidding, as its block holds it. -/
def Stt (w : World) (blk : Nat) (p c n h d : Int) : Prop := w.heap[blk]? = some (.cells #[.int .i64 p, .int .i64 c, .int .i64 n, .int .i64 h, .int .i64 d] 42 (0, 0))
theorem Stt.bid {w : World} {blk : Nat} {p c n h d : Int} (hs : Stt w blk p c n h d) : Bid w blk p c n := ⟨cell_blk hs 0, cell_blk hs 1, cell_blk hs 2⟩
theorem Stt.drew {w : World} {blk : Nat} {p c n h d : Int} (hs : Stt w blk p c n h d) (q : Nat) : Stt (w.drewN q) blk p c n h d := hs
theorem setAt {w : World} {b : Nat} {cs : Array Value} {t : TypeId} {fr : Nat × Nat} (h : w.heap[b]? = some (.cells cs t fr)) (i : Nat) (v : Value) : (w.setCell ⟨b, i, none⟩ v).heap[b]? = some (.cells (cs.setIfInBounds i v) t fr) := by
  simp [World.setCell, Array.getElem?_modify, h]
theorem grown_setc {w0 w : World} {b : Nat} (h : w0.grownBy w (some b)) (i : Nat) (v : Value) : w0.grownBy (w.setCell ⟨b, i, none⟩ v) (some b) := grown_store h ⟨b, i, none⟩ rfl v
theorem grown_refl1 (w : World) (r : Option Nat) : w.grownBy w r := ⟨rfl, rfl, rfl, Nat.le_refl _, fun _ _ _ => rfl⟩
theorem grown_drewN1 {w0 w : World} {r : Option Nat} (h : w0.grownBy w r) (n : Nat) : w0.grownBy (w.drewN n) r := ⟨h.os, h.tape, h.output, h.size, h.block⟩

theorem inRangeB_any (n lo hi : Int) (w : World) (r : Bool) (hr : r = decide (lo ≤ n ∧ n ≤ hi)) :
    Calls Tryd.prog 36 #[.int .i64 n, .int .i64 lo, .int .i64 hi] w fun e w' => e = .returned (.bool r) ∧ w = w' := by
  by_cases h0 : lo ≤ n
  · by_cases h1 : n ≤ hi
    · have e : r = true := by rw [hr]; simp; omega
      subst e; clear hr
      go_enter Tryd.func36, Tryd.ntmps36
      go_wp2
      go_ret
      exact ⟨rfl, rfl⟩
    · have e : r = false := by rw [hr]; simp; omega
      have hd : decide (n ≤ hi) = false := by simp; omega
      subst e; clear hr
      go_enter Tryd.func36, Tryd.ntmps36
      go_wp2
      go_ret
      exact ⟨rfl, rfl⟩
  · have e : r = false := by rw [hr]; simp; omega
    subst e; clear hr
    go_enter Tryd.func36, Tryd.ntmps36
    go_wp2
    go_ret
    exact ⟨rfl, rfl⟩


set_option maxRecDepth 100000 in
set_option maxHeartbeats 1000000 in
theorem take_pass (blk : Nat) (p c n h d : Int) (w : World) (hs : Stt w blk p c n h d) (hp : 1 ≤ p ∧ p ≤ 4) (he : endB p c n = false) (hc : 0 ≤ c ∧ c ≤ 1099511627776) (hn : 0 ≤ n ∧ n ≤ 1099511627776) :
    Calls Tryd.prog 44 #[.pointer (some ⟨blk, 0, none⟩), .int .i64 0] w fun e w' => e = .returned (.tuple #[]) ∧ Stt w' blk p (c + 1) (n + 1) h d ∧ w.grownBy w' (some blk) := by
  have HE := isEnd_any blk p c n w hs.bid ⟨hp.1, by omega⟩
  rw [he] at HE
  have HE := Lib.hid HE
  have Hs := Lib.hid hs
  clear hs he
  go_enter Tryd.func44, Tryd.ntmps44
  go_wp2_with fail
  refine HE.out.mono ?_
  rintro e w1 ⟨rfl, q, rfl⟩
  go_wp2_with fail
  refine (inRangeB_any _ _ _ _ true (by simp)).mono ?_
  rintro e _w ⟨rfl, rfl⟩
  have hs : Stt (w.drewN q) blk p c n h d := Hs.out
  have c2 := cell_blk hs 2
  have z2 := frozen_blk hs 2
  have hs2 := setAt hs 2 (.int .i64 (n + 1))
  have c1 := cell_blk hs2 1
  have z1 := frozen_blk hs2 1
  have hs3 := setAt hs2 1 (.int .i64 (c + 1))
  have Hs3 : Hid (Stt (((w.drewN q).setCell ⟨blk, 2, none⟩ (.int .i64 (n + 1))).setCell ⟨blk, 1, none⟩ (.int .i64 (c + 1))) blk p (c + 1) (n + 1) h d) := Lib.hid hs3
  have hg := grown_setc (grown_setc (grown_drewN1 (grown_refl1 w (some blk)) q) 2 (.int .i64 (n + 1))) 1 (.int .i64 (c + 1))
  have Hg := Lib.hid hg
  simp at c2 c1
  clear hs hs2 hs3 HE hg
  go_wp2_with fail
  go_end0
  exact ⟨rfl, Hs3.out, Hg.out⟩

theorem tmod_pos1 (c p : Int) (hc : 0 ≤ c) : c.tmod p = c % p := by
  rw [Int.tmod_eq_emod_of_nonneg hc]

set_option maxRecDepth 100000 in
set_option maxHeartbeats 4000000 in
theorem take_bid (blk : Nat) (p c n h d x : Int) (w : World) (hs : Stt w blk p c n h d) (hp : 1 ≤ p ∧ p ≤ 4) (he : endB p c n = false) (hc : 0 ≤ c ∧ c ≤ 1099511627776) (hx : 0 < x ∧ x ≤ 35) (hh : h < x) :
    Calls Tryd.prog 44 #[.pointer (some ⟨blk, 0, none⟩), .int .i64 x] w fun e w' => e = .returned (.tuple #[]) ∧ Stt w' blk p (c + 1) 0 x (c % p) ∧ w.grownBy w' (some blk) := by
  have HE := isEnd_any blk p c n w hs.bid ⟨hp.1, by omega⟩
  rw [he] at HE
  have HE := Lib.hid HE
  have Hs := Lib.hid hs
  have hx0 : (x == 0) = false := by simp; omega
  have hpp : ¬ p = 0 := by omega
  have htm := tmod_pos1 c p hc.1
  have hm0 := Int.emod_nonneg c hpp
  have hm1 := Int.emod_lt_of_pos c (show (0 : Int) < p by omega)
  have Htm := Lib.hid htm
  clear hs he htm
  go_enter Tryd.func44, Tryd.ntmps44
  go_wp2_with fail
  refine HE.out.mono ?_
  rintro e w1 ⟨rfl, q, rfl⟩
  go_wp2_with fail
  refine (inRangeB_any _ _ _ _ true (by simp; omega)).mono ?_
  rintro e _w ⟨rfl, rfl⟩
  have hs : Stt (w.drewN q) blk p c n h d := Hs.out
  have c3 := cell_blk hs 3
  have c2 := cell_blk hs 2
  have z2 := frozen_blk hs 2
  have hs2 := setAt hs 2 (.int .i64 0)
  have z3 := frozen_blk hs2 3
  have c3b := cell_blk hs2 3
  have hs3 := setAt hs2 3 (.int .i64 x)
  have c1 := cell_blk hs3 1
  have c0 := cell_blk hs3 0
  have z4 := frozen_blk hs3 4
  have c4 := cell_blk hs3 4
  simp at c3 c1 c0 c2 c3b c4
  have Hs3 := Lib.hid hs3
  have Hg3 := Lib.hid (grown_setc (grown_setc (grown_drewN1 (grown_refl1 w (some blk)) q) 2 (.int .i64 0)) 3 (.int .i64 x))
  clear hs hs2 hs3 HE
  go_wp2_with fail
  go_region_with (fail)
  all_goals
    rw [Htm.out]
    have hs4 : Stt ((((w.drewN q).setCell ⟨blk, 2, none⟩ (.int .i64 0)).setCell ⟨blk, 3, none⟩ (.int .i64 x)).setCell ⟨blk, 4, none⟩ (.int .i64 (c % p))).drew blk p c 0 x (c % p) := setAt Hs3.out 4 (.int .i64 (c % p))
    have hg0 := grown_setc Hg3.out 4 (.int .i64 (c % p))
    have hg4 : w.grownBy ((((w.drewN q).setCell ⟨blk, 2, none⟩ (.int .i64 0)).setCell ⟨blk, 3, none⟩ (.int .i64 x)).setCell ⟨blk, 4, none⟩ (.int .i64 (c % p))).drew (some blk) := ⟨hg0.os, hg0.tape, hg0.output, hg0.size, hg0.block⟩
    generalize ((((w.drewN q).setCell ⟨blk, 2, none⟩ (.int .i64 0)).setCell ⟨blk, 3, none⟩ (.int .i64 x)).setCell ⟨blk, 4, none⟩ (.int .i64 (c % p))).drew = w4 at hs4 hg4 ⊢
    have d1 := cell_blk hs4 1
    have y1 := frozen_blk hs4 1
    have Hs5 : Hid (Stt (w4.setCell ⟨blk, 1, none⟩ (.int .i64 (c + 1))) blk p (c + 1) 0 x (c % p)) := Lib.hid (setAt hs4 1 (.int .i64 (c + 1)))
    have Hg5 := Lib.hid (grown_setc hg4 1 (.int .i64 (c + 1)))
    simp at d1
    clear hs4 hg4 hg0 c3 c2 z2 z3 c3b c1 c0 z4 c4
    go_wp2_with fail
    go_end0
    exact ⟨rfl, Hs5.out, Hg5.out⟩

set_option maxRecDepth 100000 in
set_option maxHeartbeats 4000000 in
theorem take_no (s : Addr) (blk : Nat) (p c n h d x : Int) (w : World) (hs : Stt w blk p c n h d) (hp : 1 ≤ p ∧ p ≤ 4) (hS : Sent1 s w) (hx : endB p c n = true ∨ ¬ (0 ≤ x ∧ x ≤ 35) ∨ (0 < x ∧ x ≤ h)) :
    Calls Tryd.prog 44 #[.pointer (some ⟨blk, 0, none⟩), .int .i64 x] w fun e w' => e = .panicked [{ v := .iface 94 (.pointer (some s)), recovered := false }] ∧ ∃ q, w' = w.drewN q := by
  have HE := isEnd_any blk p c n w hs.bid ⟨hp.1, by omega⟩
  have hg := hS.1
  have c3 := cell_blk hs 3
  simp at c3
  cases he : endB p c n with
  | true =>
    rw [he] at HE
    have HE := Lib.hid HE
    clear he hs hx hS
    go_enter Tryd.func44, Tryd.ntmps44
    go_wp2_with fail
    refine HE.out.mono ?_
    rintro e w1 ⟨rfl, q, rfl⟩
    go_wp2_with fail
    exact ⟨rfl, rfl, q, rfl⟩
  | false =>
    rw [he] at HE
    have HE := Lib.hid HE
    by_cases hr : 0 ≤ x ∧ x ≤ 35
    · have hb : 0 < x ∧ x ≤ h := by
        rcases hx with h1 | h1 | h1
        · rw [he] at h1; cases h1
        · exact absurd hr h1
        · exact h1
      have hx0 : (x == 0) = false := by simp; omega
      have hxh : ¬ h < x := by omega
      have HI : Hid (true = decide ((0 : Int) ≤ x ∧ x ≤ 35)) := Lib.hid (by simp; omega)
      clear he hs hx hS hr
      go_enter Tryd.func44, Tryd.ntmps44
      go_wp2_with fail
      refine HE.out.mono ?_
      rintro e w1 ⟨rfl, q, rfl⟩
      go_wp2_with fail
      refine (inRangeB_any _ _ _ _ true HI.out).mono ?_
      rintro e _w ⟨rfl, rfl⟩
      go_wp2_with fail
      exact ⟨rfl, rfl, q, rfl⟩
    · have HI : Hid (false = decide ((0 : Int) ≤ x ∧ x ≤ 35)) := Lib.hid (by simp; omega)
      clear he hs hx hS hr
      go_enter Tryd.func44, Tryd.ntmps44
      go_wp2_with fail
      refine HE.out.mono ?_
      rintro e w1 ⟨rfl, q, rfl⟩
      go_wp2_with fail
      refine (inRangeB_any _ _ _ _ false HI.out).mono ?_
      rintro e _w ⟨rfl, rfl⟩
      go_wp2_with fail
      exact ⟨rfl, rfl, q, rfl⟩
end Go.Proofs.YtfajdbfpacmclaaDoor
