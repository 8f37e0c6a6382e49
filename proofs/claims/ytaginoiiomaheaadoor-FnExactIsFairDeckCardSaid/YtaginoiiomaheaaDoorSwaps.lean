/-
  swapsFor: the pairs of places that change their cards: its function as an iterator.
-/
import Derived.Test.YtaginoiiomaheaaDoorHash
import Derived.Test.YtaginoiiomaheaaDoorCopyI
import Derived.Test.YtaginoiiomaheaaDoorTame
import Derived.RangeFuncNested
import Derived.RangeFuncBound
import Derived.RangeFuncCalls
import Derived.RangeFuncLeaves
import Derived.RangeFuncBox
import Derived.Shelf.Abstract
import Derived.Shelf.RegionOpen
import Derived.OwnWalkIn
import Derived.TacticsInMore
import Derived.LoopNIn
import Derived.LoopIn
namespace Go.Proofs.YtaginoiiomaheaaDoor
open Go.RowKit
attribute [local go_sem] Oper.semAt_some

def jOf (seed : Int) (i : Nat) : Int := modI (hashI [seed, (i : Int)]) ((i : Int) + 1)
theorem jOf_bd (seed : Int) (i : Nat) (h : i ≤ 1000000000) : 0 ≤ jOf seed i ∧ jOf seed i ≤ i := by
  unfold jOf modI
  rw [if_pos ⟨by omega, by omega⟩]
  have h1 := Int.emod_nonneg (hashI [seed, (i : Int)]) (b := (i : Int) + 1) (by omega)
  have h2 := Int.emod_lt_of_pos (hashI [seed, (i : Int)]) (b := (i : Int) + 1) (by omega)
  omega
def downFrom : Nat → List Nat
  | 0 => []
  | i + 1 => (i + 1) :: downFrom i
theorem downFrom_len (i : Nat) : (downFrom i).length = i := by
  induction i with
  | zero => rfl
  | succ i ih => simp [downFrom, ih]
def swapAt (zs : List Int) (i j : Nat) : List Int := (zs.set i (zs.getD j 0)).set j (zs.getD i 0)
theorem swapAt_len (zs : List Int) (i j : Nat) : (swapAt zs i j).length = zs.length := by simp [swapAt]
def shufStep (seed : Int) (zs : List Int) (i : Nat) : List Int := swapAt zs i (jOf seed i).toNat
def shuf (seed : Int) (is : List Nat) (zs : List Int) : List Int := is.foldl (shufStep seed) zs
theorem shuf_len (seed : Int) (is : List Nat) : ∀ zs : List Int, (shuf seed is zs).length = zs.length := by
  induction is with
  | nil => intro zs; rfl
  | cons i is ih => intro zs; show (shuf seed is (shufStep seed zs i)).length = _; rw [ih]; exact swapAt_len _ _ _
theorem shuf_snoc (seed : Int) (is : List Nat) (i : Nat) (zs : List Int) : shuf seed (is ++ [i]) zs = shufStep seed (shuf seed is zs) i := by simp [shuf]
theorem swapAt_mem (zs : List Int) (i j : Nat) (hi : i < zs.length) (hj : j < zs.length) (p : Int → Prop) (h : ∀ n ∈ zs, p n) : ∀ n ∈ swapAt zs i j, p n := by
  intro n hn
  have hg : ∀ k, k < zs.length → p (zs.getD k 0) := fun k hk => by rw [List.getD_eq_getElem?_getD, List.getElem?_eq_getElem hk]; exact h _ (List.getElem_mem hk)
  rcases List.mem_or_eq_of_mem_set hn with hn | rfl
  · rcases List.mem_or_eq_of_mem_set hn with hn | rfl
    · exact h n hn
    · exact hg j hj
  · exact hg i hi

abbrev Pl (k : Nat) := { i : Nat // 1 ≤ i ∧ i < k }
/-- What a round that goes on keeps: the seed's box, and what lay below n₀. -/
def SwapKeeps (bs : Nat) (seed : Int) (n₀ : Nat) (W W' : World) : Prop := (W.cell? ⟨bs, 0, none⟩ = some (.int .i64 seed) → W'.cell? ⟨bs, 0, none⟩ = some (.int .i64 seed)) ∧ Below n₀ W W'
theorem swapKeeps_t {bs : Nat} {seed : Int} {n₀ : Nat} {A B C : World} (h : SwapKeeps bs seed n₀ A B) (k : SwapKeeps bs seed n₀ B C) : SwapKeeps bs seed n₀ A C := ⟨fun e => k.1 (h.1 e), h.2.trans k.2⟩

set_option maxRecDepth 100000 in
theorem swapsFor_any (c s : Int) (w : World) :
    Calls Tryd.prog 43 #[.int .i64 c, .int .i64 s] w fun e w' => e = .returned (.func (.func 49) #[] #[.pointer (some ⟨w.heap.size, 0, none⟩), .pointer (some ⟨w.heap.size + 1, 0, none⟩)]) ∧ w' = (w.alloc (.cells #[.int .i64 c] 3)).alloc (.cells #[.int .i64 s] 3) := by
  go_enter Tryd.func43, Tryd.ntmps43
  go_wp2_with fail
  go_ret
  exact ⟨rfl, rfl⟩

set_option maxRecDepth 100000 in
set_option maxHeartbeats 2000000 in
theorem swaps_stops (n : Nat) (hn : 3 ≤ n) (a0 a1 : Addr) (n₀ bc bs k : Nat) (seed : Int) (w : World) (hk : k ≤ 1000000000) (wf : (Lit.int .i64 seed).wf = true)
    (h0 : n₀ ≤ w.heap.size) (hc : w.cell? ⟨bc, 0, none⟩ = some (.int .i64 (k : Int))) (hs : w.cell? ⟨bs, 0, none⟩ = some (.int .i64 seed)) (hS0 : ∀ W, Below n₀ w W → Sent a0 a1 W) :
    SeqStopsK Fence.wide n Tryd.prog 49 #[.pointer (some ⟨bc, 0, none⟩), .pointer (some ⟨bs, 0, none⟩)] (fun x : Pl k => #[.int .i64 (x.1 : Int), .int .i64 (jOf seed x.1)]) (SwapKeeps bs seed n₀)
      (fun xs => xs.map (·.1) = downFrom (k - 1)) (fun _ => True) k w := fun l J Jx W hW hJ _ hY hJ0 => by
  have hlc := World.block_lt_of_cell? _ _ hc
  have hls := World.block_lt_of_cell? _ _ hs
  have hc' := (hW.cell (p := ⟨bc, 0, none⟩) hlc).trans hc
  have hs' := (hW.cell (p := ⟨bs, 0, none⟩) hls).trans hs
  have hw1 : IntKind.i64.wrap ((k : Int) - 1) = (k : Int) - 1 := IntWalk.i64_in _ (by omega)
  refine callsIn_of_wp Tryd.func49 rfl trivial ?_ rfl
  simp only [Tryd.ntmps49, List.size_toArray, List.length_cons, List.length_nil, Nat.reduceAdd, Nat.reduceSub, Array.replicate_succ, Array.replicate_zero, List.push_toArray, List.append_toArray, List.nil_append, List.cons_append]
  gi_wp2
  gi_loopw [4] (fun p wr => ∃ (pre : List (Pl k)) (t : Int), p = .int .i64 t ∧ -1 ≤ t ∧ t < (k : Int) ∧ pre.map (·.1) ++ downFrom t.toNat = downFrom (k - 1) ∧ J pre wr ∧ wr.cell? ⟨bs, 0, none⟩ = some (.int .i64 seed) ∧ Below n₀ w wr)
    (fun p _ => (match p with | .int .i64 t => (t + 1).toNat | _ => 0))
  case atStart =>
    refine ⟨[], (k : Int) - 1, rfl, by omega, by omega, ?_, hJ0, hs', hW.mono h0⟩
    rw [show ((k : Int) - 1).toNat = k - 1 by omega]; rfl
  case round =>
    obtain ⟨pre, t, rfl, ht0, ht1, hpre, hJp, hsr, hB⟩ := hrel
    by_cases ht : 1 ≤ t
    · obtain ⟨i, rfl⟩ : ∃ i : Nat, t = (i : Int) := ⟨t.toNat, by omega⟩
      have hi1 : 1 ≤ i := by omega
      have hik : i < k := by omega
      have hSr := hS0 wr hB
      have hjb := jOf_bd seed i (by omega)
      have hown0 := World.ownsRow_lit (base := wr.heap.size) (e := 3) (size := 1) wr #[.int .i64 seed, .int .i64 (i : Int)] 2 (Nat.le_refl _) (by unfold maxLen; omega) rfl
      obtain ⟨b2, -, hw2⟩ := own_wr (zs := [seed, (i : Int)]) hown0 (by intro x hx; simp at hx; rcases hx with rfl | rfl; exact wf; exact WalkArith.wf_i64 (by omega))
      have B0 := fun o => (Below.refl wr.heap.size wr).alloc (Nat.le_refl _) o
      have Hc := Lib.hid (hash_any a0 a1 _ [seed, (i : Int)] b2 _ hw2.rd (by simp) (hSr.below (B0 _) (Nat.le_refl _)))
      clear hown0 hw2
      gi_wp2
      refine ⟨trivial, fun _ => by omega, ?_⟩
      refine (callsIn_wide.2 Hc.out).mono ?_
      rintro e w3 ⟨rfl, hB3⟩
      have hB4 : Below wr.heap.size wr w3 := (B0 _).trans (hB3.mono (B0 _).size)
      have hS3 : Sent a0 a1 w3 := hSr.below hB4 (Nat.le_refl _)
      have hbh := hashFrom_bd 11 [seed, (i : Int)] (by omega)
      have Hm := Lib.hid (mod_any a0 a1 (hashI [seed, (i : Int)]) ((i : Int) + 1) w3 (WalkArith.wf_i64 (by unfold hashI; omega)) hS3)
      have hw2 : IntKind.i64.wrap ((i : Int) + 1) = (i : Int) + 1 := IntWalk.i64_in _ (by omega)
      have hw3 : IntKind.i64.wrap ((i : Int) - 1) = (i : Int) - 1 := IntWalk.i64_in _ (by omega)
      have hl3 : pre.length < k := by
        have := congrArg List.length hpre
        rw [List.length_append, List.length_map, downFrom_len, downFrom_len] at this
        omega
      have hJ3 : J pre w3 := hJ pre wr w3 none hJp ⟨hB4.os, hB4.tape, hB4.output, hB4.size, fun k hk _ => hB4.block k hk⟩ (fun r e => by cases e)
      have hY3 := hY pre ⟨i, hi1, hik⟩ w3 hJ3 hl3
      obtain ⟨fn, tmps, assign, body, hy, hR⟩ := hY3
      have hs3 : w3.cell? ⟨bs, 0, none⟩ = some (.int .i64 seed) := (hB4.cell (p := ⟨bs, 0, none⟩) (World.block_lt_of_cell? _ _ hsr)).trans hsr
      have hBn : Below n₀ w w3 := hB.trans (hB4.mono (by have := hB.size; omega))
      dsimp only at hy
      clear hB3 Hc
      gi_wp2
      refine ⟨trivial, fun _ => by omega, ?_⟩
      refine (callsIn_wide.2 Hm.out).mono ?_
      rintro e _w ⟨rfl, rfl⟩
      rw [show modI (hashI [seed, (i : Int)]) ((i : Int) + 1) = jOf seed i from rfl]
      gi_wp2
      refine ⟨fun _ => by omega, ?_⟩
      refine hR.mono ?_
      rintro e W4 (⟨rfl, hJ4, hk4⟩ | ⟨rfl, hJx4⟩)
      · have hB5 : Below n₀ w W4 := hBn.trans hk4.2
        have hs5 := hk4.1 hs3
        gi_wp2
        go_roundw
        case rel =>
          refine ⟨pre ++ [⟨i, hi1, hik⟩], (i : Int) - 1, rfl, by omega, by omega, ?_, hJ4, hs5, hB5⟩
          rw [← hpre]
          obtain ⟨q, rfl⟩ : ∃ q, i = q + 1 := ⟨i - 1, by omega⟩
          simp [downFrom]
        case measure => simp
      · gi_wp2
        refine bodyPost_ret (results_none rfl _ _ _) rfl ?_
        exact ⟨⟨_, rfl⟩, .inr ⟨_, trivial, hJx4⟩⟩
    · gi_wp2
      go_end0
      refine ⟨⟨_, rfl⟩, .inl ⟨pre, ?_, hJp⟩⟩
      rw [← hpre, show t.toNat = 0 by omega]; simp [downFrom]
end Go.Proofs.YtaginoiiomaheaaDoor
