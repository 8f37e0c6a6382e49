/-
  Several texts in one: copyDeal, the program's side. The two functions that ask whether a number lies within bounds. errors.Is over the two sentinels of chapter 1, and what the listed variables give the walks. Contracts of checkRange, isReason, CeilDiv, Mod (impl and model), over the two sentinels of chapter 1. What is left in a deal: playedInTrick and hasWhatIsLeft, the program's side. Slices of values that can be read, whatever they are; appending them to a row of one's own. slices.Concat of two, at [][]int. Cards: IsCard, SuitOf, RankOf by contract, the program's and the model's.
-/
import Derived.Test.YtbojhbhniollaaaDoorM6
import Derived.Test.YtbojhbhniollaaaDoorM4
import Derived.Test.YtbojhbhniollaaaDoorRows
import Derived.WalkKit
import Derived.WalkLawsBesides
import Derived.WalkSpells
import Derived.LaidEql
import Derived.Stop.Asserts
import Derived.Stop.LaidTwo
import Derived.RowKitTokens
import Derived.Deep.QuietTactic
import Derived.BigQuiet
import Derived.Lib.Hide
import Derived.OpenShut
import Derived.Test.YtbojhbhniollaaaDoorM5
import Derived.Laws.AppendOwnNone
import Derived.Lib.AppendZerosOnto
import Derived.LoopTactic
namespace Go.Proofs.YtbojhbhniollaaaDoor
open Go.RowKit
set_option linter.unusedVariables false
set_option linter.unusedSimpArgs false

theorem copyInts_D (v : Value) (zs : List Int) (b : Nat) (w : World) (h : RdAt .i64 w v zs b) (hl : zs.length ≤ 1048576) :
    Calls Tryd.prog 40 #[v] w fun e w' => ∃ v', e = .returned v' ∧ OwnI (In w.heap.size w'.heap.size) w' v' zs ∧ Below w.heap.size w w' :=
  (copyInts_own v zs b w h (by omega)).mono fun e w' ⟨v', he, ho, hb⟩ => ⟨v', he, OwnI.of ho h.wf, hb⟩
set_option maxRecDepth 100000 in
set_option maxHeartbeats 2000000 in
theorem copyDeal_any (v : Value) (D : MDeal) (w : World) (h : RdDeal w v D) (hf : D.Few) :
    Calls Tryd.prog 46 #[v] w fun e w' => ∃ v', e = .returned v' ∧ OwnDeal (In w.heap.size w'.heap.size) w' v' D ∧ Below w.heap.size w w' := by
  obtain ⟨p0, p3, p4, p5, c0, c3, c4, c5, ev⟩ := h.shape
  obtain ⟨v0, v3, v4, v5, b3, b4, b5, e, h0, h3, h4, h5, wf0, wf1, wf2⟩ := h
  rw [ev] at e
  simp at e
  obtain ⟨rfl, rfl, rfl, rfl⟩ := e
  subst ev
  obtain ⟨f0, fs0, f3, f4, f5⟩ := hf
  obtain ⟨X0, hX0⟩ : ∃ W, W = (w.alloc (.cells #[.slice p0 D.hands.length c0, .int .i64 D.leader, .int .i64 D.trump, .slice p3 D.trick.length c3, .slice p4 D.won.length c4, .slice p5 D.points.length c5, .int .i64 D.left] 31)).alloc (.cells #[.slice none 0 0, .int .i64 0, .int .i64 0, .slice none 0 0, .slice none 0 0, .slice none 0 0, .int .i64 0] 31) := ⟨_, rfl⟩
  have gx : X0.heap[w.heap.size]? = some (.cells #[.slice p0 D.hands.length c0, .int .i64 D.leader, .int .i64 D.trump, .slice p3 D.trick.length c3, .slice p4 D.won.length c4, .slice p5 D.points.length c5, .int .i64 D.left] 31 (0, 0)) := by rw [hX0]; exact heap_alloc2_old _ _ _
  have rx : X0.heap[w.heap.size + 1]? = some (.cells #[.slice none 0 0, .int .i64 0, .int .i64 0, .slice none 0 0, .slice none 0 0, .slice none 0 0, .int .i64 0] 31 (0, 0)) := by rw [hX0]; exact heap_alloc2_new _ _ _
  have hs0 : X0.heap.size = w.heap.size + 2 := by rw [hX0]; simp
  have BX : Below w.heap.size w X0 := by rw [hX0]; exact ((Below.refl _ _).alloc (Nat.le_refl _) _).alloc (by simp) _
  have H0 := Lib.hid (fun wx (hb : Below w.heap.size w wx) => copyRows_own _ D.hands wx (h0.below hb) f0 fs0)
  have H3 := Lib.hid (fun wx (hb : Below w.heap.size w wx) => copyInts_D _ D.trick _ wx (h3.below hb) f3)
  have H4 := Lib.hid (fun wx (hb : Below w.heap.size w wx) => copyInts_D _ D.won _ wx (h4.below hb) f4)
  have H5 := Lib.hid (fun wx (hb : Below w.heap.size w wx) => copyInts_D _ D.points _ wx (h5.below hb) f5)
  have Hwf := Lib.hid (And.intro wf0 (And.intro wf1 wf2))
  have HX0 := Lib.hid hX0
  have HS0 : Hid (w.heap.size + 2 ≤ X0.heap.size) := Lib.hid (by omega)
  have HSX : Hid (w.heap.size + 2 ≤ X0.heap.size) := HS0
  clear hX0 h0 h3 h4 h5 f0 fs0 f3 f4 f5 wf0 wf1 wf2 hs0
  have HG := Lib.hid (And.intro gx (And.intro rx BX))
  clear gx rx BX
  go_enter Tryd.func46, Tryd.ntmps46
  go_upto_region 1 with fail
  rw [← HX0.out]
  obtain ⟨gx, rx, BX⟩ := HG.out
  have k0 := box_cell gx 0
  simp at k0
  clear gx rx
  go_wp2_with fail
  refine (H0.out _ BX).mono ?_
  rintro e w1 ⟨u, rfl, own, B⟩
  obtain ⟨gx, rx, BX⟩ := HG.out
  have s0 := HS0.out
  have sB := B.size
  have G := (B.block _ (show w.heap.size < X0.heap.size by omega)).trans gx
  have R := (B.block _ (show w.heap.size + 1 < X0.heap.size by omega)).trans rx
  obtain ⟨q0, d0, eu⟩ := own.shape
  subst eu
  obtain ⟨X1, hX⟩ : ∃ X, X = w1.setCell ⟨w.heap.size, 0, none⟩ (.slice q0 D.hands.length d0) := ⟨_, rfl⟩
  have tX := touchCell w1 w.heap.size 0 (.slice q0 D.hands.length d0)
  rw [← hX] at tX
  have gx2 : X1.heap[w.heap.size]? = some (.cells #[.slice q0 D.hands.length d0, .int .i64 D.leader, .int .i64 D.trump, .slice p3 D.trick.length c3, .slice p4 D.won.length c4, .slice p5 D.points.length c5, .int .i64 D.left] 31 (0, 0)) := by rw [hX]; exact box_set G 0 _
  have rx2 : X1.heap[w.heap.size + 1]? = some (.cells #[.slice none 0 0, .int .i64 0, .int .i64 0, .slice none 0 0, .slice none 0 0, .slice none 0 0, .int .i64 0] 31 (0, 0)) := by rw [hX, Below.heap_setCell _ _ _ _ (show w.heap.size + 1 ≠ w.heap.size by omega)]; exact R
  have hs : X1.heap.size = w1.heap.size := by rw [hX]; simp [World.setCell]
  have BX2 : Below w.heap.size w X1 := by rw [hX]; exact (BX.trans (B.mono BX.size)).setCell (Nat.le_refl _) _
  have o0 : Hid (OwnR (In X0.heap.size X1.heap.size) X1 (.slice q0 D.hands.length d0) D.hands) := Lib.hid (by rw [hs]; exact own.touch tX (fun b hb e => by have := hb.1; omega))
  have S1 : Hid (X0.heap.size ≤ X1.heap.size) := Lib.hid (by omega)
  have HS0 : Hid (w.heap.size + 2 ≤ X1.heap.size) := Lib.hid (by omega)
  have HG := Lib.hid (And.intro gx2 (And.intro rx2 BX2))
  have z := box_cell G 0
  have y := box_free G 0
  simp at z
  have HX := Lib.hid hX
  clear k0 gx rx BX B own G R hX tX gx2 rx2 hs BX2 s0 sB
  go_upto_region 2 with fail
  rw [← HX.out]
  clear z y HX
  obtain ⟨gx, rx, BX⟩ := HG.out
  have k3 := box_cell gx 3
  simp at k3
  clear gx rx
  go_wp2_with fail
  refine (H3.out _ BX).mono ?_
  rintro e w2 ⟨u, rfl, own, B⟩
  obtain ⟨gx, rx, BX⟩ := HG.out
  have s0 := HS0.out
  have sB := B.size
  have G := (B.block _ (show w.heap.size < X1.heap.size by omega)).trans gx
  have R := (B.block _ (show w.heap.size + 1 < X1.heap.size by omega)).trans rx
  obtain ⟨q3, d3, eu⟩ := own.shape
  subst eu
  obtain ⟨X2, hX⟩ : ∃ X, X = w2.setCell ⟨w.heap.size, 3, none⟩ (.slice q3 D.trick.length d3) := ⟨_, rfl⟩
  have tX := touchCell w2 w.heap.size 3 (.slice q3 D.trick.length d3)
  rw [← hX] at tX
  have gx2 : X2.heap[w.heap.size]? = some (.cells #[.slice q0 D.hands.length d0, .int .i64 D.leader, .int .i64 D.trump, .slice q3 D.trick.length d3, .slice p4 D.won.length c4, .slice p5 D.points.length c5, .int .i64 D.left] 31 (0, 0)) := by rw [hX]; exact box_set G 3 _
  have rx2 : X2.heap[w.heap.size + 1]? = some (.cells #[.slice none 0 0, .int .i64 0, .int .i64 0, .slice none 0 0, .slice none 0 0, .slice none 0 0, .int .i64 0] 31 (0, 0)) := by rw [hX, Below.heap_setCell _ _ _ _ (show w.heap.size + 1 ≠ w.heap.size by omega)]; exact R
  have hs : X2.heap.size = w2.heap.size := by rw [hX]; simp [World.setCell]
  have BX2 : Below w.heap.size w X2 := by rw [hX]; exact (BX.trans (B.mono BX.size)).setCell (Nat.le_refl _) _
  have o3 : Hid (OwnI (In X1.heap.size X2.heap.size) X2 (.slice q3 D.trick.length d3) D.trick) := Lib.hid (by rw [hs]; exact own.touch tX (fun b hb e => by have := hb.1; omega))
  have S2 : Hid (X1.heap.size ≤ X2.heap.size) := Lib.hid (by omega)
  have o0 := Lib.hid ((o0.out.below B).touch tX (fun b hb e => by have := hb.1; have := HSX.out; have := S1.out; omega))
  have HS0 : Hid (w.heap.size + 2 ≤ X2.heap.size) := Lib.hid (by omega)
  have HG := Lib.hid (And.intro gx2 (And.intro rx2 BX2))
  have z := box_cell G 3
  have y := box_free G 3
  simp at z
  have HX := Lib.hid hX
  clear k3 gx rx BX B own G R hX tX gx2 rx2 hs BX2 s0 sB
  go_upto_region 3 with fail
  rw [← HX.out]
  clear z y HX
  obtain ⟨gx, rx, BX⟩ := HG.out
  have k4 := box_cell gx 4
  simp at k4
  clear gx rx
  go_wp2_with fail
  refine (H4.out _ BX).mono ?_
  rintro e w3 ⟨u, rfl, own, B⟩
  obtain ⟨gx, rx, BX⟩ := HG.out
  have s0 := HS0.out
  have sB := B.size
  have G := (B.block _ (show w.heap.size < X2.heap.size by omega)).trans gx
  have R := (B.block _ (show w.heap.size + 1 < X2.heap.size by omega)).trans rx
  obtain ⟨q4, d4, eu⟩ := own.shape
  subst eu
  obtain ⟨X3, hX⟩ : ∃ X, X = w3.setCell ⟨w.heap.size, 4, none⟩ (.slice q4 D.won.length d4) := ⟨_, rfl⟩
  have tX := touchCell w3 w.heap.size 4 (.slice q4 D.won.length d4)
  rw [← hX] at tX
  have gx2 : X3.heap[w.heap.size]? = some (.cells #[.slice q0 D.hands.length d0, .int .i64 D.leader, .int .i64 D.trump, .slice q3 D.trick.length d3, .slice q4 D.won.length d4, .slice p5 D.points.length c5, .int .i64 D.left] 31 (0, 0)) := by rw [hX]; exact box_set G 4 _
  have rx2 : X3.heap[w.heap.size + 1]? = some (.cells #[.slice none 0 0, .int .i64 0, .int .i64 0, .slice none 0 0, .slice none 0 0, .slice none 0 0, .int .i64 0] 31 (0, 0)) := by rw [hX, Below.heap_setCell _ _ _ _ (show w.heap.size + 1 ≠ w.heap.size by omega)]; exact R
  have hs : X3.heap.size = w3.heap.size := by rw [hX]; simp [World.setCell]
  have BX2 : Below w.heap.size w X3 := by rw [hX]; exact (BX.trans (B.mono BX.size)).setCell (Nat.le_refl _) _
  have o4 : Hid (OwnI (In X2.heap.size X3.heap.size) X3 (.slice q4 D.won.length d4) D.won) := Lib.hid (by rw [hs]; exact own.touch tX (fun b hb e => by have := hb.1; omega))
  have S3 : Hid (X2.heap.size ≤ X3.heap.size) := Lib.hid (by omega)
  have o0 := Lib.hid ((o0.out.below B).touch tX (fun b hb e => by have := hb.1; have := HSX.out; have := S1.out; have := S2.out; omega))
  have o3 := Lib.hid ((o3.out.below B).touch tX (fun b hb e => by have := hb.1; have := HSX.out; have := S1.out; have := S2.out; omega))
  have HS0 : Hid (w.heap.size + 2 ≤ X3.heap.size) := Lib.hid (by omega)
  have HG := Lib.hid (And.intro gx2 (And.intro rx2 BX2))
  have z := box_cell G 4
  have y := box_free G 4
  simp at z
  have HX := Lib.hid hX
  clear k4 gx rx BX B own G R hX tX gx2 rx2 hs BX2 s0 sB
  go_upto_region 4 with fail
  rw [← HX.out]
  clear z y HX
  obtain ⟨gx, rx, BX⟩ := HG.out
  have k5 := box_cell gx 5
  simp at k5
  clear gx rx
  go_wp2_with fail
  refine (H5.out _ BX).mono ?_
  rintro e w4 ⟨u, rfl, own, B⟩
  obtain ⟨gx, rx, BX⟩ := HG.out
  have s0 := HS0.out
  have sB := B.size
  have G := (B.block _ (show w.heap.size < X3.heap.size by omega)).trans gx
  have R := (B.block _ (show w.heap.size + 1 < X3.heap.size by omega)).trans rx
  obtain ⟨q5, d5, eu⟩ := own.shape
  subst eu
  obtain ⟨X4, hX⟩ : ∃ X, X = w4.setCell ⟨w.heap.size, 5, none⟩ (.slice q5 D.points.length d5) := ⟨_, rfl⟩
  have tX := touchCell w4 w.heap.size 5 (.slice q5 D.points.length d5)
  rw [← hX] at tX
  have gx2 : X4.heap[w.heap.size]? = some (.cells #[.slice q0 D.hands.length d0, .int .i64 D.leader, .int .i64 D.trump, .slice q3 D.trick.length d3, .slice q4 D.won.length d4, .slice q5 D.points.length d5, .int .i64 D.left] 31 (0, 0)) := by rw [hX]; exact box_set G 5 _
  have rx2 : X4.heap[w.heap.size + 1]? = some (.cells #[.slice none 0 0, .int .i64 0, .int .i64 0, .slice none 0 0, .slice none 0 0, .slice none 0 0, .int .i64 0] 31 (0, 0)) := by rw [hX, Below.heap_setCell _ _ _ _ (show w.heap.size + 1 ≠ w.heap.size by omega)]; exact R
  have hs : X4.heap.size = w4.heap.size := by rw [hX]; simp [World.setCell]
  have BX2 : Below w.heap.size w X4 := by rw [hX]; exact (BX.trans (B.mono BX.size)).setCell (Nat.le_refl _) _
  have o5 : Hid (OwnI (In X3.heap.size X4.heap.size) X4 (.slice q5 D.points.length d5) D.points) := Lib.hid (by rw [hs]; exact own.touch tX (fun b hb e => by have := hb.1; omega))
  have S4 : Hid (X3.heap.size ≤ X4.heap.size) := Lib.hid (by omega)
  have o0 := Lib.hid ((o0.out.below B).touch tX (fun b hb e => by have := hb.1; have := HSX.out; have := S1.out; have := S2.out; have := S3.out; omega))
  have o3 := Lib.hid ((o3.out.below B).touch tX (fun b hb e => by have := hb.1; have := HSX.out; have := S1.out; have := S2.out; have := S3.out; omega))
  have o4 := Lib.hid ((o4.out.below B).touch tX (fun b hb e => by have := hb.1; have := HSX.out; have := S1.out; have := S2.out; have := S3.out; omega))
  have HS0 : Hid (w.heap.size + 2 ≤ X4.heap.size) := Lib.hid (by omega)
  have HG := Lib.hid (And.intro gx2 (And.intro rx2 BX2))
  have z := box_cell G 5
  have y := box_free G 5
  simp at z
  have HX := Lib.hid hX
  clear k5 gx rx BX B own G R hX tX gx2 rx2 hs BX2 s0 sB
  go_upto_region 5 with fail
  rw [← HX.out]
  clear z y HX
  obtain ⟨gx, rx, BX⟩ := HG.out
  have s0 := HS0.out
  have s1 := S1.out
  have s2 := S2.out
  have s3 := S3.out
  have s4 := S4.out
  obtain ⟨wf0, wf1, wf2⟩ := Hwf.out
  have l0 : X0.heap.size = w.heap.size + 2 := by rw [HX0.out]; simp
  have HXX := Lib.hid (deal_laid (lo := w.heap.size) (r := w.heap.size + 1) o0.out o3.out o4.out o5.out ⟨by omega, by omega⟩ ⟨by omega, by omega⟩ ⟨by omega, by omega⟩ ⟨by omega, by omega⟩ (by omega) (by omega) (by omega) (by omega) (by omega) (by omega) wf0 wf1 wf2 (by omega) (by omega) (by omega) (by omega) (by omega) rx BX)
  clear s0 s1 s2 s3 s4 wf0 wf1 wf2 l0 BX
  refine wp_region_lit ?_
  refine wpList_load_row rfl 31 _ rfl w.heap.size rfl 31 _ _ _ gx Tryd.underlying31 rfl (by kernel_rfl) ?_
  refine wpList_store_row rfl 31 _ _ rfl (w.heap.size + 1) #[.slice q0 D.hands.length d0, .int .i64 D.leader, .int .i64 D.trump, .slice q3 D.trick.length d3, .slice q4 D.won.length d4, .slice q5 D.points.length d5, .int .i64 D.left] rfl rfl 31 _ rx (by kernel_rfl) rfl (by simp [Value.oneCell']) ?_
  clear gx rx
  go_wp2_with fail
  (try simp only [Exit.inBlock, Exit.then]); refine bodyPost_ret (results_cell_row rfl _ _ (w.heap.size + 1) _ _ _ _ rfl HXX.out.1 Tryd.underlying31 rfl (by kernel_rfl)) rfl ?_
  exact ⟨_, rfl, HXX.out.2.1, HXX.out.2.2⟩
end Go.Proofs.YtbojhbhniollaaaDoor
namespace Go.Proofs.YtbojhbhniollaaaDoor
open Go.RowKit

theorem inR_any (n lo hi : Int) (w : World) (r : Bool) (hr : r = decide (lo ≤ n ∧ n ≤ hi)) :
    Calls Tryd.prog 38 #[.int .i64 n, .int .i64 lo, .int .i64 hi] w fun e w' => e = .returned (.bool r) ∧ w = w' := by
  by_cases h0 : lo ≤ n
  · by_cases h1 : n ≤ hi
    · have e : r = true := by rw [hr]; simp; omega
      subst e; clear hr
      go_enter Tryd.func38, Tryd.ntmps38
      go_wp2
      go_ret
      exact ⟨rfl, rfl⟩
    · have e : r = false := by rw [hr]; simp; omega
      have hd : decide (n ≤ hi) = false := by simp; omega
      subst e; clear hr
      go_enter Tryd.func38, Tryd.ntmps38
      go_wp2
      go_ret
      exact ⟨rfl, rfl⟩
  · have e : r = false := by rw [hr]; simp; omega
    subst e; clear hr
    go_enter Tryd.func38, Tryd.ntmps38
    go_wp2
    go_ret
    exact ⟨rfl, rfl⟩
theorem inM_any (n lo hi : Int) (w : World) (r : Bool) (hr : r = decide (lo ≤ n ∧ n ≤ hi)) :
    Calls Tryd.prog 34 #[.int .i64 n, .int .i64 lo, .int .i64 hi] w fun e w' => e = .returned (.bool r) ∧ w = w' := by
  by_cases h0 : lo ≤ n
  · by_cases h1 : n ≤ hi
    · have e : r = true := by rw [hr]; simp; omega
      subst e; clear hr
      go_enter Tryd.func34, Tryd.ntmps34
      go_wp2
      go_ret
      exact ⟨rfl, rfl⟩
    · have e : r = false := by rw [hr]; simp; omega
      have hd : decide (n ≤ hi) = false := by simp; omega
      subst e; clear hr
      go_enter Tryd.func34, Tryd.ntmps34
      go_wp2
      go_ret
      exact ⟨rfl, rfl⟩
  · have e : r = false := by rw [hr]; simp; omega
    subst e; clear hr
    go_enter Tryd.func34, Tryd.ntmps34
    go_wp2
    go_ret
    exact ⟨rfl, rfl⟩
end Go.Proofs.YtbojhbhniollaaaDoor
namespace Go.Proofs.YtbojhbhniollaaaDoor
open Go.RowKit Go.Extern.Stop Go.Stop Go.Extern

/-- The two sentinels of chapter 1 lie in memory, apart, and the variables hold them. -/
structure Sent (a0 a1 : Addr) (w : World) : Prop where
  v0 : w.cell? ⟨0, 0, none⟩ = some (.iface 165 (.pointer (some a0)))
  v1 : w.cell? ⟨1, 0, none⟩ = some (.iface 165 (.pointer (some a1)))
  apart : a0 ≠ a1
  b0 : ∃ c t, w.heap[a0.block]? = some (.cells c t (0, 0))
  b1 : ∃ c t, w.heap[a1.block]? = some (.cells c t (0, 0))

theorem Sent.below {a0 a1 : Addr} {w w' : World} {B : Nat} (h : Sent a0 a1 w) (hb : Below B w w') (hB : w.heap.size ≤ B) : Sent a0 a1 w' := by
  have lt : ∀ {k : Nat} {o : Obj}, w.heap[k]? = some o → k < B := fun h => Nat.lt_of_lt_of_le (Array.getElem?_eq_some_iff.1 h).1 hB
  obtain ⟨c0, t0, h0⟩ := h.b0
  obtain ⟨c1, t1, h1⟩ := h.b1
  refine ⟨?_, ?_, h.apart, ⟨c0, t0, ?_⟩, ⟨c1, t1, ?_⟩⟩
  · rw [hb.cell (Nat.lt_of_lt_of_le (World.block_lt_of_cell? _ _ h.v0) hB)]; exact h.v0
  · rw [hb.cell (Nat.lt_of_lt_of_le (World.block_lt_of_cell? _ _ h.v1) hB)]; exact h.v1
  · rw [hb.block _ (lt h0)]; exact h0
  · rw [hb.block _ (lt h1)]; exact h1

/-! ### Closed facts: what errors.Is asks of the target's type, and of the method sets -/
theorem isTypeOf (v : Value) (w : World) : (Extern.ReflectliteType.typeOf #[.iface 165 v]).run Tryd.prog w = .ok (.iface 143 (.agg #[.pointer (some ⟨6, 165, none⟩)])) w := by kernel_rfl
def compF : TypeId → Sem Value := fun t => do Extern.Rtype.noPackHeld "Comparable" t; pure (.bool (← typeInfo t).comparable)
theorem isComparable (w : World) : (Extern.ReflectliteType.method compF #[.agg #[.pointer (some ⟨6, 165, none⟩)]]).run Tryd.prog w = .ok (.bool true) w := by kernel_rfl
theorem isMethodComparable (v : Value) (w : World) : (Go.method 298 143 v "Comparable").run Tryd.prog w = .ok (175, v) w := by kernel_rfl
theorem isComp : (Tryd.prog.info? 165).map (·.comparable) = some true := by kernel_rfl
theorem isSize : (Tryd.prog.info? 187).map (·.size) = some 1 := by kernel_rfl
theorem noIsE (v : Value) (xT : TypeId) (w : World) : (Instr.typeAssert (.iface 165 v) xT 145 true).run Tryd.prog w = .ok (.tuple #[.nilIface, .bool false]) w := run_typeAssert_lacksB Tryd.underlying145 (by kernel_rfl) (by kernel_rfl) v xT w
theorem noUnwrapE (v : Value) (xT : TypeId) (w : World) : (Instr.typeAssert (.iface 165 v) xT 147 true).run Tryd.prog w = .ok (.tuple #[.nilIface, .bool false]) w := run_typeAssert_lacksB Tryd.underlying147 (by kernel_rfl) (by kernel_rfl) v xT w
theorem noUnwrapsE (v : Value) (xT : TypeId) (w : World) : (Instr.typeAssert (.iface 165 v) xT 149 true).run Tryd.prog w = .ok (.tuple #[.nilIface, .bool false]) w := run_typeAssert_lacksB Tryd.underlying149 (by kernel_rfl) (by kernel_rfl) v xT w

set_option maxRecDepth 100000 in
set_option maxHeartbeats 400000 in
theorem is_same (a : Addr) (w : World) :
    Calls Tryd.prog 119 #[.iface 165 (.pointer (some a)), .iface 165 (.pointer (some a))] w fun e w' => e = .returned (.bool true) ∧ w = w' := by
  obtain ⟨i, hi, hcmp⟩ := Option.map_eq_some_iff.1 isComp
  obtain ⟨j, hj, hjs⟩ := Option.map_eq_some_iff.1 isSize
  have h8 := @run_callFunc_extern Tryd.prog 134 _ Extern.ReflectliteType.typeOf Tryd.func134 (by kernel_rfl) (by kernel_rfl) (by kernel_rfl) (by kernel_rfl)
  have h32 := @run_callFunc_extern Tryd.prog 175 _ (Extern.ReflectliteType.method compF) Tryd.func175 (by kernel_rfl) (by kernel_rfl) (by kernel_rfl) (by kernel_rfl)
  have tT := isTypeOf
  have cT := isComparable
  have mR := isMethodComparable
  have heq := run_eql_iface_ptr_same (P := Tryd.prog) w a Tryd.underlying93 Tryd.underlying165 hi hcmp hj
  go_enter Tryd.func119, Tryd.ntmps119
  go_wp2
  refine wp_loop_rounds 1 ?_
  rw [rounds_succ]
  go_wp2
  go_ret
  exact ⟨rfl, rfl⟩

theorem is_nil (b : Addr) (w : World) :
    Calls Tryd.prog 119 #[.nilIface, .iface 165 (.pointer (some b))] w fun e w' => e = .returned (.bool false) ∧ w = w' := by
  have hn := run_eql_iface_nil_left (P := Tryd.prog) w 165 (.pointer (some b)) Tryd.underlying93
  go_enter Tryd.func119, Tryd.ntmps119
  go_wp2
  go_ret
  exact ⟨rfl, rfl⟩

set_option maxRecDepth 100000 in
set_option maxHeartbeats 400000 in
theorem is_other (a b : Addr) (ca cb : Array Value) (ta tb : TypeId) (w : World) (hne : a ≠ b) (ha : w.heap[a.block]? = some (.cells ca ta (0, 0))) (hb : w.heap[b.block]? = some (.cells cb tb (0, 0))) :
    Calls Tryd.prog 119 #[.iface 165 (.pointer (some a)), .iface 165 (.pointer (some b))] w fun e w' => e = .returned (.bool false) ∧ w = w' := by
  obtain ⟨i, hi, hcmp⟩ := Option.map_eq_some_iff.1 isComp
  obtain ⟨j, hj, hjs⟩ := Option.map_eq_some_iff.1 isSize
  have h8 := @run_callFunc_extern Tryd.prog 134 _ Extern.ReflectliteType.typeOf Tryd.func134 (by kernel_rfl) (by kernel_rfl) (by kernel_rfl) (by kernel_rfl)
  have h32 := @run_callFunc_extern Tryd.prog 175 _ (Extern.ReflectliteType.method compF) Tryd.func175 (by kernel_rfl) (by kernel_rfl) (by kernel_rfl) (by kernel_rfl)
  have tT := isTypeOf
  have cT := isComparable
  have mR := isMethodComparable
  have nE := noIsE
  have uE := noUnwrapE
  have vE := noUnwrapsE
  have heq := run_eql_iface_ptr_other (P := Tryd.prog) w Tryd.underlying93 Tryd.underlying165 hi hcmp hj (by rw [hjs]; decide) hne ha hb
  go_enter Tryd.func119, Tryd.ntmps119
  go_wp2
  refine wp_loop_rounds 1 ?_
  rw [rounds_succ]
  go_wp2
  go_ret
  exact ⟨rfl, rfl⟩

end Go.Proofs.YtbojhbhniollaaaDoor
namespace Go.Proofs.YtbojhbhniollaaaDoor
open Go.RowKit Go.Extern.Stop Go.Stop Go.Extern

theorem isReason_nil (a0 a1 : Addr) (w : World) (hS : Sent a0 a1 w) :
    Calls Tryd.prog 94 #[.nilIface] w fun e w' => e = .returned (.bool false) ∧ w = w' := by
  have v0 := hS.v0
  have v1 := hS.v1
  go_enter Tryd.func94, Tryd.ntmps94
  go_wp2_with fail
  refine (is_nil a0 _).mono ?_
  rintro e w' ⟨rfl, rfl⟩
  go_wp2_with fail
  refine (is_nil a1 _).mono ?_
  rintro e w' ⟨rfl, rfl⟩
  go_wp2
  go_ret
  exact ⟨rfl, rfl⟩

theorem isReason_0 (a0 a1 : Addr) (w : World) (hS : Sent a0 a1 w) :
    Calls Tryd.prog 94 #[.iface 165 (.pointer (some a0))] w fun e w' => e = .returned (.bool true) ∧ w = w' := by
  have v0 := hS.v0
  go_enter Tryd.func94, Tryd.ntmps94
  go_wp2_with fail
  refine (is_same a0 _).mono ?_
  rintro e w' ⟨rfl, rfl⟩
  go_wp2
  go_ret
  exact ⟨rfl, rfl⟩

theorem isReason_1 (a0 a1 : Addr) (w : World) (hS : Sent a0 a1 w) :
    Calls Tryd.prog 94 #[.iface 165 (.pointer (some a1))] w fun e w' => e = .returned (.bool true) ∧ w = w' := by
  have v0 := hS.v0
  have v1 := hS.v1
  obtain ⟨c0, t0, h0⟩ := hS.b0
  obtain ⟨c1, t1, h1⟩ := hS.b1
  have C := is_other a1 a0 c1 c0 t1 t0 w (Ne.symm hS.apart) h1 h0
  clear h0 h1
  go_enter Tryd.func94, Tryd.ntmps94
  go_wp2_with fail
  refine C.mono ?_
  rintro e w' ⟨rfl, rfl⟩
  go_wp2_with fail
  refine (is_same a1 _).mono ?_
  rintro e w' ⟨rfl, rfl⟩
  go_wp2
  go_ret
  exact ⟨rfl, rfl⟩

theorem checkRange_in (n lo hi : Int) (w : World) (h1 : lo ≤ n) (h2 : n ≤ hi) :
    Calls Tryd.prog 95 #[.int .i64 n, .int .i64 lo, .int .i64 hi] w fun e w' => e = .returned .nilIface ∧ w = w' := by
  go_enter Tryd.func95, Tryd.ntmps95
  go_wp2
  go_ret
  exact ⟨rfl, rfl⟩

theorem checkRange_out (a0 a1 : Addr) (n lo hi : Int) (w : World) (h : n < lo ∨ hi < n) (hS : Sent a0 a1 w) :
    Calls Tryd.prog 95 #[.int .i64 n, .int .i64 lo, .int .i64 hi] w fun e w' => e = .returned (.iface 165 (.pointer (some a1))) ∧ w = w' := by
  have v1 := hS.v1
  by_cases h1 : lo ≤ n
  · have h2 : hi < n := by omega
    clear h
    go_enter Tryd.func95, Tryd.ntmps95
    go_wp2
    go_ret
    exact ⟨rfl, rfl⟩
  · clear h
    go_enter Tryd.func95, Tryd.ntmps95
    go_wp2
    go_ret
    exact ⟨rfl, rfl⟩

def ceilI (a b : Int) : Int := if 0 ≤ a ∧ a ≤ 1000000000000 ∧ 1 ≤ b ∧ b ≤ 1000000000000 then (a + b - 1) / b else 0
def modI (p q : Int) : Int := if 1 ≤ q ∧ q ≤ 1000000000000 then p % q else 0

theorem tmod_bd (p q : Int) (h : 1 ≤ q) : -q < p.tmod q ∧ p.tmod q < q := by
  have h1 := Int.tmod_lt_of_pos p (show 0 < q by omega)
  have h2 := Int.lt_tmod_of_pos p (show 0 < q by omega)
  exact ⟨h2, h1⟩

theorem tmod_neg (p q : Int) (h : 1 ≤ q) (hn : p.tmod q < 0) : p % q = p.tmod q + q := by
  have hb := tmod_bd p q h
  have e := Int.mul_tdiv_add_tmod p q
  have e2 : p = (p.tmod q + q) + q * (p.tdiv q - 1) := by rw [Int.mul_sub]; omega
  rw [e2, Int.add_mul_emod_self_left, Int.emod_eq_of_lt (by omega) (by omega), ← e2]

theorem tmod_pos (p q : Int) (h : 1 ≤ q) (hn : 0 ≤ p.tmod q) : p % q = p.tmod q := by
  have hb := tmod_bd p q h
  have e := Int.mul_tdiv_add_tmod p q
  have e2 : p = p.tmod q + q * p.tdiv q := by omega
  rw [e2, Int.add_mul_emod_self_left, Int.emod_eq_of_lt (by omega) (by omega), ← e2]

theorem tmod_both (p q : Int) : (p.tmod q + q) % q = p % q := by
  have e := Int.mul_tdiv_add_tmod p q
  have e2 : p = p.tmod q + q * p.tdiv q := by omega
  rw [Int.add_emod_right]
  conv => rhs; rw [e2, Int.add_mul_emod_self_left]

theorem mod_any (a0 a1 : Addr) (p q : Int) (w : World) (wp : (Lit.int .i64 p).wf = true) (hS : Sent a0 a1 w) :
    Calls Tryd.prog 74 #[.int .i64 p, .int .i64 q] w fun e w' => e = .returned (.int .i64 (modI p q)) ∧ w = w' := by
  have bp := bounds_i64 wp
  by_cases hb : 1 ≤ q ∧ q ≤ 1000000000000
  · obtain ⟨hb1, hb2⟩ := hb
    have e : modI p q = p % q := if_pos ⟨hb1, hb2⟩
    rw [e]
    clear e
    have tb := tmod_bd p q hb1
    obtain ⟨tb1, tb2⟩ := tb
    by_cases hp : 0 ≤ p
    · go_enter Tryd.func74, Tryd.ntmps74
      go_wp2_with fail
      refine (checkRange_in _ _ _ _ hb1 hb2).mono ?_
      rintro e w' ⟨rfl, rfl⟩
      go_wp2_with fail
      refine (isReason_nil a0 a1 _ hS).mono ?_
      rintro e w' ⟨rfl, rfl⟩
      have hx : ¬ (p % q < 0) := by have := Int.emod_nonneg p (show q ≠ 0 by omega); omega
      go_wp2
      go_ret
      exact ⟨rfl, rfl⟩
    · by_cases hn : p.tmod q < 0
      · rw [tmod_neg p q hb1 hn]
        go_enter Tryd.func74, Tryd.ntmps74
        go_wp2_with fail
        refine (checkRange_in _ _ _ _ hb1 hb2).mono ?_
        rintro e w' ⟨rfl, rfl⟩
        go_wp2_with fail
        refine (isReason_nil a0 a1 _ hS).mono ?_
        rintro e w' ⟨rfl, rfl⟩
        go_wp2
        go_ret
        exact ⟨rfl, rfl⟩
      · rw [tmod_pos p q hb1 (by omega)]
        go_enter Tryd.func74, Tryd.ntmps74
        go_wp2_with fail
        refine (checkRange_in _ _ _ _ hb1 hb2).mono ?_
        rintro e w' ⟨rfl, rfl⟩
        go_wp2_with fail
        refine (isReason_nil a0 a1 _ hS).mono ?_
        rintro e w' ⟨rfl, rfl⟩
        go_wp2
        go_ret
        exact ⟨rfl, rfl⟩
  · have e : modI p q = 0 := if_neg (by omega)
    rw [e]
    clear e
    go_enter Tryd.func74, Tryd.ntmps74
    go_wp2_with fail
    refine (checkRange_out a0 a1 _ _ _ _ (by omega) hS).mono ?_
    rintro e w' ⟨rfl, rfl⟩
    go_wp2_with fail
    refine (isReason_1 a0 a1 _ hS).mono ?_
    rintro e w' ⟨rfl, rfl⟩
    go_wp2
    go_ret
    exact ⟨rfl, rfl⟩

end Go.Proofs.YtbojhbhniollaaaDoor
namespace Go.Proofs.YtbojhbhniollaaaDoor
open Go.RowKit

def playedI (D : MDeal) (i : Int) : Int := if modI (i - D.leader) D.hands.length < D.trick.length then 1 else 0
theorem playedI_bd (D : MDeal) (i : Int) : 0 ≤ playedI D i ∧ playedI D i ≤ 1 := by unfold playedI; split <;> omega

set_option linter.unusedVariables false in
set_option maxRecDepth 100000 in
set_option maxHeartbeats 1000000 in
theorem playedInTrick_any (a0 a1 : Addr) (v : Value) (D : MDeal) (i : Int) (w : World) (h : RdDeal w v D) (hf : D.Few) (i0 : 0 ≤ i) (i1 : i ≤ 4) (l0 : 0 ≤ D.leader) (l1 : D.leader ≤ 4) (hS : Sent a0 a1 w) :
    Calls Tryd.prog 90 #[v, .int .i64 i] w fun e w' => e = .returned (.int .i64 (playedI D i)) ∧ Below w.heap.size w w' := by
  obtain ⟨v0, v3, v4, v5, b3, b4, b5, rfl, h0, h3, h4, h5, wf1, wf2, wf6⟩ := h
  obtain ⟨f0, fs0, f3, f4, f5⟩ := hf
  obtain ⟨p0, c0, e0, -⟩ := id h0
  obtain ⟨p3, c3, e3, -⟩ := id h3
  subst e0 e3
  have B0 := fun o => (Below.refl w.heap.size w).alloc (Nat.le_refl _) o
  unfold playedI
  obtain ⟨n, hn⟩ : ∃ n, n = D.hands.length := ⟨_, rfl⟩
  obtain ⟨m, hm⟩ : ∃ m, m = D.trick.length := ⟨_, rfl⟩
  obtain ⟨l, hl⟩ : ∃ l, l = D.leader := ⟨_, rfl⟩
  rw [← hn] at f0 ⊢
  rw [← hm] at f3 ⊢
  rw [← hl] at l0 l1 ⊢
  clear hn hm hl h0 h3 h4 h5 wf1
  obtain ⟨W0, hW0⟩ : ∃ W0, w.alloc (.cells #[.slice p0 n c0, .int .i64 l, .int .i64 D.trump, .slice p3 m c3, v4, v5, .int .i64 D.left] 31) = W0 := ⟨_, rfl⟩
  have hbx : W0.heap[w.heap.size]? = some (.cells #[.slice p0 n c0, .int .i64 l, .int .i64 D.trump, .slice p3 m c3, v4, v5, .int .i64 D.left] 31 (0, 0)) := by rw [← hW0]; exact heap_alloc_new w _
  obtain ⟨k0, k1, k2, k3, k4, k5, k6⟩ := SDeal_cells hbx
  have hB0 : Below w.heap.size w W0 := by rw [← hW0]; exact B0 _
  have hS0 : Sent a0 a1 W0 := hS.below hB0 (Nat.le_refl _)
  have hw : IntKind.i64.wrap (i - l) = i - l := IntWalk.i64_in _ (by omega)
  obtain ⟨q, hq⟩ : ∃ q, modI (i - l) n = q := ⟨_, rfl⟩
  have HM := Lib.hid (fun N => mod_any a0 a1 (i - l) n (W0.drewN N) (WalkArith.wf_i64 (by omega)) ⟨hS0.v0, hS0.v1, hS0.apart, hS0.b0, hS0.b1⟩)
  rw [hq] at HM ⊢
  clear hq hbx hS hS0
  by_cases ht : q < m
  · rw [if_pos ht]
    go_enter Tryd.func90, Tryd.ntmps90
    go_wp2_with fail
    go_quiet ((go_at_call 74; exact Calls.quiet_of_same (flip_same (HM.out _) rfl)))
    go_wp2_with fail
    go_ret
    exact ⟨rfl, ⟨hB0.os, hB0.tape, hB0.output, hB0.size, hB0.block⟩⟩
  · rw [if_neg ht]
    go_enter Tryd.func90, Tryd.ntmps90
    go_wp2_with fail
    go_quiet ((go_at_call 74; exact Calls.quiet_of_same (flip_same (HM.out _) rfl)))
    go_wp2_with fail
    go_ret
    exact ⟨rfl, ⟨hB0.os, hB0.tape, hB0.output, hB0.size, hB0.block⟩⟩

/-- The k-th player's numbers are in order. -/
def wonOK (D : MDeal) (k : Nat) : Prop := (0 ≤ D.won.getD k 0 ∧ D.won.getD k 0 ≤ D.left) ∧ 0 ≤ D.points.getD k 0
def handOK (D : MDeal) (k : Nat) : Prop := ((D.hands.getD k []).length : Int) + playedI D k = D.left - D.won.sum
instance (D : MDeal) (k : Nat) : Decidable (wonOK D k) := by unfold wonOK; infer_instance
instance (D : MDeal) (k : Nat) : Decidable (handOK D k) := by unfold handOK; infer_instance
def leftOK (D : MDeal) : Bool := decide (∀ k, k < D.hands.length → wonOK D k) && decide (∀ k, k < D.hands.length → handOK D k)
theorem leftOK_no1 {D : MDeal} {k : Nat} (hk : k < D.hands.length) (h : ¬ wonOK D k) : leftOK D = false := by
  unfold leftOK
  rw [decide_eq_false (fun H => h (H k hk)), Bool.false_and]
theorem leftOK_no2 {D : MDeal} {k : Nat} (hk : k < D.hands.length) (h : ¬ handOK D k) : leftOK D = false := by
  unfold leftOK
  rw [decide_eq_false (p := ∀ k, k < D.hands.length → handOK D k) (fun H => h (H k hk)), Bool.and_false]
theorem leftOK_yes {D : MDeal} (h1 : ∀ k, k < D.hands.length → wonOK D k) (h2 : ∀ k, k < D.hands.length → handOK D k) : leftOK D = true := by
  unfold leftOK
  rw [decide_eq_true h1, decide_eq_true h2]; rfl
theorem sum_takeI (zs : List Int) (k : Nat) (h : k < zs.length) : (zs.take (k + 1)).sum = (zs.take k).sum + zs.getD k 0 := by
  rw [List.take_succ_eq_append_getElem h, List.sum_append, List.getD_eq_getElem?_getD, List.getElem?_eq_getElem h]; simp
theorem sum_bd (zs : List Int) (L : Int) (k : Nat) (hk : k ≤ zs.length) (h : ∀ j, j < k → 0 ≤ zs.getD j 0 ∧ zs.getD j 0 ≤ L) : 0 ≤ (zs.take k).sum ∧ (zs.take k).sum ≤ k * L := by
  induction k with
  | zero => simp
  | succ k ih =>
    have h1 := ih (by omega) (fun j hj => h j (by omega))
    have h2 := h k (by omega)
    rw [sum_takeI zs k (by omega)]
    constructor
    · omega
    · have : ((k + 1 : Nat) : Int) * L = k * L + L := by rw [Int.natCast_add, Int.add_mul]; omega
      omega
theorem rd_at {w : World} {v : Value} {zs : List Int} {b : Nat} (h : RdAt .i64 w v zs b) {k : Nat} (hk : k < zs.length) : ∃ off cap, v = .slice (some ⟨b, off, none⟩) zs.length cap ∧ ∀ W, Below w.heap.size w W → W.cell? ⟨b, off + k, none⟩ = some (.int .i64 (zs.getD k 0)) := by
  rcases h.open with ⟨h0, -⟩ | ⟨-, off, cap, rfl, -, hc⟩
  · rw [h0] at hk; simp at hk
  · refine ⟨off, cap, rfl, fun W hW => ?_⟩
    have h1 := (hc k hk)
    rw [hW.cell (p := ⟨b, off + k, none⟩) (World.block_lt_of_cell? _ _ h1), h1, List.getD_eq_getElem?_getD, List.getElem?_eq_getElem hk]
    rfl

set_option linter.unusedVariables false in
set_option maxRecDepth 100000 in
set_option maxHeartbeats 2000000 in
theorem hasWhatIsLeft_any (a0 a1 : Addr) (v : Value) (D : MDeal) (w : World) (h : RdDeal w v D) (hf : D.Few) (hn1 : 1 ≤ D.hands.length) (hn : D.hands.length ≤ 4) (hw : D.won.length = D.hands.length) (hp : D.points.length = D.hands.length)
    (l0 : 0 ≤ D.leader) (l1 : D.leader ≤ 4) (e0 : 0 ≤ D.left) (e1 : D.left ≤ 26) (hS : Sent a0 a1 w) (r : Bool) (hr : leftOK D = r) :
    Calls Tryd.prog 64 #[v] w fun e w' => e = .returned (.bool r) ∧ Below w.heap.size w w' := by
  have hD := h
  obtain ⟨v0, v3, v4, v5, b3, b4, b5, rfl, h0, h3, h4, h5, wf1, wf2, wf6⟩ := h
  obtain ⟨off4, c4, rfl, -⟩ := rd_at (k := 0) h4 (by omega)
  obtain ⟨off5, c5, rfl, -⟩ := rd_at (k := 0) h5 (by omega)
  have H4 : Hid (∀ k, k < D.hands.length → ∀ W, Below w.heap.size w W → W.cell? ⟨b4, off4 + k, none⟩ = some (.int .i64 (D.won.getD k 0))) := Lib.hid (fun k hk W hW => by
    obtain ⟨o, c, e, hc⟩ := rd_at h4 (k := k) (by omega)
    cases e; exact hc W hW)
  have H5 : Hid (∀ k, k < D.hands.length → ∀ W, Below w.heap.size w W → W.cell? ⟨b5, off5 + k, none⟩ = some (.int .i64 (D.points.getD k 0))) := Lib.hid (fun k hk W hW => by
    obtain ⟨o, c, e, hc⟩ := rd_at h5 (k := k) (by omega)
    cases e; exact hc W hW)
  have H0 : Hid (∀ W, Below w.heap.size w W → RdRows .i64 W v0 D.hands) := Lib.hid (fun W hW => h0.below hW)
  obtain ⟨p0, c0, q0, -⟩ := id h0
  subst q0
  have B0 := fun o => (Below.refl w.heap.size w).alloc (Nat.le_refl _) o
  obtain ⟨n, hnn⟩ : ∃ n, n = D.hands.length := ⟨_, rfl⟩
  have HN := Lib.hid hnn
  obtain ⟨L, hLL⟩ : ∃ L, L = D.left := ⟨_, rfl⟩
  have HL := Lib.hid hLL
  obtain ⟨W0, hW0⟩ : ∃ W0, w.alloc (.cells #[.slice p0 n c0, .int .i64 D.leader, .int .i64 D.trump, v3, .slice (some ⟨b4, off4, none⟩) n c4, .slice (some ⟨b5, off5, none⟩) n c5, .int .i64 L] 31) = W0 := ⟨_, rfl⟩
  have hbx : W0.heap[w.heap.size]? = some (.cells #[.slice p0 n c0, .int .i64 D.leader, .int .i64 D.trump, v3, .slice (some ⟨b4, off4, none⟩) n c4, .slice (some ⟨b5, off5, none⟩) n c5, .int .i64 L] 31 (0, 0)) := by rw [← hW0]; exact heap_alloc_new w _
  have hB0 : Below w.heap.size w W0 := by rw [← hW0]; exact B0 _
  obtain ⟨k0, k1, k2, k3, k4, k5, k6⟩ := SDeal_cells hbx
  have HP := Lib.hid (fun (i : Int) W (hW : Below w.heap.size w W) (i0 : 0 ≤ i) (i1 : i ≤ 4) => playedInTrick_any a0 a1 _ D i W (hD.below hW) hf i0 i1 l0 l1 (hS.below hW (Nat.le_refl _)))
  rw [hw, ← hnn] at HP
  rw [hp, ← hnn] at HP
  rw [← hLL] at HP e0 e1
  rw [← hnn] at hn hn1
  rw [hw, hp, ← hnn, ← hLL]
  rw [← hnn] at H4 H5 H0
  have Hwl : Hid (D.won.length = n) := Lib.hid (by omega)
  clear hD h0 h3 h4 h5 wf1 wf2 wf6 hS hnn hLL hw hp
  have Hr := Lib.hid hr
  clear hr
  go_enter Tryd.func64, Tryd.ntmps64
  go_wp2_with fail
  go_loopw [3, 4, 12] (fun lf _ i wr => ∃ k : Nat, k ≤ n ∧ i = .int .i64 k ∧ lf = .int .i64 (L - (D.won.take k).sum) ∧ Hid (∀ j, j < k → wonOK D j) ∧ Below w.heap.size w wr ∧ wr.heap[w.heap.size]? = some (.cells #[.slice p0 n c0, .int .i64 D.leader, .int .i64 D.trump, v3, .slice (some ⟨b4, off4, none⟩) n c4, .slice (some ⟨b5, off5, none⟩) n c5, .int .i64 L] 31 (0, 0))) (fun _ _ i _ => n - (intOf i).toNat)
  case atStart => exact ⟨0, Nat.zero_le _, rfl, by simp, Lib.hid (fun j hj => by omega), hB0, hbx⟩
  case round =>
    obtain ⟨k, hk, rfl, rfl, hok, hB, hbr⟩ := hrel
    clear k0 k1 k2 k3 k4 k5 k6
    obtain ⟨k0, k1, k2, k3, k4, k5, k6⟩ := SDeal_cells hbr
    by_cases hlt : k < n
    · have hsb := sum_bd D.won L k (by rw [Hwl.out]; omega) (fun j hj => by have := (hok.out j hj).1; rw [← HL.out] at this; exact this)
      have hcx := H4.out k hlt wr hB
      have hcy := H5.out k hlt wr hB
      have hst := sum_takeI D.won k (by rw [Hwl.out]; exact hlt)
      obtain ⟨x, hx⟩ : ∃ x, D.won.getD k 0 = x := ⟨_, rfl⟩
      obtain ⟨y, hy⟩ : ∃ y, D.points.getD k 0 = y := ⟨_, rfl⟩
      obtain ⟨S, hS⟩ : ∃ S, (D.won.take k).sum = S := ⟨_, rfl⟩
      rw [hx] at hcx
      rw [hy] at hcy
      rw [hS] at hsb ⊢
      rw [hx, hS] at hst
      have hkL : (k : Int) * L ≤ 104 := by
        have h1 : (k : Int) * L ≤ 4 * 26 := Int.mul_le_mul (by omega) e1 e0 (by omega)
        omega
      have hkn : (k : Int) < (n : Int) := by omega
      have Hst := Lib.hid hst
      have Hno : Hid (¬ wonOK D k → leftOK D = false) := Lib.hid (fun h => leftOK_no1 (by rw [← HN.out]; exact hlt) h)
      have Hwk : Hid (wonOK D k ↔ (0 ≤ x ∧ x ≤ L) ∧ 0 ≤ y) := Lib.hid (by unfold wonOK; rw [hx, hy, ← HL.out])
      have Hbr := Lib.hid hbr
      clear hst hx hy hS hbr
      by_cases hin : 0 ≤ x ∧ x ≤ L
      · have HI := Lib.hid (fun wx => inR_any x 0 L wx true (by rw [decide_eq_true hin]))
        obtain ⟨hx0, hx1⟩ := hin
        by_cases hy0 : y < 0
        · go_wp2_with fail
          go_quiet ((go_at_call 38; exact Calls.quiet_of_same (flip_same (HI.out _) rfl)))
          go_wp2_with fail
          go_ret
          exact ⟨by rw [← Hr.out, Hno.out (fun h => by have := (Hwk.out.1 h).2; omega)]; rfl, ⟨hB.os, hB.tape, hB.output, hB.size, hB.block⟩⟩
        · have hw1 : IntKind.i64.wrap (L - S - x) = L - S - x := IntWalk.i64_in _ (by omega)
          go_wp2_with fail
          go_quiet ((go_at_call 38; exact Calls.quiet_of_same (flip_same (HI.out _) rfl)))
          go_wp2_with fail
          refine ⟨⟨k + 1, by omega, by go_num, congrArg (Value.int .i64) (by rw [Hst.out]; omega), Lib.hid (fun j hj => ?_), ⟨hB.os, hB.tape, hB.output, hB.size, hB.block⟩, Hbr.out⟩, by simp [intOf]; omega⟩
          by_cases hjk : j < k
          · exact hok.out j hjk
          · obtain rfl : j = k := by omega
            exact Hwk.out.2 ⟨⟨hx0, hx1⟩, by omega⟩
      · have HI := Lib.hid (fun wx => inR_any x 0 L wx false (by rw [decide_eq_false hin]))
        go_wp2_with fail
        go_quiet ((go_at_call 38; exact Calls.quiet_of_same (flip_same (HI.out _) rfl)))
        go_wp2_with fail
        go_ret
        exact ⟨by rw [← Hr.out, Hno.out (fun h => hin (Hwk.out.1 h).1)]; rfl, ⟨hB.os, hB.tape, hB.output, hB.size, hB.block⟩⟩
    · obtain rfl : k = n := by omega
      have hkn : ¬ (k : Int) < (k : Int) := by omega
      obtain ⟨T, hT⟩ : ∃ T, L - (D.won.take k).sum = T := ⟨_, rfl⟩
      have HT : Hid (T = D.left - D.won.sum) := Lib.hid (by rw [← hT, HL.out, List.take_of_length_le (by rw [Hwl.out]; exact Nat.le_refl _)])
      have hsb := sum_bd D.won L k (by rw [Hwl.out]; omega) (fun j hj => by have := (hok.out j hj).1; rw [← HL.out] at this; exact this)
      have hkL : (k : Int) * L ≤ 104 := by
        have h1 : (k : Int) * L ≤ 4 * 26 := Int.mul_le_mul (by omega) e1 e0 (by omega)
        omega
      have hTb : -104 ≤ T ∧ T ≤ 26 := by omega
      rw [hT]
      have Hok1 : Hid (∀ j, j < D.hands.length → wonOK D j) := Lib.hid (by rw [← HN.out]; exact hok.out)
      clear hT hsb hkL hok
      go_wp2_with fail
      go_loopw [5, 6, 43] (fun _ _ i wr2 => ∃ j : Nat, j ≤ k ∧ i = .int .i64 j ∧ Hid (∀ q, q < j → handOK D q) ∧ Below w.heap.size w wr2 ∧ wr2.heap[w.heap.size]? = some (.cells #[.slice p0 k c0, .int .i64 D.leader, .int .i64 D.trump, v3, .slice (some ⟨b4, off4, none⟩) k c4, .slice (some ⟨b5, off5, none⟩) k c5, .int .i64 L] 31 (0, 0))) (fun _ _ i _ => k - (intOf i).toNat)
      case atStart => exact ⟨0, Nat.zero_le _, rfl, Lib.hid (fun j hj => by omega), hB, hbr⟩
      case round =>
        obtain ⟨j, hj, rfl, hok, hB2, hbr2⟩ := hrel
        clear k0 k1 k2 k3 k4 k5 k6
        obtain ⟨k0, k1, k2, k3, k4, k5, k6⟩ := SDeal_cells hbr2
        by_cases hlt : j < k
        · have hz : j < D.hands.length := by rw [← HN.out]; exact hlt
          obtain ⟨blk, off, cap', p, c, b, hv, hc, -, -⟩ := (H0.out _ hB2).row hz
          have ha := (Value.slice.inj hv).1
          clear hv
          subst ha
          have hml := len_le_sum D.hands hz
          have hfs := hf.2.1
          have Hhk : Hid (handOK D j ↔ ((D.hands[j].length : Nat) : Int) + playedI D j = T) := Lib.hid (by unfold handOK; rw [← HT.out, List.getD_eq_getElem?_getD, List.getElem?_eq_getElem hz]; rfl)
          have hpb := playedI_bd D j
          have HP2 := Lib.hid (HP.out (j : Int) _ hB2 (by omega) (by omega))
          obtain ⟨m, hm⟩ : ∃ m, D.hands[j].length = m := ⟨_, rfl⟩
          obtain ⟨pl, hpl⟩ : ∃ pl, playedI D j = pl := ⟨_, rfl⟩
          rw [hm] at hc hml Hhk
          rw [hpl] at Hhk hpb HP2
          have hkj : (j : Int) < (k : Int) := by omega
          have hw1 : IntKind.i64.wrap ((m : Int) + pl) = (m : Int) + pl := IntWalk.i64_in _ (by omega)
          have Hbr2 := Lib.hid hbr2
          clear hm hpl hbr2
          by_cases heq : (m : Int) + pl = T
          · go_wp2_with fail
            refine HP2.out.mono ?_
            rintro e w' ⟨rfl, hBp⟩
            have hB3 := hB2.trans (hBp.mono hB2.size)
            have Hbr3 : Hid (w'.heap[w.heap.size]? = some (.cells #[.slice (some ⟨blk, off, none⟩) k c0, .int .i64 D.leader, .int .i64 D.trump, v3, .slice (some ⟨b4, off4, none⟩) k c4, .slice (some ⟨b5, off5, none⟩) k c5, .int .i64 L] 31 (0, 0))) := Lib.hid ((hBp.block w.heap.size (Array.getElem?_eq_some_iff.1 Hbr2.out).1).trans Hbr2.out)
            go_wp2_with fail
            refine ⟨⟨j + 1, by omega, by go_num, Lib.hid (fun q hq => ?_), hB3, Hbr3.out⟩, by simp [intOf]; omega⟩
            by_cases hqj : q < j
            · exact hok.out q hqj
            · obtain rfl : q = j := by omega
              exact Hhk.out.2 heq
          · go_wp2_with fail
            refine HP2.out.mono ?_
            rintro e w' ⟨rfl, hBp⟩
            go_wp2_with fail
            go_ret
            exact ⟨by rw [← Hr.out, leftOK_no2 hz (fun h => heq (Hhk.out.1 h))]; rfl, hB2.trans (hBp.mono hB2.size)⟩
        · obtain rfl : j = k := by omega
          have hkj : ¬ (j : Int) < (j : Int) := by omega
          go_wp2_with fail
          go_ret
          exact ⟨by rw [← Hr.out, leftOK_yes Hok1.out (by rw [← HN.out]; exact hok.out)]; rfl, hB2⟩
end Go.Proofs.YtbojhbhniollaaaDoor
namespace Go.Proofs.YtbojhbhniollaaaDoor
open Go.RowKit

/-- The value v is a slice that holds the values us. -/
def RdVals (w : World) (v : Value) (us : List Value) : Prop :=
  ∃ (a : Option Addr) (cap : Nat), v = .slice a us.length cap ∧ (us.length ≤ cap ∧ cap ≤ maxLen ∧ (a = none → cap = 0)) ∧
    (us = [] ∨ ∃ blk off, a = some ⟨blk, off, none⟩ ∧ ∀ j (hj : j < us.length), w.cell? ⟨blk, off + j, none⟩ = some us[j])
theorem RdVals.below {w w' : World} {v : Value} {us : List Value} (h : RdVals w v us) (hb : Below w.heap.size w w') : RdVals w' v us := by
  obtain ⟨a, cap, h1, h2, h3⟩ := h
  refine ⟨a, cap, h1, h2, ?_⟩
  rcases h3 with h3 | ⟨blk, off, h4, h5⟩
  · exact .inl h3
  · exact .inr ⟨blk, off, h4, fun j hj => by rw [hb.cell (p := ⟨blk, off + j, none⟩) (World.block_lt_of_cell? _ _ (h5 j hj))]; exact h5 j hj⟩
theorem RdAt.vals {k : IntKind} {w : World} {v : Value} {zs : List Int} {b : Nat} (h : RdAt k w v zs b) : RdVals w v (zs.map (.int k)) := by
  obtain ⟨a, cap, h1, h2, -, h3⟩ := h
  refine ⟨a, cap, by rw [List.length_map]; exact h1, by rw [List.length_map]; exact h2, ?_⟩
  rcases h3 with h3 | ⟨off, h4, h5⟩
  · subst h3; exact .inl rfl
  · exact .inr ⟨b, off, h4, fun j hj => by rw [List.length_map] at hj; rw [h5 j hj]; simp⟩
theorem int_one {k : IntKind} {zs : List Int} : ∀ u ∈ zs.map (Value.int k), u.oneCell' = true := by
  intro u hu; obtain ⟨n, -, rfl⟩ := List.mem_map.1 hu; rfl
theorem own_cut {w : World} {B : Nat} {E : TypeId} {n : Nat} {p : Option Addr} {c : Nat} {xs : List Value} (h : w.ownsRow B E 1 (.slice p n c) n xs) : w.ownsRow B E 1 (.slice p 0 c) 0 [] := by
  refine ⟨rfl, ?_⟩
  rcases h.2 with ⟨e, h0⟩ | ⟨g, cap, cur, e, h1, h2, h3, h4, h5, h6⟩
  · injection e with e1 e2 e3; subst e1 e2 e3; exact .inl ⟨rfl, rfl⟩
  · injection e with e1 e2 e3; subst e1 e3; exact .inr ⟨g, _, cur, rfl, h1, h2, Nat.zero_le _, h4, h5, by simp⟩

theorem run_append_vals {P : Program} (w : World) (base : Nat) (t ty e : TypeId) (i : TypeInfo) (z : Value) (bytes : Nat) (ht : P.underlying t = some (.slice e)) (hi : P.info? e = some i) (hz : i.zero = some z) (hsize : i.size = 1) (hby : i.bytes = bytes) (hzs : z.cells.size = 1)
    (v : Value) (n : Nat) (xs : List Value) (hown : w.ownsRow base e 1 v n xs) (x : Value) (us : List Value) (hx : RdVals w x us) (h1 : ∀ u ∈ us, u.oneCell' = true)
    (h63 : n + us.length ≤ maxLen) (hbytes : (n + us.length) * bytes ≤ 140737488355328) (hbase : base ≤ w.heap.size) :
    ∃ v' w', (Builtin.append_ #[t, t] ty #[v, x]).run P w = .ok v' w' ∧ w'.ownsRow base e 1 v' (n + us.length) (xs ++ us) ∧ w.grownBy w' v.ownBlock := by
  obtain ⟨a, cap, rfl, hcap, hc⟩ := hx
  cases a with
  | none =>
    have h0 := hcap.2.2 rfl
    have hu : us = [] := List.length_eq_zero_iff.1 (by omega)
    subst hu
    refine ⟨v, w, ?_, by simpa using hown, ⟨rfl, rfl, rfl, Nat.le_refl _, fun _ _ _ => rfl⟩⟩
    subst h0
    exact run_append_owned_none (P := P) (w := w) base t ty e i 1 ht hi v n xs hown
  | some ad =>
    obtain ⟨v', w', g1, g2, g3, -⟩ := run_append_own (P := P) w base t ty e i z 1 bytes ht hi hz hsize hby hzs (by decide) v n xs hown ad us.length cap us (by simp)
      (by
        intro j u hj
        rcases hc with rfl | ⟨blk, off, ha, hc⟩
        · simp at hj
        · cases ha
          obtain ⟨hl, rfl⟩ := List.getElem?_eq_some_iff.1 hj
          have e : (⟨blk, off, none⟩ : Addr).add j = ⟨blk, off + j, none⟩ := by simp [Addr.add]
          rw [e]; exact hc j hl) h1 h63 hbytes hbase
    exact ⟨v', w', g1, g2, g3⟩
end Go.Proofs.YtbojhbhniollaaaDoor
namespace Go.Proofs.YtbojhbhniollaaaDoor
open Go.RowKit

theorem growR_nil (n : Nat) (w : World) (hn : n ≤ 4194304) :
    Calls Tryd.prog 89 #[.slice none 0 0, .int .i64 n] w fun e w' => ∃ v', e = .returned v' ∧ w'.ownsRow w.heap.size 23 1 v' 0 [] ∧ w.grownBy w' none := by
  obtain ⟨i0, hi, hz0, hz1, hz2⟩ := info_parts info_rowI
  by_cases h0 : n = 0
  · subst h0
    go_enter Tryd.func89, Tryd.ntmps89
    go_wp2_with fail
    go_ret
    exact ⟨_, rfl, World.ownsRow_nil w w.heap.size 23 1, ⟨rfl, rfl, rfl, Nat.le_refl _, fun _ _ _ => rfl⟩⟩
  · have hs : 0 < i0.size := by rw [hz1]; decide
    have hrz : ∀ ty, (Builtin.append_ #[22, 3] ty #[.slice none 0 0, .int .i64 (n : Int)]).run Tryd.prog w =
        .ok (.slice (some ⟨w.heap.size, 0, none⟩) n (grownCap w n 0 23)) (w.drew.alloc (.cells (Builtin.zeroCells #[.slice none 0 0] n ++ Builtin.zeroCells #[.slice none 0 0] (grownCap w n 0 23 - n)) 23)) := fun ty => by
      have h := Lib.run_append_grow_zeros w 22 3 ty 23 i0 (.slice none 0 0) .i64 .i64 Tryd.underlying22 Tryd.underlying3 hi hz0 none 0 0 [] (run_firstCells_none _ _ _ _ _) n (by omega) hs (by omega) (by omega) (by rw [hz2]; omega)
        (by have := growslice_fits (need := 0 + n) (old := 0) (bytes := i0.bytes) (by omega) (by rw [hz2]; omega); exact this)
      simpa [Value.cells] using h
    have hG := grownCap_ge w n 0 23
    have hGm := grownCap_le_maxLen w n 0 23 (by unfold maxLen; omega)
    obtain ⟨G, hGe⟩ : ∃ G, G = grownCap w n 0 23 := ⟨_, rfl⟩
    rw [← hGe] at hrz hG hGm
    have Hm := Lib.hid hGm
    have hG2 : G ≤ 9223372036854775807 := by unfold maxLen at hGm; omega
    clear hGe hGm hi hz0 hz1 hz2 hs
    have hnz : (n : Int) > 0 := by omega
    go_enter Tryd.func89, Tryd.ntmps89
    go_wp2_with (at_builtin; refine Lib.wpList_append_run _ rfl _ _ _ _ rfl _ _ rfl rfl _ _ (hrz _) ?_)
    all_goals
      go_ret
      refine ⟨_, rfl, ⟨rfl, .inr ⟨w.heap.size, G, _, rfl, Nat.le_refl _, heap_alloc_new _ _, Nat.zero_le _, Hm.out, ?_, by simp⟩⟩, ⟨rfl, rfl, rfl, by simp, fun k hk _ => by
        show (w.heap.push _)[k]? = w.heap[k]?
        rw [Array.getElem?_push, if_neg (by omega)]⟩⟩
      simp [Builtin.zeroCells]
      omega

set_option linter.unusedVariables false in
set_option maxRecDepth 100000 in
set_option maxHeartbeats 1000000 in
theorem catR_any (va vb : Value) (ua ub : List Value) (blk off cap : Nat) (w : World) (ha : RdVals w va ua) (hb : RdVals w vb ub) (h0 : w.cell? ⟨blk, off, none⟩ = some va) (h1 : w.cell? ⟨blk, off + 1, none⟩ = some vb)
    (hcap : 2 ≤ cap) (la : ua.length ≤ 1048576) (lb : ub.length ≤ 1048576) (oa : ∀ u ∈ ua, u.oneCell' = true) (ob : ∀ u ∈ ub, u.oneCell' = true) :
    Calls Tryd.prog 63 #[.slice (some ⟨blk, off, none⟩) 2 cap] w fun e w' => ∃ v', e = .returned v' ∧ w'.ownsRow w.heap.size 23 1 v' (ua.length + ub.length) (ua ++ ub) ∧ Below w.heap.size w w' := by
  obtain ⟨i0, hi, hz0, hz1, hz2⟩ := info_parts info_rowI
  obtain ⟨pa, ca, ea, -⟩ := id ha
  obtain ⟨pb, cb, eb, -⟩ := id hb
  subst ea eb
  obtain ⟨na, hna⟩ : ∃ na, na = ua.length := ⟨_, rfl⟩
  obtain ⟨nb, hnb⟩ : ∃ nb, nb = ub.length := ⟨_, rfl⟩
  rw [← hna] at la h0 ha ⊢
  rw [← hnb] at lb h1 hb ⊢
  have Hna := Lib.hid hna
  have Hnb := Lib.hid hnb
  have HA := Lib.hid ha
  have HB := Lib.hid hb
  have HC := Lib.hid (fun wx (hx : Below w.heap.size w wx) => And.intro (show wx.cell? ⟨blk, off, none⟩ = some _ by rw [hx.cell (p := ⟨blk, off, none⟩) (World.block_lt_of_cell? _ _ h0)]; exact h0) (show wx.cell? ⟨blk, off + 1, none⟩ = some _ by rw [hx.cell (p := ⟨blk, off + 1, none⟩) (World.block_lt_of_cell? _ _ h1)]; exact h1))
  have HG := Lib.hid (growR_nil (na + nb) w (by omega))
  have hpc : ((na + nb : Nat) : Int) = (na : Int) + (nb : Int) := by omega
  rw [hpc] at HG
  clear hna hnb ha hb hpc
  go_enter Tryd.func63, Tryd.ntmps63
  go_wp2_with fail
  refine wp_loop_rounds 3 ?_
  rw [rounds_succ]
  go_wp2_with fail
  rw [rounds_succ]
  go_wp2_with fail
  rw [rounds_succ]
  go_wp2_with fail
  refine HG.out.mono ?_
  rintro e w2 ⟨v2, rfl, hown2, hgr2⟩
  obtain ⟨p2, c2, e2⟩ := own_shape hown2
  subst e2
  have B2 : Below w.heap.size w w2 := (Below.refl _ _).grown hgr2 (Nat.le_refl _) (fun k hk => by cases hk)
  obtain ⟨v3, w3, hr3, hown3, hgr3⟩ := run_append_vals w2 w.heap.size 22 22 23 i0 (.slice none 0 0) 24 Tryd.underlying22 hi hz0 hz1 hz2 rfl _ 0 [] hown2 _ ua (HA.out.below B2) oa (by rw [← Hna.out]; unfold maxLen; omega) (by rw [← Hna.out]; omega) B2.size
  have B3 := B2.grown hgr3 B2.size (own_block hown2)
  rw [← Hna.out, Nat.zero_add, List.nil_append] at hown3
  obtain ⟨p3, c3, e3⟩ := own_shape hown3
  subst e3
  obtain ⟨v4, w4, hr4, hown4, hgr4⟩ := run_append_vals w3 w.heap.size 22 22 23 i0 (.slice none 0 0) 24 Tryd.underlying22 hi hz0 hz1 hz2 rfl _ _ _ hown3 _ ub (HB.out.below B3) ob (by rw [← Hnb.out]; unfold maxLen; omega) (by rw [← Hnb.out]; omega) B3.size
  have B4 := B3.grown hgr4 B3.size (own_block hown3)
  rw [← Hnb.out] at hown4
  obtain ⟨p4, c4, e4⟩ := own_shape hown4
  subst e4
  obtain ⟨d0, d1⟩ := HC.out w2 B2
  obtain ⟨d2, d3⟩ := HC.out w3 B3
  have Hown4 := Lib.hid hown4
  have HB4 := Lib.hid B4
  clear hown2 hown3 hown4 hgr2 hgr3 hgr4 B2 B3 B4 hi hz0 hz1 hz2
  have Q3 := Lib.hid hr3
  have Q4 := Lib.hid hr4
  clear hr3 hr4
  go_wp2_with fail
  refine wp_loop_rounds 3 ?_
  rw [rounds_succ]
  go_wp2_with (at_builtin; refine Lib.wpList_append_run _ rfl _ _ _ _ rfl _ _ rfl rfl _ _ Q3.out ?_)
  rw [rounds_succ]
  go_wp2_with (at_builtin; refine Lib.wpList_append_run _ rfl _ _ _ _ rfl _ _ rfl rfl _ _ Q4.out ?_)
  rw [rounds_succ]
  go_wp2_with fail
  go_ret
  exact ⟨_, rfl, Hown4.out, HB4.out⟩
end Go.Proofs.YtbojhbhniollaaaDoor
namespace Go.Proofs.YtbojhbhniollaaaDoor
open Go.RowKit

def isCard (c : Int) : Bool := decide (0 ≤ c ∧ c ≤ 51)
def suitOf (c : Int) : Int := if isCard c then c / 13 else -1
def rankOf (c : Int) : Int := if isCard c then c % 13 else -1
theorem isCard_t {c : Int} (h : isCard c = true) : 0 ≤ c ∧ c ≤ 51 := by unfold isCard at h; simpa using h
theorem isCard_f {c : Int} (h : isCard c = false) : c < 0 ∨ 51 < c := by unfold isCard at h; simp at h; omega
theorem suit_in {c : Int} (h : isCard c = true) : suitOf c = c / 13 := by unfold suitOf; rw [h]; rfl
theorem rank_in {c : Int} (h : isCard c = true) : rankOf c = c % 13 := by unfold rankOf; rw [h]; rfl
theorem suit_out {c : Int} (h : isCard c = false) : suitOf c = -1 := by unfold suitOf; rw [h]; rfl
theorem rank_out {c : Int} (h : isCard c = false) : rankOf c = -1 := by unfold rankOf; rw [h]; rfl
theorem isCard_yes {c : Int} (h : 0 ≤ c ∧ c ≤ 51) : isCard c = true := by unfold isCard; simpa using h
theorem isCard_no {c : Int} (h : ¬ (0 ≤ c ∧ c ≤ 51)) : isCard c = false := by unfold isCard; simp; omega
theorem sIsCard_r (c : Int) (w : World) (r : Bool) (hr : isCard c = r) :
    Calls Tryd.prog 93 #[.int .i64 c] w fun e w' => e = .returned (.bool r) ∧ w = w' := by
  subst hr
  by_cases h0 : 0 ≤ c
  · by_cases h1 : c ≤ 51
    · have e : isCard c = true := by exact isCard_yes ⟨h0, h1⟩
      rw [e]; clear e
      go_enter Tryd.func93, Tryd.ntmps93
      go_wp2
      go_ret
      exact ⟨rfl, rfl⟩
    · have e : isCard c = false := by exact isCard_no (by omega)
      have hd : decide (c ≤ 51) = false := by simp; omega
      rw [e]; clear e
      go_enter Tryd.func93, Tryd.ntmps93
      go_wp2
      go_ret
      exact ⟨rfl, rfl⟩
  · have e : isCard c = false := by exact isCard_no (by omega)
    rw [e]; clear e
    go_enter Tryd.func93, Tryd.ntmps93
    go_wp2
    go_ret
    exact ⟨rfl, rfl⟩
theorem sSuitOf_r (c : Int) (w : World) (r : Int) (hr : suitOf c = r) :
    Calls Tryd.prog 70 #[.int .i64 c] w fun e w' => e = .returned (.int .i64 r) ∧ w = w' := by
  subst hr
  by_cases h0 : 0 ≤ c
  · by_cases h1 : c ≤ 51
    · have e : suitOf c = c / 13 := by exact suit_in (isCard_yes ⟨h0, h1⟩)
      rw [e]; clear e
      go_enter Tryd.func70, Tryd.ntmps70
      go_wp2
      go_ret
      exact ⟨rfl, rfl⟩
    · have e : suitOf c = -1 := by exact suit_out (isCard_no (by omega))
      have hd : decide (c ≤ 51) = false := by simp; omega
      rw [e]; clear e
      go_enter Tryd.func70, Tryd.ntmps70
      go_wp2
      go_ret
      exact ⟨rfl, rfl⟩
  · have e : suitOf c = -1 := by exact suit_out (isCard_no (by omega))
    rw [e]; clear e
    go_enter Tryd.func70, Tryd.ntmps70
    go_wp2
    go_ret
    exact ⟨rfl, rfl⟩
theorem sRankOf_r (c : Int) (w : World) (r : Int) (hr : rankOf c = r) :
    Calls Tryd.prog 72 #[.int .i64 c] w fun e w' => e = .returned (.int .i64 r) ∧ w = w' := by
  subst hr
  by_cases h0 : 0 ≤ c
  · by_cases h1 : c ≤ 51
    · have e : rankOf c = c % 13 := by exact rank_in (isCard_yes ⟨h0, h1⟩)
      rw [e]; clear e
      go_enter Tryd.func72, Tryd.ntmps72
      go_wp2
      go_ret
      exact ⟨rfl, rfl⟩
    · have e : rankOf c = -1 := by exact rank_out (isCard_no (by omega))
      have hd : decide (c ≤ 51) = false := by simp; omega
      rw [e]; clear e
      go_enter Tryd.func72, Tryd.ntmps72
      go_wp2
      go_ret
      exact ⟨rfl, rfl⟩
  · have e : rankOf c = -1 := by exact rank_out (isCard_no (by omega))
    rw [e]; clear e
    go_enter Tryd.func72, Tryd.ntmps72
    go_wp2
    go_ret
    exact ⟨rfl, rfl⟩
theorem isCard_r (c : Int) (w : World) (r : Bool) (hr : isCard c = r) :
    Calls Tryd.prog 121 #[.int .i64 c] w fun e w' => e = .returned (.bool r) ∧ w = w' := by
  subst hr
  by_cases h0 : 0 ≤ c
  · by_cases h1 : c ≤ 51
    · have e : isCard c = true := by exact isCard_yes ⟨h0, h1⟩
      rw [e]; clear e
      go_enter Tryd.func121, Tryd.ntmps121
      go_wp2
      go_ret
      exact ⟨rfl, rfl⟩
    · have e : isCard c = false := by exact isCard_no (by omega)
      have hd : decide (c ≤ 51) = false := by simp; omega
      rw [e]; clear e
      go_enter Tryd.func121, Tryd.ntmps121
      go_wp2
      go_ret
      exact ⟨rfl, rfl⟩
  · have e : isCard c = false := by exact isCard_no (by omega)
    rw [e]; clear e
    go_enter Tryd.func121, Tryd.ntmps121
    go_wp2
    go_ret
    exact ⟨rfl, rfl⟩
theorem suitOf_r (c : Int) (w : World) (r : Int) (hr : suitOf c = r) :
    Calls Tryd.prog 77 #[.int .i64 c] w fun e w' => e = .returned (.int .i64 r) ∧ w = w' := by
  subst hr
  by_cases h0 : 0 ≤ c
  · by_cases h1 : c ≤ 51
    · have e : suitOf c = c / 13 := by exact suit_in (isCard_yes ⟨h0, h1⟩)
      rw [e]; clear e
      go_enter Tryd.func77, Tryd.ntmps77
      go_wp2
      go_ret
      exact ⟨rfl, rfl⟩
    · have e : suitOf c = -1 := by exact suit_out (isCard_no (by omega))
      have hd : decide (c ≤ 51) = false := by simp; omega
      rw [e]; clear e
      go_enter Tryd.func77, Tryd.ntmps77
      go_wp2
      go_ret
      exact ⟨rfl, rfl⟩
  · have e : suitOf c = -1 := by exact suit_out (isCard_no (by omega))
    rw [e]; clear e
    go_enter Tryd.func77, Tryd.ntmps77
    go_wp2
    go_ret
    exact ⟨rfl, rfl⟩
theorem rankOf_r (c : Int) (w : World) (r : Int) (hr : rankOf c = r) :
    Calls Tryd.prog 122 #[.int .i64 c] w fun e w' => e = .returned (.int .i64 r) ∧ w = w' := by
  subst hr
  by_cases h0 : 0 ≤ c
  · by_cases h1 : c ≤ 51
    · have e : rankOf c = c % 13 := by exact rank_in (isCard_yes ⟨h0, h1⟩)
      rw [e]; clear e
      go_enter Tryd.func122, Tryd.ntmps122
      go_wp2
      go_ret
      exact ⟨rfl, rfl⟩
    · have e : rankOf c = -1 := by exact rank_out (isCard_no (by omega))
      have hd : decide (c ≤ 51) = false := by simp; omega
      rw [e]; clear e
      go_enter Tryd.func122, Tryd.ntmps122
      go_wp2
      go_ret
      exact ⟨rfl, rfl⟩
  · have e : rankOf c = -1 := by exact rank_out (isCard_no (by omega))
    rw [e]; clear e
    go_enter Tryd.func122, Tryd.ntmps122
    go_wp2
    go_ret
    exact ⟨rfl, rfl⟩
theorem sIsCard_any (c : Int) (w : World) :
    Calls Tryd.prog 93 #[.int .i64 c] w fun e w' => e = .returned (.bool (isCard c)) ∧ w = w' := sIsCard_r c w _ rfl
end Go.Proofs.YtbojhbhniollaaaDoor
