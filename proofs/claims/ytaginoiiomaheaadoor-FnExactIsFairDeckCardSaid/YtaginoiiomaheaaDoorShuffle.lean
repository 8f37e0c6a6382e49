/-
  Shuffled, the program's side: a range over swapsFor's function; two stores a round.
-/
import Derived.Test.YtaginoiiomaheaaDoorSwaps
namespace Go.Proofs.YtaginoiiomaheaaDoor
open Go.RowKit
attribute [local go_sem] Oper.semAt_some

theorem row_set {w : World} {b : Nat} {c : Array Value} {t : TypeId} {fr : Nat × Nat} (h : w.heap[b]? = some (.cells c t fr)) (i : Nat) (v : Value) : (w.setCell ⟨b, i, none⟩ v).heap[b]? = some (.cells (c.setIfInBounds i v) t fr) := by
  simp [World.setCell, Array.getElem?_modify, h]

theorem swap_row {W : World} {base g cap n : Nat} {E : TypeId} {cur : Array Value} {ys : List Int} {i j : Nat} {p q : Int} (hyl : ys.length = n) (hg : base ≤ g) (hh : W.heap[g]? = some (.cells cur E (0, 0))) (hnc : n ≤ cap) (hcm : cap ≤ maxLen) (hcs : cur.size = cap * 1)
    (htk : cur.toList.take (n * 1) = ys.map (Value.int .i64)) (hp : ys.getD i 0 = p) (hq : ys.getD j 0 = q) :
    ((W.setCell ⟨g, i, none⟩ (.int .i64 q)).setCell ⟨g, j, none⟩ (.int .i64 p)).ownsRow base E 1 (.slice (some ⟨g, 0, none⟩) n cap) n ((swapAt ys i j).map (Value.int .i64)) := by
  refine ⟨by rw [List.length_map, swapAt_len, hyl]; omega, .inr ⟨g, cap, _, rfl, hg, row_set (row_set hh i _) j _, hnc, hcm, by simp [hcs], ?_⟩⟩
  rw [Array.toList_setIfInBounds, Array.toList_setIfInBounds, List.take_set, List.take_set, htk, swapAt, hp, hq, List.map_set, List.map_set]

set_option maxRecDepth 100000 in
set_option maxHeartbeats 2000000 in
theorem shuffled_any (a0 a1 : Addr) (v : Value) (zs : List Int) (b : Nat) (seed : Int) (w : World) (h : RdAt .i64 w v zs b) (hl : zs.length ≤ 1000000000) (wf : (Lit.int .i64 seed).wf = true) (hS : Sent a0 a1 w) :
    Calls Tryd.prog 30 #[v, .int .i64 seed] w fun e w' => ∃ v', e = .returned v' ∧ w'.ownsRow w.heap.size 3 1 v' zs.length ((shuf seed (downFrom (zs.length - 1)) zs).map (Value.int .i64)) ∧ Below w.heap.size w w' := by
  have Hc := Lib.hid (copyInts_own v zs b w h (by omega))
  refine (callsIn_wide (n := 5)).1 ?_
  refine callsIn_of_wp_marks Tryd.func30 rfl trivial ?_ rfl
  simp only [Tryd.ntmps30, List.size_toArray, List.length_cons, List.length_nil, Nat.reduceAdd, Nat.reduceSub, Array.replicate_succ, Array.replicate_zero, List.push_toArray, List.append_toArray, List.nil_append, List.cons_append]
  gi_wp2
  refine ⟨trivial, ?_⟩
  refine (callsIn_wide.2 Hc.out).mono ?_
  rintro e w1 ⟨v', rfl, hown, hB1⟩
  obtain ⟨ag, cap, rfl⟩ := own_shape hown
  gi_wp2
  refine ⟨trivial, ?_⟩
  refine (callsIn_wide.2 (swapsFor_any _ _ _)).mono ?_
  rintro e w3 ⟨rfl, hw3⟩
  have hsz2 : (w1.alloc (.cells #[.slice ag zs.length cap] 22)).heap.size = w1.heap.size + 1 := by simp
  have hsz3 : w3.heap.size = w1.heap.size + 3 := by rw [hw3]; simp
  have hbox1 : Boxed w3 w1.heap.size 22 (.slice ag zs.length cap) := by rw [hw3]; exact ((Boxed.new w1 22 _).alloc _).alloc _
  have hcn : w3.cell? ⟨w1.heap.size + 1, 0, none⟩ = some (.int .i64 (zs.length : Int)) := by
    have := ((Boxed.new (w1.alloc (.cells #[.slice ag zs.length cap] 22)) 3 (.int .i64 (zs.length : Int))).alloc (.cells #[.int .i64 seed] 3)).cell
    rw [hw3]; rw [hsz2] at this; exact this
  have hsd : w3.cell? ⟨w1.heap.size + 2, 0, none⟩ = some (.int .i64 seed) := by
    have := (Boxed.new ((w1.alloc (.cells #[.slice ag zs.length cap] 22)).alloc (.cells #[.int .i64 (zs.length : Int)] 3)) 3 (.int .i64 seed)).cell
    rw [hw3]; rw [World.size_alloc, hsz2] at this; exact this
  have hB13 : Below w1.heap.size w1 w3 := by rw [hw3]; exact (((Below.refl _ w1).alloc (Nat.le_refl _) _).alloc (by simp) _).alloc (by simp; omega) _
  have hown3 := own_below hown hB13
  have hB3 : Below w.heap.size w w3 := hB1.trans (hB13.mono hB1.size)
  have hS3 : ∀ W, Below w.heap.size w3 W → Sent a0 a1 W := fun W hW => hS.below (hB3.trans hW) (Nat.le_refl _)
  have hle := hB1.size
  rw [hsz2]
  clear hw3 Hc
  gi_wp2
  refine wpIn_rangeFunc_ownF rfl (by omega) (gf := 49) (lb := #[.pointer (some ⟨w1.heap.size + 1, 0, none⟩), .pointer (some ⟨w1.heap.size + 2, 0, none⟩)]) rfl trivial (enters_of Tryd.func49 (by kernel_rfl) rfl)
    (swaps_stops 4 (by omega) a0 a1 w.heap.size (w1.heap.size + 1) (w1.heap.size + 2) zs.length seed w3 hl wf hB3.size hcn hsd hS3) swapKeeps_t
    (fun W l o o' hlo hlq ho hw' => ⟨fun hc => cell_kept hc (grownBy_putObj' W l o') (fun r e => by cases e; exact ⟨o, hlq, ho⟩), belowK_b (w := w3) hB3.size W l o o' hlo hlq ho hw'⟩) (Below.refl _ _) (fun _ => rfl)
    (fun pre W => (∃ u, Boxed W w1.heap.size 22 u ∧ W.ownsRow w.heap.size 3 1 u zs.length ((shuf seed (pre.map (·.1)) zs).map (Value.int .i64)) ∧ u = .slice ag zs.length cap) ∧ Below w.heap.size w W)
    (fun _ _ _ => False)
    (OwnFrom.and (Own.from (holdsRow_own w.heap.size w1.heap.size 22 3 1 (fun _ => zs.length) (fun pre : List (Pl zs.length) => (shuf seed (pre.map (·.1)) zs).map (Value.int .i64)) (fun _ u => u = .slice ag zs.length cap)) _) (ownFrom_below (Nat.le_refl _) hB3.size))
    (fun _ _ _ _ _ hs _ _ => hs)
    ⟨⟨_, hbox1, hown3, rfl⟩, hB3⟩
    (fun x => { tmps := #[v, .int .i64 seed, undef, undef, .slice none 0 0, .pointer (some ⟨w1.heap.size, 0, none⟩), .int .i64 (x.1 : Int), .int .i64 (jOf seed x.1), v, .slice ag zs.length cap, .slice ag zs.length cap, .int .i64 (zs.length : Int), .int .i64 seed, .func (.func 49) #[] #[.pointer (some ⟨w1.heap.size + 1, 0, none⟩), .pointer (some ⟨w1.heap.size + 2, 0, none⟩)], .int .i64 (x.1 : Int), .int .i64 (jOf seed x.1), undef, undef, undef, undef, undef, undef, undef, undef, undef, undef, undef, undef, undef, undef, undef], defers := [] }) ?assign ?body ?done ?stop
  case assign =>
    intro l x W K hK
    gi_wp2
    exact hK
  case body =>
    rintro l pre ⟨i, hi1, hik⟩ W ⟨⟨u, hbx, hrow, rfl⟩, hBW⟩ _
    have hjb := jOf_bd seed i (by omega)
    obtain ⟨j, hj⟩ : ∃ j : Nat, jOf seed i = (j : Int) := ⟨(jOf seed i).toNat, by omega⟩
    obtain ⟨ys, hys⟩ : ∃ ys, shuf seed (pre.map (·.1)) zs = ys := ⟨_, rfl⟩
    have hyl : ys.length = zs.length := by rw [← hys, shuf_len]
    rw [hys] at hrow
    obtain ⟨hr1, hr2⟩ := hrow
    rcases hr2 with ⟨-, hr2⟩ | ⟨g, cap', cur, hge, hg, hh, hnc, hcm, hcs, htk⟩
    · omega
    cases hge
    have hjl : j < zs.length := by omega
    have hat : ∀ q, q < zs.length → W.cell? ⟨g, q, none⟩ = some (.int .i64 (ys.getD q 0)) := by
      intro q hq
      have h1 : (cur.toList.take (zs.length * 1))[q]? = some (.int .i64 (ys.getD q 0)) := by
        rw [htk, List.getElem?_map, List.getElem?_eq_getElem (by omega), List.getD_eq_getElem?_getD, List.getElem?_eq_getElem (by omega)]; rfl
      rw [List.getElem?_take_of_lt (by omega), Array.getElem?_toList] at h1
      simp only [World.cell?, hh]; exact h1
    have hci := hat i hik
    have hcj := hat j hjl
    have hcl := hbx.cell
    have hgb : g ≠ w1.heap.size := fun e => by
      rw [e] at hh
      rw [show W.heap[w1.heap.size]? = _ from hbx] at hh
      simp at hh
    obtain ⟨p, hp⟩ : ∃ p, ys.getD i 0 = p := ⟨_, rfl⟩
    obtain ⟨q, hq⟩ : ∃ q, ys.getD j 0 = q := ⟨_, rfl⟩
    rw [hp] at hci
    rw [hq] at hcj
    have hij : (i : Int) < (zs.length : Int) := by omega
    have hjj : (j : Int) < (zs.length : Int) := by omega
    have hfz : ∀ q, W.frozen? ⟨g, q, none⟩ = false := fun q => by simp [World.frozen?, hh]
    have hfi := hfz i
    have hfj := hfz j
    have hci2 : (W.drew.setCell ⟨g, i, none⟩ (.int .i64 q)).cell? ⟨g, j, none⟩ = some (.int .i64 q) := by
      by_cases hij' : i = j
      · subst hij'; exact World.cell?_setCell_same' _ _ _ (by rw [show W.drew.cell? ⟨g, i, none⟩ = _ from hci]; rfl)
      · rw [World.cell?_setCell_other _ _ _ _ (by intro e; cases e; exact hij' rfl)]; exact hcj
    have hfj2 : (W.drew.setCell ⟨g, i, none⟩ (.int .i64 q)).frozen? ⟨g, j, none⟩ = false := by rw [World.frozen?_setCell]; exact hfj
    have hci3 : (W.setCell ⟨g, i, none⟩ (.int .i64 q)).cell? ⟨g, j, none⟩ = some (.int .i64 q) := hci2
    have hfj3 : (W.setCell ⟨g, i, none⟩ (.int .i64 q)).frozen? ⟨g, j, none⟩ = false := hfj2
    have hHb : (W.drew.setCell ⟨g, i, none⟩ (.int .i64 q)).cell? ⟨w1.heap.size, 0, none⟩ = some (.slice (some ⟨g, 0, none⟩) zs.length cap) := by rw [World.cell?_setCell_far _ _ _ _ hgb]; exact hcl
    have hHc : ((W.drew.setCell ⟨g, i, none⟩ (.int .i64 q)).setCell ⟨g, j, none⟩ (.int .i64 p)).cell? ⟨w1.heap.size, 0, none⟩ = some (.slice (some ⟨g, 0, none⟩) zs.length cap) := by rw [World.cell?_setCell_far _ _ _ _ hgb]; exact hHb
    have hrow2 := swap_row (W := W.drew) (j := j) hyl hg hh hnc hcm hcs htk hp hq
    have hbx2 : Boxed ((W.drew.setCell ⟨g, i, none⟩ (.int .i64 q)).setCell ⟨g, j, none⟩ (.int .i64 p)) w1.heap.size 22 (.slice (some ⟨g, 0, none⟩) zs.length cap) := by
      unfold Boxed
      rw [Below.heap_setCell _ _ _ _ (Ne.symm hgb), Below.heap_setCell _ _ _ _ (Ne.symm hgb)]; exact hbx
    have hKO : KeepsOthers W ((W.drew.setCell ⟨g, i, none⟩ (.int .i64 q)).setCell ⟨g, j, none⟩ (.int .i64 p)) := ((KeepsOthers.drew W).trans (KeepsOthers.setCell _ _ _)).trans (KeepsOthers.setCell _ _ _)
    have hBW2 : Below w.heap.size W ((W.drew.setCell ⟨g, i, none⟩ (.int .i64 q)).setCell ⟨g, j, none⟩ (.int .i64 p)) := ((Below.refl _ W).drew.setCell (p := ⟨g, i, none⟩) hg _).setCell (p := ⟨g, j, none⟩) hg _
    have hgs : g ≠ w1.heap.size + 2 := by
      rcases hown.2 with ⟨h1, -⟩ | ⟨g', _, _, e, -, hh', -⟩
      · cases h1
      · cases e
        have := (Array.getElem?_eq_some_iff.1 hh').1
        omega
    have hkeep : SwapKeeps (w1.heap.size + 2) seed w.heap.size W ((W.drew.setCell ⟨g, i, none⟩ (.int .i64 q)).setCell ⟨g, j, none⟩ (.int .i64 p)) := ⟨fun e => by rw [World.cell?_setCell_far _ _ _ _ hgs, World.cell?_setCell_far _ _ _ _ hgs]; exact e, hBW2⟩
    have hshf : shuf seed ((pre ++ [⟨i, hi1, hik⟩] : List (Pl zs.length)).map (·.1)) zs = swapAt ys i j := by
      rw [List.map_append, ← hys]; simp only [List.map_cons, List.map_nil]; rw [shuf_snoc, shufStep, hj, Int.toNat_natCast]
    have hfin : KeepsOthers W ((W.drew.setCell ⟨g, i, none⟩ (.int .i64 q)).setCell ⟨g, j, none⟩ (.int .i64 p)) ∧ SwapKeeps (w1.heap.size + 2) seed w.heap.size W ((W.drew.setCell ⟨g, i, none⟩ (.int .i64 q)).setCell ⟨g, j, none⟩ (.int .i64 p)) ∧
        (∃ u, Boxed ((W.drew.setCell ⟨g, i, none⟩ (.int .i64 q)).setCell ⟨g, j, none⟩ (.int .i64 p)) w1.heap.size 22 u ∧ ((W.drew.setCell ⟨g, i, none⟩ (.int .i64 q)).setCell ⟨g, j, none⟩ (.int .i64 p)).ownsRow w.heap.size 3 1 u zs.length ((shuf seed ((pre ++ [⟨i, hi1, hik⟩] : List (Pl zs.length)).map (·.1)) zs).map (Value.int .i64)) ∧ u = .slice (some ⟨g, 0, none⟩) zs.length cap) ∧ Below w.heap.size w ((W.drew.setCell ⟨g, i, none⟩ (.int .i64 q)).setCell ⟨g, j, none⟩ (.int .i64 p)) :=
      ⟨hKO, hkeep, ⟨_, hbx2, by rw [hshf]; exact hrow2, rfl⟩, hBW.trans hBW2⟩
    have Hfin := Lib.hid hfin
    clear hfin hKO hkeep hrow2 hbx2 hBW2 hshf hat hr1 htk
    dsimp only
    rw [hj]
    gi_wp2
    refine region_tame (fun W' => W'.cell? ⟨w1.heap.size, 0, none⟩ = some (.slice (some ⟨g, 0, none⟩) zs.length cap)) (fun h => by obtain ⟨_, _, h⟩ := h; exact h) (by kernel_rfl) (by kernel_rfl) hcl (fun hHeld => ?_)
    refine wpAnyH_take (i := 0) (v := .slice (some ⟨g, 0, none⟩) zs.length cap) rfl (by kernel_rfl) (by kernel_rfl) (by kernel_rfl) (fun _ _ _ h => h) (Or.inl ⟨by rfl, ?_⟩) hHeld ?_
    · intro wq hSw; go_simp
    try simp only [Act.put, List.setIfInBounds_toArray, List.set_cons_zero, List.set_cons_succ]
    refine wpAnyH_take (i := 1) (v := .int .i64 (i : Int)) rfl (by kernel_rfl) (by kernel_rfl) (by kernel_rfl) (fun _ _ _ h => h) (Or.inl ⟨by rfl, ?_⟩) hHeld ?_
    · intro wq hSw; go_simp
    try simp only [Act.put, List.setIfInBounds_toArray, List.set_cons_zero, List.set_cons_succ]
    refine wpAnyH_take (i := 2) (v := .slice (some ⟨g, 0, none⟩) zs.length cap) rfl (by kernel_rfl) (by kernel_rfl) (by kernel_rfl) (fun _ _ _ h => h) (Or.inl ⟨by rfl, ?_⟩) hHeld ?_
    · intro wq hSw; go_simp
    try simp only [Act.put, List.setIfInBounds_toArray, List.set_cons_zero, List.set_cons_succ]
    refine wpAnyH_take (i := 3) (v := .int .i64 (j : Int)) rfl (by kernel_rfl) (by kernel_rfl) (by kernel_rfl) (fun _ _ _ h => h) (Or.inl ⟨by rfl, ?_⟩) hHeld ?_
    · intro wq hSw; go_simp
    try simp only [Act.put, List.setIfInBounds_toArray, List.set_cons_zero, List.set_cons_succ]
    refine wpAnyH_take (i := 4) (v := .slice (some ⟨g, 0, none⟩) zs.length cap) rfl (by kernel_rfl) (by kernel_rfl) (by kernel_rfl) (fun _ _ _ h => h) (Or.inl ⟨by rfl, ?_⟩) hHeld ?_
    · intro wq hSw; go_simp
    try simp only [Act.put, List.setIfInBounds_toArray, List.set_cons_zero, List.set_cons_succ]
    refine wpAnyH_take (i := 5) (v := .int .i64 (j : Int)) rfl (by kernel_rfl) (by kernel_rfl) (by kernel_rfl) (fun _ _ _ h => h) (Or.inl ⟨by rfl, ?_⟩) hHeld ?_
    · intro wq hSw; go_simp
    try simp only [Act.put, List.setIfInBounds_toArray, List.set_cons_zero, List.set_cons_succ]
    refine wpAnyH_take (i := 6) (v := .pointer (some ⟨g, j, none⟩)) rfl (by kernel_rfl) (by kernel_rfl) (by kernel_rfl) (fun _ _ _ h => h) (Or.inl ⟨by rfl, ?_⟩) hHeld ?_
    · intro wq hSw; go_simp
    try simp only [Act.put, List.setIfInBounds_toArray, List.set_cons_zero, List.set_cons_succ]
    refine wpAnyH_take (i := 8) (v := .slice (some ⟨g, 0, none⟩) zs.length cap) rfl (by kernel_rfl) (by kernel_rfl) (by kernel_rfl) (fun _ _ _ h => h) (Or.inl ⟨by rfl, ?_⟩) hHeld ?_
    · intro wq hSw; go_simp
    try simp only [Act.put, List.setIfInBounds_toArray, List.set_cons_zero, List.set_cons_succ]
    refine wpAnyH_take (i := 9) (v := .int .i64 (i : Int)) rfl (by kernel_rfl) (by kernel_rfl) (by kernel_rfl) (fun _ _ _ h => h) (Or.inl ⟨by rfl, ?_⟩) hHeld ?_
    · intro wq hSw; go_simp
    try simp only [Act.put, List.setIfInBounds_toArray, List.set_cons_zero, List.set_cons_succ]
    refine wpAnyH_take (i := 10) (v := .pointer (some ⟨g, i, none⟩)) rfl (by kernel_rfl) (by kernel_rfl) (by kernel_rfl) (fun _ _ _ h => h) (Or.inl ⟨by rfl, ?_⟩) hHeld ?_
    · intro wq hSw; go_simp
    try simp only [Act.put, List.setIfInBounds_toArray, List.set_cons_zero, List.set_cons_succ]
    refine wpAnyH_ready (rs := [7, 11]) (by kernel_rfl) (by simp) ?_
    refine AllReadyH.cons rfl (fun K hK => ?_) (AllReadyH.cons rfl (fun K hK => ?_) AllReadyH.nil)
    · go_simp
      refine hK.out _ _ hHeld (fun hHeld => ?_)
      clear hK K
      try simp only [Act.put, List.setIfInBounds_toArray, List.set_cons_zero, List.set_cons_succ]
      refine wpAnyH_ready (rs := [11]) (by kernel_rfl) (by simp) ?_
      refine AllReadyH.cons rfl (fun K hK => ?_) AllReadyH.nil
      go_simp
      refine hK.out _ _ hHeld (fun hHeld => ?_)
      clear hK K
      try simp only [Act.put, List.setIfInBounds_toArray, List.set_cons_zero, List.set_cons_succ]
      refine wpAnyH_take (i := 12) (v := .pointer (some ⟨g, i, none⟩)) rfl (by kernel_rfl) (by kernel_rfl) (by kernel_rfl) (fun _ _ _ h => h) (Or.inl ⟨by rfl, ?_⟩) hHeld ?_
      · intro wq hSw; go_simp
      try simp only [Act.put, List.setIfInBounds_toArray, List.set_cons_zero, List.set_cons_succ]
      refine wpAnyH_ready (rs := [13]) (by kernel_rfl) (by simp) ?_
      refine AllReadyH.cons rfl (fun K hK => ?_) AllReadyH.nil
      go_simp
      refine hK.out _ _ hHb (fun hHeld => ?_)
      clear hK K
      try simp only [Act.put, List.setIfInBounds_toArray, List.set_cons_zero, List.set_cons_succ]
      refine wpAnyH_take (i := 14) (v := .pointer (some ⟨g, j, none⟩)) rfl (by kernel_rfl) (by kernel_rfl) (by kernel_rfl) (fun _ _ _ h => h) (Or.inl ⟨by rfl, ?_⟩) hHeld ?_
      · intro wq hSw; go_simp
      try simp only [Act.put, List.setIfInBounds_toArray, List.set_cons_zero, List.set_cons_succ]
      refine wpAnyH_ready (rs := [15]) (by kernel_rfl) (by simp) ?_
      refine AllReadyH.cons rfl (fun K hK => ?_) AllReadyH.nil
      go_simp
      refine hK.out _ _ hHc (fun hHeld => ?_)
      clear hK K
      refine wpAnyH_done (by kernel_rfl) ?_ _
      gi_wp2
      exact Hfin.out
    · go_simp
      refine hK.out _ _ hHeld (fun hHeld => ?_)
      clear hK K
      try simp only [Act.put, List.setIfInBounds_toArray, List.set_cons_zero, List.set_cons_succ]
      refine wpAnyH_ready (rs := [7]) (by kernel_rfl) (by simp) ?_
      refine AllReadyH.cons rfl (fun K hK => ?_) AllReadyH.nil
      go_simp
      refine hK.out _ _ hHeld (fun hHeld => ?_)
      clear hK K
      try simp only [Act.put, List.setIfInBounds_toArray, List.set_cons_zero, List.set_cons_succ]
      refine wpAnyH_take (i := 12) (v := .pointer (some ⟨g, i, none⟩)) rfl (by kernel_rfl) (by kernel_rfl) (by kernel_rfl) (fun _ _ _ h => h) (Or.inl ⟨by rfl, ?_⟩) hHeld ?_
      · intro wq hSw; go_simp
      try simp only [Act.put, List.setIfInBounds_toArray, List.set_cons_zero, List.set_cons_succ]
      refine wpAnyH_ready (rs := [13]) (by kernel_rfl) (by simp) ?_
      refine AllReadyH.cons rfl (fun K hK => ?_) AllReadyH.nil
      go_simp
      refine hK.out _ _ hHb (fun hHeld => ?_)
      clear hK K
      try simp only [Act.put, List.setIfInBounds_toArray, List.set_cons_zero, List.set_cons_succ]
      refine wpAnyH_take (i := 14) (v := .pointer (some ⟨g, j, none⟩)) rfl (by kernel_rfl) (by kernel_rfl) (by kernel_rfl) (fun _ _ _ h => h) (Or.inl ⟨by rfl, ?_⟩) hHeld ?_
      · intro wq hSw; go_simp
      try simp only [Act.put, List.setIfInBounds_toArray, List.set_cons_zero, List.set_cons_succ]
      refine wpAnyH_ready (rs := [15]) (by kernel_rfl) (by simp) ?_
      refine AllReadyH.cons rfl (fun K hK => ?_) AllReadyH.nil
      go_simp
      refine hK.out _ _ hHc (fun hHeld => ?_)
      clear hK K
      refine wpAnyH_done (by kernel_rfl) ?_ _
      gi_wp2
      exact Hfin.out
  case done =>
    rintro D xs W hD hSx ⟨⟨u, hbx, hrow, rfl⟩, hBW⟩ hK
    have hcl := hbx.cell
    gi_wp2
    refine ⟨by simp, .inl ⟨_, _, rfl, run_takeDeferred hK, ?_⟩⟩
    exact ⟨_, results_tmp rfl _ _ _, _, rfl, ownsRow_putObj (by rw [← hSx]; exact hrow) _ hK rfl, hBW.trans (belowK_b (w := w3) hB3.size W D _ _ hD hK rfl rfl)⟩
  case stop =>
    rintro D c pre W _ _ hx _
    exact hx.elim
end Go.Proofs.YtaginoiiomaheaaDoor
