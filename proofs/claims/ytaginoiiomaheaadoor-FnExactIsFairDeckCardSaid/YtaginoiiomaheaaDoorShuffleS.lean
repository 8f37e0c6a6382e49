/-
  Shuffled, the model's side: a loop that exchanges in its own row.
-/
import Derived.Test.YtaginoiiomaheaaDoorShuffle
namespace Go.Proofs.YtaginoiiomaheaaDoor
open Go.RowKit

def shufI (seed : Int) (zs : List Int) : List Int := shuf seed (downFrom (zs.length - 1)) zs
theorem shufI_len (seed : Int) (zs : List Int) : (shufI seed zs).length = zs.length := shuf_len _ _ _
theorem downFrom_le (k : Nat) : ∀ i ∈ downFrom k, i ≤ k := by
  induction k with
  | zero => intro i hi; cases hi
  | succ k ih =>
    intro i hi
    rcases List.mem_cons.1 hi with rfl | hi
    · omega
    · have := ih i hi; omega
theorem shuf_mem (seed : Int) (p : Int → Prop) (is : List Nat) : ∀ zs : List Int, (∀ i ∈ is, i < zs.length ∧ i ≤ 1000000000) → (∀ n ∈ zs, p n) → ∀ n ∈ shuf seed is zs, p n := by
  induction is with
  | nil => intro zs _ h n hn; exact h n hn
  | cons i is ih =>
    intro zs hi h n hn
    have h1 := hi i (List.mem_cons_self ..)
    have hj := jOf_bd seed i h1.2
    have hl : (shufStep seed zs i).length = zs.length := swapAt_len _ _ _
    exact ih (shufStep seed zs i) (fun q hq => by rw [hl]; exact hi q (List.mem_cons_of_mem _ hq)) (swapAt_mem zs i (jOf seed i).toNat h1.1 (by omega) p h) n hn
theorem shufI_wf (seed : Int) (zs : List Int) (hl : zs.length ≤ 1000000000) (h : ∀ n ∈ zs, (Lit.int .i64 n).wf = true) : ∀ n ∈ shufI seed zs, (Lit.int .i64 n).wf = true := by
  refine shuf_mem seed _ _ zs (fun i hi => ?_) h
  have := downFrom_le _ i hi
  cases zs with
  | nil => simp [downFrom] at hi
  | cons z zs => simp at this hl ⊢; omega

set_option maxRecDepth 100000 in
set_option maxHeartbeats 2000000 in
theorem sShuffled_any (v : Value) (zs : List Int) (b : Nat) (seed : Int) (w : World) (h : RdAt .i64 w v zs b) (hl : zs.length ≤ 1000000000) (wf : (Lit.int .i64 seed).wf = true) :
    Calls Tryd.prog 26 #[v, .int .i64 seed] w fun e w' => ∃ v', e = .returned v' ∧ w'.ownsRow w.heap.size 3 1 v' zs.length ((shuf seed (downFrom (zs.length - 1)) zs).map (Value.int .i64)) ∧ Below w.heap.size w w' := by
  obtain ⟨i0, hi, hz0, hz1, hz2⟩ := info_parts info_i64
  have hown0 := World.ownsRow_lit (base := w.heap.size) (e := 3) (size := 1) w #[] 0 (Nat.le_refl _) (Nat.zero_le _) rfl
  have ha : RdAt .i64 (w.alloc (.cells #[] 3)) v zs b := h.below ((Below.refl _ _).alloc (Nat.le_refl _) _)
  obtain ⟨p0, cap0, hv0, -⟩ := id h
  have hw1 : IntKind.i64.wrap ((zs.length : Int) - 1) = (zs.length : Int) - 1 := IntWalk.i64_in _ (by omega)
  go_enter Tryd.func26, Tryd.ntmps26
  subst hv0
  go_wp2_with (at_builtin; refine wpList_append_rd _ rfl _ _ 22 rfl w.heap.size 3 i0 (.int .i64 0) 8 Tryd.underlying22 hi hz0 hz1 hz2 rfl _ _ _ rfl hown0 .i64 _ zs b rfl ha ?d3 ?d4 (by simp) ?_)
  case d3 => unfold maxLen; omega
  case d4 => omega
  intro v1 w1 hown hgr
  have hb1 : Below w.heap.size w w1 := ((Below.refl _ _).alloc (Nat.le_refl _) _).grown hgr (by simp) (own_block hown0)
  try simp only [Nat.zero_add, List.nil_append] at hown
  clear hgr ha hown0
  obtain ⟨ag, cap, rfl⟩ := own_shape hown
  obtain ⟨n, hn⟩ : ∃ n, zs.length = n := ⟨_, rfl⟩
  rw [hn] at hown hw1 hl ⊢
  have Hn := Lib.hid hn
  clear hn
  go_wp2_with fail
  go_loopw [6, 7, 8] (fun i _ _ wr => ∃ (t : Int) (don : List Nat), i = .int .i64 t ∧ -1 ≤ t ∧ t < (n : Int) ∧ Hid (don ++ downFrom t.toNat = downFrom (n - 1)) ∧ wr.ownsRow w.heap.size 3 1 (.slice ag n cap) n ((shuf seed don zs).map (Value.int .i64)) ∧ Below w.heap.size w wr) (fun i _ _ _ => (intOf i + 1).toNat)
  case atStart =>
    refine ⟨(n : Int) - 1, [], rfl, by omega, by omega, Lib.hid ?_, hown, hb1⟩
    rw [show ((n : Int) - 1).toNat = n - 1 by omega]; rfl
  case round =>
    obtain ⟨t, don, rfl, ht0, ht1, hdon, hrow, hB⟩ := hrel
    by_cases ht : 1 ≤ t
    · obtain ⟨i, rfl⟩ : ∃ i : Nat, t = (i : Int) := ⟨t.toNat, by omega⟩
      have hi1 : 1 ≤ i := by omega
      have hik : i < n := by omega
      have hjb := jOf_bd seed i (by omega)
      obtain ⟨j, hj⟩ : ∃ j : Nat, jOf seed i = (j : Int) := ⟨(jOf seed i).toNat, by omega⟩
      have hown0 := World.ownsRow_lit (base := wr.heap.size) (e := 3) (size := 1) wr #[.int .i64 seed, .int .i64 (i : Int)] 2 (Nat.le_refl _) (by unfold maxLen; omega) rfl
      obtain ⟨b2, -, hw2⟩ := own_wr (zs := [seed, (i : Int)]) hown0 (by intro x hx; simp at hx; rcases hx with rfl | rfl; exact wf; exact WalkArith.wf_i64 (by omega))
      have B0 := fun o => (Below.refl wr.heap.size wr).alloc (Nat.le_refl _) o
      have Hc := Lib.hid (sHash_any _ [seed, (i : Int)] b2 _ hw2.rd (by simp))
      have hrowA := own_below hrow (B0 (.cells #[.int .i64 seed, .int .i64 (i : Int)] 3))
      have hBA := hB.trans ((B0 (.cells #[.int .i64 seed, .int .i64 (i : Int)] 3)).mono hB.size)
      have hbh := hashFrom_bd 11 [seed, (i : Int)] (by omega)
      have Hm := Lib.hid (fun wx => sMod_any (hashI [seed, (i : Int)]) ((i : Int) + 1) wx (WalkArith.wf_i64 (by unfold hashI; omega)))
      have Hj : Hid (modI (hashI [seed, (i : Int)]) ((i : Int) + 1) = (j : Int)) := Lib.hid hj
      have hw2 : IntKind.i64.wrap ((i : Int) + 1) = (i : Int) + 1 := IntWalk.i64_in _ (by omega)
      have hw3 : IntKind.i64.wrap ((i : Int) - 1) = (i : Int) - 1 := IntWalk.i64_in _ (by omega)
      clear hown0 hrow hbh
      obtain ⟨ys, hys⟩ : ∃ ys, shuf seed don zs = ys := ⟨_, rfl⟩
      have hyl : ys.length = n := by rw [← hys, shuf_len]; exact Hn.out
      rw [hys] at hrowA
      obtain ⟨hr1, hr2⟩ := hrowA
      rcases hr2 with ⟨-, hr2⟩ | ⟨g, cap', cur, hge, hg, hh, hnc, hcm, hcs, htk⟩
      · omega
      cases hge
      have hjl : j < n := by omega
      have hat : ∀ q, q < n → (wr.alloc (.cells #[.int .i64 seed, .int .i64 (i : Int)] 3)).cell? ⟨g, q, none⟩ = some (.int .i64 (ys.getD q 0)) := by
        intro q hq
        have h1 : (cur.toList.take (n * 1))[q]? = some (.int .i64 (ys.getD q 0)) := by
          rw [htk, List.getElem?_map, List.getElem?_eq_getElem (by omega), List.getD_eq_getElem?_getD, List.getElem?_eq_getElem (by omega)]; rfl
        rw [List.getElem?_take_of_lt (by omega), Array.getElem?_toList] at h1
        simp only [World.cell?, hh]; exact h1
      obtain ⟨wA, hwA⟩ : ∃ wA, wr.alloc (.cells #[.int .i64 seed, .int .i64 (i : Int)] 3) = wA := ⟨_, rfl⟩
      rw [hwA] at hat hh Hc hBA
      have hci := hat i hik
      have hcj := hat j hjl
      have hfz : ∀ q, wA.frozen? ⟨g, q, none⟩ = false := fun q => by simp [World.frozen?, hh]
      have hfi := hfz i
      have hfj := hfz j
      obtain ⟨p, hp⟩ : ∃ p, ys.getD i 0 = p := ⟨_, rfl⟩
      obtain ⟨q, hq⟩ : ∃ q, ys.getD j 0 = q := ⟨_, rfl⟩
      rw [hp] at hci
      rw [hq] at hcj
      have hij : (i : Int) < (n : Int) := by omega
      have hjj : (j : Int) < (n : Int) := by omega
      have hci2 : (wA.setCell ⟨g, i, none⟩ (.int .i64 q)).cell? ⟨g, j, none⟩ = some (.int .i64 q) := by
        by_cases hij' : i = j
        · subst hij'; exact World.cell?_setCell_same' _ _ _ (by rw [hci]; rfl)
        · rw [World.cell?_setCell_other _ _ _ _ (by intro e; cases e; exact hij' rfl)]; exact hcj
      have hfj2 : (wA.setCell ⟨g, i, none⟩ (.int .i64 q)).frozen? ⟨g, j, none⟩ = false := by rw [World.frozen?_setCell]; exact hfj
      have Hrow2 := Lib.hid (swap_row (j := j) hyl hg hh hnc hcm hcs htk hp hq)
      have HB2 : Hid (Below w.heap.size w ((wA.setCell ⟨g, i, none⟩ (.int .i64 q)).setCell ⟨g, j, none⟩ (.int .i64 p))) := Lib.hid ((hBA.setCell (p := ⟨g, i, none⟩) hg _).setCell (p := ⟨g, j, none⟩) hg _)
      have Hshf : Hid (shuf seed (don ++ [i]) zs = swapAt ys i j) := Lib.hid (by rw [shuf_snoc, shufStep, hj, Int.toNat_natCast, hys])
      clear hat hr1 htk hp hq hys hBA
      go_wp2_with fail
      refine Hc.out.mono ?_
      rintro e w' ⟨rfl, rfl⟩
      go_wp2_with fail
      refine (Hm.out _).mono ?_
      rintro e w' ⟨rfl, rfl⟩
      rw [Hj.out]
      go_wp2_with fail
      refine ⟨⟨(i : Int) - 1, don ++ [i], rfl, by omega, by omega, Lib.hid ?_, by rw [Hshf.out]; exact Hrow2.out, HB2.out⟩, by simp [intOf]⟩
      rw [← hdon.out]
      obtain ⟨r, rfl⟩ : ∃ r, i = r + 1 := ⟨i - 1, by omega⟩
      simp [downFrom]
    · go_wp2_with fail
      have ht2 : t.toNat = 0 := by omega
      have he : don = downFrom (n - 1) := by have := hdon.out; rw [ht2] at this; simpa [downFrom] using this
      go_ret
      exact ⟨_, rfl, by rw [Hn.out, ← he]; exact hrow, hB⟩

theorem sShuffled_wr (v : Value) (zs : List Int) (b : Nat) (seed : Int) (w : World) (h : RdAt .i64 w v zs b) (hl : zs.length ≤ 1000000000) (wf : (Lit.int .i64 seed).wf = true) :
    Calls Tryd.prog 26 #[v, .int .i64 seed] w fun e w' => ∃ v' b', e = .returned v' ∧ w.heap.size ≤ b' ∧ WrAt .i64 w' v' (shufI seed zs) b' ∧ Below w.heap.size w w' := by
  refine (sShuffled_any v zs b seed w h hl wf).mono ?_
  rintro e w' ⟨v', rfl, hown, hb⟩
  obtain ⟨b', h1, h2⟩ := own_wr (zs := shufI seed zs) (by rw [shufI_len]; exact hown) (shufI_wf seed zs hl h.wf)
  exact ⟨v', b', rfl, h1, h2, hb⟩
theorem shuffled_wr (a0 a1 : Addr) (v : Value) (zs : List Int) (b : Nat) (seed : Int) (w : World) (h : RdAt .i64 w v zs b) (hl : zs.length ≤ 1000000000) (wf : (Lit.int .i64 seed).wf = true) (hS : Sent a0 a1 w) :
    Calls Tryd.prog 30 #[v, .int .i64 seed] w fun e w' => ∃ v' b', e = .returned v' ∧ w.heap.size ≤ b' ∧ WrAt .i64 w' v' (shufI seed zs) b' ∧ Below w.heap.size w w' := by
  refine (shuffled_any a0 a1 v zs b seed w h hl wf hS).mono ?_
  rintro e w' ⟨v', rfl, hown, hb⟩
  obtain ⟨b', h1, h2⟩ := own_wr (zs := shufI seed zs) (by rw [shufI_len]; exact hown) (shufI_wf seed zs hl h.wf)
  exact ⟨v', b', rfl, h1, h2, hb⟩
end Go.Proofs.YtaginoiiomaheaaDoor
