/-
  The hands of five, the program's: ranksByNumber.
-/
import Derived.Test.YtcafbnddbddijaaFiveJ
import Derived.Test.YtcafbnddbddijaaFiveR
import Derived.BigQuiet
import Derived.Laws.OwnMore
namespace Go.Proofs.Ytcafbnddbddijaa
open Go.RowKit Go.Sort Go.Shelf
set_option linter.unusedVariables false
set_option linter.unusedSimpArgs false

def NumsAt (w : World) (g : Nat) (n : Nat → Nat) : Prop := ∀ r, r < 13 → w.cell? ⟨g, r, none⟩ = some (.int .i64 (n r : Nat)) ∧ w.frozen? ⟨g, r, none⟩ = false
theorem NumsAt.keep {w w' : World} {g : Nat} {n : Nat → Nat} (h : NumsAt w g n) (e : w'.heap[g]? = w.heap[g]?) : NumsAt w' g n := fun r hr =>
  ⟨by rw [World.cell?_of_block (w := w) (by exact e)]; exact (h r hr).1, by rw [World.frozen?_of_block (w := w) (by exact e)]; exact (h r hr).2⟩
theorem NumsAt.store {w : World} {g : Nat} {n n' : Nat → Nat} (h : NumsAt w g n) {s m : Nat} (hs : s < 13) (hm : n' s = m) (ho : ∀ r, r ≠ s → n' r = n r) : NumsAt (w.setCell ⟨g, s, none⟩ (.int .i64 m)) g n' := fun r hr => by
  refine ⟨?_, by rw [World.frozen?_setCell]; exact (h r hr).2⟩
  by_cases e : r = s
  · subst e
    rw [World.cell?_setCell_same _ _ _ (h r hr).1, hm]
  · rw [World.cell?_setCell_other _ _ _ _ (by intro e'; simp only [Addr.mk.injEq] at e'; omega), ho r e]
    exact (h r hr).1
theorem cellsAt (cs : Array Value) (t : TypeId) (w : World) (o : Obj) (hs : cs = #[.int .i64 0, .int .i64 0, .int .i64 0, .int .i64 0, .int .i64 0, .int .i64 0, .int .i64 0, .int .i64 0, .int .i64 0, .int .i64 0, .int .i64 0, .int .i64 0, .int .i64 0]) :
    NumsAt ((w.alloc (.cells cs t)).alloc o) w.heap.size fun _ => 0 := by
  have e : ((w.alloc (.cells cs t)).alloc o).heap[w.heap.size]? = some (.cells cs t (0, 0)) := by
    show ((w.heap.push _).push _)[w.heap.size]? = _
    rw [Array.getElem?_push_lt (by simp)]
    simp
  intro r hr
  unfold World.cell? World.frozen?
  simp only [e]
  subst hs
  match r, hr with
  | 0, _ | 1, _ | 2, _ | 3, _ | 4, _ | 5, _ | 6, _ | 7, _ | 8, _ | 9, _ | 10, _ | 11, _ | 12, _ => exact ⟨rfl, rfl⟩
theorem own_pos {w : World} {B : Nat} {E : TypeId} {n : Nat} {v : Value} {xs : List Value} (h : w.ownsRow B E 1 v n xs) (hn : 0 < n) : ∃ g cap, v = .slice (some ⟨g, 0, none⟩) n cap ∧ B ≤ g ∧ g < w.heap.size ∧ n ≤ cap ∧ cap ≤ maxLen := by
  have hlt := h.lt
  rcases h.2 with ⟨_, h0⟩ | ⟨g, cap, cur, rfl, hb, hg, h1, h2, _⟩
  · omega
  · exact ⟨g, cap, rfl, hb, (hlt g rfl).2, h1, h2⟩
def dI (D : List (Fin 13)) : List Int := D.map fun r => ((r.val : Nat) : Int)
theorem dI_len (D : List (Fin 13)) : (dI D).length = D.length := by simp [dI]
theorem dI_snoc (D : List (Fin 13)) (r : Fin 13) : dI (D ++ [r]) = dI D ++ [((r.val : Nat) : Int)] := by simp [dI]
theorem grown_self (w : World) (r : Option Nat) : w.grownBy w r := ⟨rfl, rfl, rfl, Nat.le_refl _, fun _ _ _ => rfl⟩
theorem below_sort {enc : Fin 13 → Value} {B : Nat} {w w1 : World} {blk m : Nat} {d : Array (Fin 13)} {os : Array Obj} (h : Below B w w1) (hB : B ≤ w1.heap.size) (hb : B ≤ blk) : Below B w (sortWorld enc w1 blk 0 m d os) := by
  refine h.trans ⟨rfl, rfl, rfl, ?_, fun k hk => ?_⟩
  · show w1.heap.size ≤ (grow (putRow enc (Sort.ahead w1 m) blk 0 d) os).heap.size
    rw [size_grow, size_putRow]
    exact Nat.le_add_right _ _
  · show (grow (putRow enc (Sort.ahead w1 m) blk 0 d) os).heap[k]? = _
    rw [heap_grow_old _ _ (by rw [size_putRow]; exact Nat.lt_of_lt_of_le hk hB)]
    have hne : blk ≠ k := by omega
    simp only [putRow, mapBlock, Array.getElem?_modify, hne, if_false]
    rfl
theorem ranks_canon {zs : List Int} {D : List (Fin 13)} {d' : Array (Fin 13)} (hh : isHand zs = true) (hn : D.Nodup) (hm : ∀ r : Fin 13, r ∈ D ↔ 0 < cntR zs r.val) (hp : d'.toList.Perm D)
    (hs : d'.toList.Pairwise (fun (x y : Fin 13) => keyR (cntR zs) y.val ≤ keyR (cntR zs) x.val)) : d'.toList.map Fin.val = fiveCanon (cntV zs) := by
  refine canon_unique ?_ ?_ ?_
  · exact List.pairwise_map.2 ((hp.nodup_iff.2 hn).imp fun h e => h (Fin.ext e))
  · intro r
    rw [List.mem_map]
    constructor
    · rintro ⟨x, hx, rfl⟩
      have := (hm x).1 (hp.mem_iff.1 hx)
      rw [cntV_at _ x.isLt]
      exact ⟨x.isLt, this, cntR_le4 hh _⟩
    · rintro ⟨h1, h2, h3⟩
      rw [cntV_at _ h1] at h2
      exact ⟨⟨r, h1⟩, hp.mem_iff.2 ((hm ⟨r, h1⟩).2 h2), rfl⟩
  · refine List.pairwise_map.2 (hs.imp fun {x y} h => ?_)
    unfold keyR at h ⊢
    show 13 * (cntV zs).getD y.val 0 + y.val ≤ 13 * (cntV zs).getD x.val 0 + x.val
    rw [cntV_at _ x.isLt, cntV_at _ y.isLt]
    exact h
theorem ranks_ne {zs : List Int} {D : List (Fin 13)} (hh : isHand zs = true) (h5 : zs.length = 5) (hm : ∀ r : Fin 13, r ∈ D ↔ 0 < cntR zs r.val) : 0 < D.length := by
  match zs, h5 with
  | x :: l, h5 =>
    have hc := hand_card hh x (by simp)
    have hr := isCard_t hc
    have e : rankOf x = (((x % 13).toNat : Nat) : Int) := by rw [rank_in hc]; omega
    have hin : (⟨(x % 13).toNat, by omega⟩ : Fin 13) ∈ D := (hm _).2 (by rw [cntR_cons, if_pos e]; omega)
    exact List.length_pos_of_mem hin
theorem after_sort {wr : World} {blk cap g m : Nat} {D : List (Fin 13)} {d' : Array (Fin 13)} {n : Nat → Nat} {os : Array Obj}
    (hH : Holds encR wr blk 0 D.toArray) (hs : d'.size = D.toArray.size) (hblk : blk < wr.heap.size) (hg : g < wr.heap.size) (hne : g ≠ blk) (hnum : NumsAt wr g n) (hcap : D.length ≤ cap ∧ cap ≤ maxLen) :
    RdAt .i64 (sortWorld encR wr blk 0 m d' os) (.slice (some ⟨blk, 0, none⟩) D.length cap) (ofN (d'.toList.map Fin.val)) blk ∧ NumsAt (sortWorld encR wr blk 0 m d' os) g n := by
  have hl : (ofN (d'.toList.map Fin.val)).length = D.length := by
    rw [ofN_len, List.length_map, Array.length_toList, hs]; simp
  have hH2 : Holds encR (Sort.ahead wr m) blk 0 D.toArray := fun j hj => hH j hj
  constructor
  · refine ⟨_, cap, by rw [hl], ⟨by rw [hl]; exact hcap.1, hcap.2, by simp⟩, ?_, .inr ⟨0, rfl, ?_⟩⟩
    · intro x hx
      obtain ⟨y, hy, rfl⟩ := List.mem_map.1 hx
      obtain ⟨z, -, rfl⟩ := List.mem_map.1 hy
      have := z.isLt
      exact WalkArith.wf_i64 (by omega)
    · intro j hj
      have hj2 : j < d'.size := by rw [hl] at hj; rw [hs]; simpa using hj
      show (grow (putRow encR (Sort.ahead wr m) blk 0 d') os).cell? _ = _
      rw [cell?_grow _ _ _ (by rw [size_putRow]; exact hblk), cell?_putRow encR _ blk 0 D.toArray d' hH2 hs j hj2, getElem!_pos d' j hj2]
      simp [ofN, encR]
  · intro r hr
    show (grow (putRow encR (Sort.ahead wr m) blk 0 d') os).cell? _ = _ ∧ (grow (putRow encR (Sort.ahead wr m) blk 0 d') os).frozen? _ = _
    rw [cell?_grow _ _ _ (by rw [size_putRow]; exact hg), cell?_putRow_other _ _ _ _ _ _ (.inl hne), frozen?_grow _ _ _ (by rw [size_putRow]; exact hg), frozen?_putRow]
    exact hnum r hr

set_option maxRecDepth 100000 in
set_option maxHeartbeats 2000000 in
theorem ranks_any (v : Value) (zs : List Int) (b : Nat) (w : World) (h : RdAt .i64 w v zs b) (h5 : zs.length = 5) (hh : isHand zs = true) :
    Calls Try.prog 62 #[v] w fun e w' => ∃ v' b', e = .returned (.tuple #[v', .int .i64 ((cntV zs).getD ((fiveCanon (cntV zs)).getD 0 0) 0 : Nat)]) ∧ RdAt .i64 w' v' (ofN (fiveCanon (cntV zs))) b' ∧ Below w.heap.size w w' := by
  obtain ⟨i0, hi, hz0, hz1, hz2⟩ := info_parts info_i64
  have hcd := hand_card hh
  obtain ⟨a, cap, rfl, -, -, hcell⟩ := h
  obtain ⟨off, rfl, hc⟩ : ∃ off, a = some ⟨b, off, none⟩ ∧ ∀ j, j < 5 → w.cell? ⟨b, off + j, none⟩ = some (.int .i64 (zs.getD j 0)) ∧ isCard (zs.getD j 0) = true := by
    rcases hcell with h0 | ⟨off, rfl, hc⟩
    · rw [h0] at h5; simp at h5
    · refine ⟨off, rfl, fun j hj => ?_⟩
      have hj2 : j < zs.length := by rw [h5]; exact hj
      have e : zs.getD j 0 = zs[j] := by simp [hj2]
      exact ⟨by rw [hc j hj2, e], by rw [e]; exact hcd _ (List.getElem_mem hj2)⟩
  have Hc := Lib.hid hc
  have H5 := Lib.hid h5
  have Htk : Hid (∀ k, k < 5 → ∀ r, cntR (zs.take (k + 1)) r = cntR (zs.take k) r + if rankOf (zs.getD k 0) = (r : Int) then 1 else 0) := Lib.hid fun k hk r => by
    have hj2 : k < zs.length := by rw [h5]; exact hk
    have e : zs.getD k 0 = zs[k] := by simp [hj2]
    rw [e]; exact cntR_take zs k hj2 r
  obtain ⟨g, hg⟩ : ∃ g, Hid (g = w.heap.size) := ⟨_, Lib.hid rfl⟩
  rw [h5]
  clear hcell hc hcd h5
  go_enter Try.func62, Try.ntmps62
  go_wp2_with fail
  have hn0 := cellsAt _ 76 w (.cells #[] 3) rfl
  have hown0 := World.ownsRow_lit (base := w.heap.size + 1) (e := 3) (size := 1) (w.alloc (.cells #[.int .i64 0, .int .i64 0, .int .i64 0, .int .i64 0, .int .i64 0, .int .i64 0, .int .i64 0, .int .i64 0, .int .i64 0, .int .i64 0, .int .i64 0, .int .i64 0, .int .i64 0] 76)) #[] 0 (by simp) (Nat.zero_le _) rfl
  have hb0 : Below w.heap.size w ((w.alloc (.cells #[.int .i64 0, .int .i64 0, .int .i64 0, .int .i64 0, .int .i64 0, .int .i64 0, .int .i64 0, .int .i64 0, .int .i64 0, .int .i64 0, .int .i64 0, .int .i64 0, .int .i64 0] 76)).alloc (.cells #[] 3)) := ((Below.refl _ _).alloc (Nat.le_refl _) _).alloc (by simp) _
  go_loopw [5, 7, 8, 12] (fun o _ _ i wr => ∃ (k : Nat) (D : List (Fin 13)), k ≤ 5 ∧ i = .int .i64 k ∧ Below w.heap.size w wr ∧ w.heap.size < wr.heap.size ∧ wr.ownsRow (w.heap.size + 1) 3 1 o (dI D).length ((dI D).map (Value.int .i64)) ∧ NumsAt wr w.heap.size (cntR (zs.take k)) ∧ Hid (D.Nodup ∧ D.length ≤ k ∧ ∀ r : Fin 13, r ∈ D ↔ 0 < cntR (zs.take k) r.val)) (fun _ _ _ i _ => 5 - (intOf i).toNat)
  case atStart => exact ⟨0, [], Nat.zero_le _, rfl, hb0, by simp; omega, by simpa [dI] using hown0, hn0, Lib.hid ⟨List.nodup_nil, Nat.le_refl _, fun r => by simp [cntR]⟩⟩
  case round =>
    clear hown0 hn0 hb0
    obtain ⟨k, D, hk, rfl, hb2, hsz, hown, hnum, hD⟩ := hrel
    by_cases hlt : k < 5
    · obtain ⟨h1, hcy⟩ := Hc.out k hlt
      have htk := Htk.out k hlt
      obtain ⟨y, hy⟩ : ∃ y, y = zs.getD k 0 := ⟨_, rfl⟩
      rw [← hy] at h1 hcy htk
      have h1 : wr.cell? ⟨b, off + k, none⟩ = some (.int .i64 y) := by rw [hb2.cell (World.block_lt_of_cell? _ _ h1), h1]
      have hrng := isCard_t hcy
      obtain ⟨s, hs⟩ : ∃ s : Nat, rankOf y = s := ⟨(y % 13).toNat, by rw [rank_in hcy]; omega⟩
      have h4 : s < 13 := by have := rank_in hcy; omega
      have HC := Lib.hid (rankOf_r y wr _ hs)
      obtain ⟨m, hm⟩ : ∃ m, m = cntR (zs.take k) s := ⟨_, rfl⟩
      have hml : m ≤ 5 := by have := cntR_le (zs.take k) s; rw [List.length_take] at this; omega
      obtain ⟨hc2, hf2⟩ := hnum s h4
      rw [← hm] at hc2
      have qs : (s : Int) < 13 := by omega
      have hn' : cntR (zs.take (k + 1)) s = m + 1 := by rw [htk s, if_pos (by rw [hs]), ← hm]
      have ho' : ∀ r, r ≠ s → cntR (zs.take (k + 1)) r = cntR (zs.take k) r := fun r hr => by rw [htk r, if_neg (by rw [hs]; omega)]; rfl
      by_cases hm0 : m = 0
      · have hD2 : Hid ((D ++ [(⟨s, h4⟩ : Fin 13)]).Nodup ∧ (D ++ [(⟨s, h4⟩ : Fin 13)]).length ≤ k + 1 ∧ ∀ r : Fin 13, r ∈ D ++ [(⟨s, h4⟩ : Fin 13)] ↔ 0 < cntR (zs.take (k + 1)) r.val) := Lib.hid (by
          obtain ⟨d1, d2, d3⟩ := hD.out
          have hns : (⟨s, h4⟩ : Fin 13) ∉ D := fun hin => by have := (d3 _).1 hin; simp only [] at this; omega
          refine ⟨?_, by simp; omega, fun r => ?_⟩
          · rw [List.nodup_append]
            exact ⟨d1, by simp, fun x hx z hz e => by simp at hz; subst hz; subst e; exact hns hx⟩
          · rw [List.mem_append, d3 r, List.mem_singleton]
            by_cases e : r.val = s
            · have : r = ⟨s, h4⟩ := Fin.ext e
              subst this
              simp only [hn', or_true, true_iff]; omega
            · rw [ho' _ e]
              constructor
              · rintro (h | h)
                · exact h
                · exact absurd (congrArg Fin.val h) e
              · exact .inl)
        have hlenF : (dI D).length ≤ 5 := by rw [dI_len]; have := hD.out.2.1; omega
        have Hsn := Lib.hid (dI_snoc D ⟨s, h4⟩)
        subst hm0
        have HM := Lib.hid hm
        clear hm hy htk hD hcy hrng hs
        generalize dI D = F at *
        go_wp2_with fail
        refine HC.out.mono ?_
        rintro e _w ⟨rfl, rfl⟩
        go_wp2_with (at_builtin; refine wpList_append_own _ rfl _ _ 22 rfl (w.heap.size + 1) 3 i0 (.int .i64 0) 1 8 Try.underlying22 hi hz0 hz1 hz2 rfl (by decide) _ _ _ rfl (hown.alloc _) ⟨wr.heap.size, 0, none⟩ 1 1 [.int .i64 s] rfl rfl (cell_one_new _ _ _) ?e2 ?e3 ?e4 (by simp; omega) ?_)
        case e2 => intro u hu; simp at hu; subst hu; rfl
        case e3 => unfold maxLen; omega
        case e4 => omega
        intro v2 w2 hown2 hgr2 _
        have hb3 : Below w.heap.size w w2 := (hb2.alloc (by omega) _).grown hgr2 (by simp; omega) (fun j hj => by have := own_block hown j hj; omega)
        have hsz3 : w.heap.size < w2.heap.size := by have := hgr2.size; simp at this; omega
        have e2 : w2.heap[w.heap.size]? = wr.heap[w.heap.size]? := by
          rw [hgr2.block _ (by simp; omega) (fun e => by have := own_block hown _ e.symm; omega)]
          show (wr.heap.push _)[_]? = _
          rw [Array.getElem?_push_lt hsz, Array.getElem?_eq_getElem hsz]
        have hnum2 := hnum.keep e2
        have hown3 := own_snoc hown2
        rw [← Hsn.out] at hown3
        obtain ⟨hc3, hf3⟩ := hnum2 s h4
        rw [← HM.out] at hc3
        have hnum3 := hnum2.store (n' := cntR (zs.take (k + 1))) (m := 1) h4 (by rw [hn']) ho'
        have hown4 := hown3.kept (w' := w2.setCell ⟨w.heap.size, s, none⟩ (.int .i64 (1 : Nat))) (row := some w.heap.size) (grown_store (grown_self _ _) _ rfl _) (.inr fun e => by have := own_block hown3 _ e; omega)
        have hb4 := hb3.setCell (p := ⟨w.heap.size, s, none⟩) (Nat.le_refl _) (.int .i64 (1 : Nat))
        have hsz4 : w.heap.size < (w2.setCell ⟨w.heap.size, s, none⟩ (.int .i64 (1 : Nat))).heap.size := by simpa [World.setCell] using hsz3
        clear hown2 hgr2 hown hb2 hnum hnum2 hown3 e2 hb3 hsz3 hn' ho' hc2 hf2
        go_wp2_with fail
        go_roundw
        case rel => exact ⟨k + 1, _, by omega, by go_num, hb4, hsz4, hown4, hnum3, hD2⟩
        case measure => simp [intOf]; omega
      · have hD2 : Hid (D.Nodup ∧ D.length ≤ k + 1 ∧ ∀ r : Fin 13, r ∈ D ↔ 0 < cntR (zs.take (k + 1)) r.val) := Lib.hid (by
          obtain ⟨d1, d2, d3⟩ := hD.out
          refine ⟨d1, by omega, fun r => ?_⟩
          rw [d3 r]
          by_cases e : r.val = s
          · rw [e, hn', ← hm]; constructor <;> intro h <;> omega
          · rw [ho' _ e])
        have hq : ((m : Int) == 0) = false := by simp; omega
        have hnum3 := hnum.store (n' := cntR (zs.take (k + 1))) (m := m + 1) h4 hn' ho'
        have hown4 := hown.kept (w' := wr.setCell ⟨w.heap.size, s, none⟩ (.int .i64 (m + 1 : Nat))) (row := some w.heap.size) (grown_store (grown_self _ _) _ rfl _) (.inr fun e => by have := own_block hown _ e; omega)
        have hb4 := hb2.setCell (p := ⟨w.heap.size, s, none⟩) (Nat.le_refl _) (.int .i64 (m + 1 : Nat))
        have hsz4 : w.heap.size < (wr.setCell ⟨w.heap.size, s, none⟩ (.int .i64 (m + 1 : Nat))).heap.size := by simpa [World.setCell] using hsz
        have ei : ((m + 1 : Nat) : Int) = (m : Int) + 1 := by omega
        rw [ei] at hnum3 hown4 hb4 hsz4
        clear hm hy htk hD hcy hrng hs hown hnum hn' ho' hm0 hb2 ei
        go_wp2_with fail
        refine HC.out.mono ?_
        rintro e _w ⟨rfl, rfl⟩
        go_wp2_with fail
        go_roundw
        case rel => exact ⟨k + 1, D, by omega, by go_num, hb4, hsz4, hown4, hnum3, hD2⟩
        case measure => simp [intOf]; omega
    · obtain rfl : k = 5 := by omega
      obtain ⟨d1, d2, d3⟩ := hD.out
      rw [List.take_of_length_le (by rw [H5.out]; exact Nat.le_refl _)] at hnum d3
      have hD0 : 0 < (dI D).length := by rw [dI_len]; exact ranks_ne hh H5.out d3
      obtain ⟨blk, cap2, rfl, hbase, hblt, hcap⟩ := own_pos hown hD0
      rw [dI_len] at hcap
      have hH : Holds encR wr blk 0 D.toArray := fun j hj => by
        have hj2 : j < D.length := by simpa using hj
        rw [Nat.zero_add]
        refine ⟨?_, hown.frozenAt j⟩
        rw [hown.cellAt j (by rw [dI_len]; omega), getElem!_pos D.toArray j hj]
        simp [dI, encR, hj2]
      have hgs : w.heap.size ≠ blk := by omega
      have HS := Lib.hid (sortR_any blk w.heap.size cap2 D.toArray (cntR zs) wr hH hblt hsz hgs (fun r hr => (hnum r hr).1) (by simp; omega))
      obtain ⟨q, hq⟩ : ∃ q, q = D.length := ⟨_, rfl⟩
      have hq2 : (dI D).length = q := by rw [dI_len, hq]
      have hq0 : 0 < q := by rw [← hq2]; exact hD0
      rw [show D.toArray.size = q by rw [hq]; simp] at HS
      have HA := Lib.hid (fun (d' : Array (Fin 13)) m os (hs : d'.size = q) => after_sort (m := m) (os := os) (d' := d') hH (by rw [hs, hq]; simp) hblt hsz hgs hnum hcap)
      have HB := Lib.hid (fun (d' : Array (Fin 13)) m os => below_sort (enc := encR) (blk := blk) (m := m) (d := d') (os := os) hb2 (Nat.le_of_lt hsz) (by omega))
      have HC := Lib.hid (fun (d' : Array (Fin 13)) => ranks_canon (d' := d') hh d1 d3)
      rw [← hq] at HA
      rw [hq2]
      clear hH hcap hown hnum hD hb2 hD0 hq2 d1 d2 d3 hi hz0 hz1 hz2 hq hgs hbase Hc Htk
      go_wp2_with fail
      refine HS.out.mono ?_
      rintro e w3 ⟨rfl, d', hz, hp, hs, m, os, rfl⟩
      obtain ⟨hrd, hnum3⟩ := HA.out d' m os hz
      have hcan := HC.out d' (by simpa using hp) hs
      have B3 := HB.out d' m os
      rw [hcan] at hrd
      have hqc : (fiveCanon (cntV zs)).length = q := by rw [← hcan, List.length_map, Array.length_toList, hz]
      generalize sortWorld encR wr blk 0 m d' os = W at *
      clear HA HB HC HS hp hs hcan
      have hRlt : ∀ x ∈ fiveCanon (cntV zs), x < 13 := fun x hx => ((mem_canon _ x).1 hx).1
      have hx0 : (fiveCanon (cntV zs)).getD 0 0 < 13 := by
        have h0 : 0 < (fiveCanon (cntV zs)).length := by rw [hqc]; exact hq0
        have e : (fiveCanon (cntV zs)).getD 0 0 = (fiveCanon (cntV zs))[0] := by simp [h0]
        rw [e]; exact hRlt _ (List.getElem_mem h0)
      have Hm := Lib.hid (cntV_at zs hx0)
      have c0 : W.cell? ⟨blk, 0, none⟩ = some (.int .i64 ((fiveCanon (cntV zs)).getD 0 0 : Nat)) := by
        obtain ⟨_, _, e, -, -, h0 | ⟨off, e2, hc⟩⟩ := hrd
        · have := ofN_len (fiveCanon (cntV zs)); rw [h0, hqc] at this; simp at this; omega
        · have h0 : 0 < (ofN (fiveCanon (cntV zs))).length := by rw [ofN_len, hqc]; exact hq0
          have := hc 0 h0
          rw [ofN_at] at this
          simp only [Value.slice.injEq] at e
          rw [← e.1] at e2
          simp only [Option.some.injEq, Addr.mk.injEq, and_true, true_and] at e2
          subst e2
          exact this
      have hc1 := (hnum3 _ hx0).1
      rw [← Hm.out] at hc1
      have HR := Lib.hid hrd
      clear hRlt Hm hrd hnum3 hqc hz
      obtain ⟨x0, ex⟩ : ∃ x0, Hid (x0 = (fiveCanon (cntV zs)).getD 0 0) := ⟨_, Lib.hid rfl⟩
      obtain ⟨m0, em⟩ : ∃ m0, Hid (m0 = (cntV zs).getD ((fiveCanon (cntV zs)).getD 0 0) 0) := ⟨_, Lib.hid rfl⟩
      rw [← em.out, ← ex.out] at hc1
      rw [← ex.out] at c0 hx0
      have qx : (x0 : Int) < 13 := by omega
      have qq : (0 : Int) < (q : Int) := by omega
      go_wp2_with fail
      go_quiet (fail)
      go_wp2_with fail
      go_ret2
      exact ⟨_, blk, by rw [← em.out]; rfl, HR.out.keep (fun _ => rfl), B3.trans ((below_drewn _ _).mono B3.size)⟩
end Go.Proofs.Ytcafbnddbddijaa
