/-
  CardsHeld of the program: the row that it hands out is its own.
-/
import Derived.Test.YtmfammgdcdlceaaDoorHeld
namespace Go.Proofs.YtmfammgdcdlceaaDoor
open Go.RowKit
set_option linter.unusedVariables false
set_option linter.unusedSimpArgs false

theorem own_lowH {w : World} {B B' : Nat} {E : TypeId} {n : Nat} {v : Value} {xs : List Value} (h : w.ownsRow B E 1 v n xs) (hb : B' ≤ B) : w.ownsRow B' E 1 v n xs := by
  obtain ⟨hl, h⟩ := h
  refine ⟨hl, h.imp id ?_⟩
  rintro ⟨g', cap', cur, e', hg, r⟩
  exact ⟨g', cap', cur, e', Nat.le_trans hb hg, r⟩
set_option maxRecDepth 100000 in
set_option maxHeartbeats 1000000 in
theorem sizesOf_own (v : Value) (zss : List (List Int)) (w : World) (h : RdRows .i64 w v zss) (hl : zss.length ≤ 1048576) (hl2 : sumLen zss ≤ 1048576) :
    Calls Tryd.prog 80 #[v] w fun e w' => ∃ v', e = .returned v' ∧ w'.ownsRow w.heap.size 3 1 v' (lensI zss).length ((lensI zss).map (Value.int .i64)) ∧ Below w.heap.size w w' := by
  obtain ⟨i0, hi, hz0, hz1, hz2⟩ := info_parts info_i64
  have hrow := fun wx (hb : Below w.heap.size w wx) j (hj : j < zss.length) => (h.below hb).row hj
  obtain ⟨a, cap, rfl, hcap, -⟩ := id h
  obtain ⟨n, hn⟩ : ∃ n, n = zss.length := ⟨_, rfl⟩
  have Hn := Lib.hid hn
  have Hrow := Lib.hid hrow
  have Hsum : Hid (∀ j (hj : j < zss.length), zss[j].length ≤ 1048576) := Lib.hid (fun j hj => Nat.le_trans (len_le_sum zss hj) hl2)
  have Hwf := Lib.hid (lensI_wf hl2)
  rw [← hn] at hl ⊢
  clear hn hrow h hcap hl2
  go_enter Tryd.func80, Tryd.ntmps80
  go_wp2_with (at_make; refine wpList_make_full _ rfl _ _ 30 rfl w.heap.size 3 i0 (.int .i64 0) 1 Tryd.underlying30 hi hz0 hz1 _ _ _ _ n rfl rfl rfl rfl ?c1 ?c2 ?c3 ?_)
  case c1 => rw [hz2]; omega
  case c2 => unfold maxLen; omega
  case c3 => exact Nat.le_refl _
  intro w1 hown hgr
  have hb1 : Below w.heap.size w w1 := (Below.refl _ _).grown hgr (Nat.le_refl _) (fun k hk => by cases hk)
  clear hgr hi hz0 hz1 hz2
  go_wp2_with fail
  go_loopw [4, 5, 11] (fun _ _ i wr => ∃ k : Nat, k ≤ n ∧ i = .int .i64 k ∧ Below w.heap.size w wr ∧ ∃ xs, wr.ownsRow w.heap.size 3 1 (.slice (some ⟨w.heap.size, 0, none⟩) n n) n xs ∧ Hid (∀ j (hj : j < zss.length), j < k → xs[j]? = some (.int .i64 (zss[j].length : Nat)))) (fun _ _ i _ => n - (intOf i).toNat)
  case atStart => exact ⟨0, Nat.zero_le _, rfl, hb1, _, hown, Lib.hid (fun j _ hj => by omega)⟩
  case round =>
    clear hown hb1
    obtain ⟨k, hk, rfl, hb2, xs, hown, hxs⟩ := hrel
    by_cases hlt : k < n
    · have hz : k < zss.length := by rw [← Hn.out]; exact hlt
      obtain ⟨blk, off, cap', p, c, b, hv, hc, hr, -⟩ := Hrow.out wr hb2 k hz
      have ha := (Value.slice.inj hv).1
      clear hv
      subst ha
      obtain ⟨x, hx⟩ : ∃ x, xs[k]? = some x := ⟨_, List.getElem?_eq_getElem (by rw [hown.1]; omega)⟩
      have hc2 : wr.cell? ⟨w.heap.size, k, none⟩ = some x := by rw [hown.cellAt k (by omega), hx]
      have hf2 : wr.frozen? ⟨w.heap.size, k, none⟩ = false := hown.frozenAt k
      obtain ⟨m, hm⟩ : ∃ m, m = zss[k].length := ⟨_, rfl⟩
      have Hm := Lib.hid hm
      have hsm := Hsum.out k hz
      rw [← hm] at hc hsm
      have hst := (hown.stored k (.int .i64 (m : Nat))).1
      have hb3 : Below w.heap.size w (wr.setCell ⟨w.heap.size, k, none⟩ (.int .i64 (m : Nat))) := hb2.setCell (Nat.le_refl _) _
      have hrel2 : Hid (∀ j (hj : j < zss.length), j < k + 1 → (xs.set k (.int .i64 (m : Nat)))[j]? = some (.int .i64 (zss[j].length : Nat))) := Lib.hid (fun j hjz hj => by
        by_cases e : j = k
        · subst e; rw [List.getElem?_set_self (by rw [hown.1]; omega), Hm.out]
        · rw [List.getElem?_set_ne (by omega)]; exact hxs.out j hjz (by omega))
      clear hm hr hx hxs hb2 hown
      go_wp2_with fail
      go_roundw
      case rel => exact ⟨k + 1, by omega, by go_num, hb3, _, hst, hrel2⟩
      case measure => simp [intOf]; omega
    · obtain rfl : k = n := by omega
      go_wp2_with fail
      go_ret
      have hx2 : xs = (lensI zss).map (Value.int .i64) := by
        refine List.ext_getElem? fun j => ?_
        by_cases hj : j < zss.length
        · rw [hxs.out j hj (by rw [Hn.out]; exact hj)]
          simp [lensI, hj]
        · rw [List.getElem?_eq_none (by rw [hown.1, Hn.out]; omega), List.getElem?_eq_none (by simp [lensI]; omega)]
      rw [hx2] at hown
      have hown2 : wr.ownsRow w.heap.size 3 1 (.slice (some ⟨w.heap.size, 0, none⟩) k k) (lensI zss).length ((lensI zss).map (Value.int .i64)) := by rw [lensI_len, ← Hn.out]; exact hown
      exact ⟨_, rfl, hown2, hb2⟩
set_option maxRecDepth 100000 in
theorem cardsHeld_own (v : Value) (D : MGame) (w : World) (h : RdGame w v D) (hf : D.Few) :
    Calls Tryd.prog 56 #[v] w fun e w' => ∃ v', e = .returned v' ∧ w'.ownsRow w.heap.size 3 1 v' (lensI D.hands).length ((lensI D.hands).map (Value.int .i64)) ∧ Below w.heap.size w w' := by
  obtain ⟨p4, p5, p8, p9, p10, c4, c5, c8, c9, c10, b9, b10, hv, h0, h8, h9, h10, wf0, wf1, wf2⟩ := h
  obtain ⟨f0, f8, fs8, f9, f10⟩ := hf
  have B0 : ∀ o1, Below w.heap.size w (w.alloc o1) := fun o1 => (Below.refl w.heap.size w).alloc (Nat.le_refl _) o1
  have HS := Lib.hid (fun wx (hb : Below w.heap.size w wx) => sizesOf_own _ D.hands wx (h8.below hb) f8 fs8)
  subst hv
  clear h0 h8 h9 h10 f0 f8 fs8 f9 f10
  go_enter Tryd.func56, Tryd.ntmps56
  go_wp2_with fail
  refine (HS.out _ (B0 _)).mono ?_
  rintro e w1 ⟨v', rfl, hw', B1⟩
  have B2 := (B0 _).trans (B1.mono (B0 _).size)
  have hw2 := Lib.hid (own_lowH hw' (B0 _).size)
  clear hw' B1
  go_wp2_with fail
  go_ret
  exact ⟨_, rfl, hw2.out, B2⟩
end Go.Proofs.YtmfammgdcdlceaaDoor
