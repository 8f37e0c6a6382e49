/-
  Piles: IsPile, TopOf, OpenCards, MayStack of the model, by contract.
-/
import Derived.Test.YtoeobpdgfhgpiaaSPile
import Derived.Test.YtoeobpdgfhgpiaaRed
import Derived.Test.YtoeobpdgfhgpiaaHas
import Derived.Test.YtoeobpdgfhgpiaaIn
import Derived.IntWalk
import Derived.BigQuiet
namespace Go.Proofs.Ytoeobpdgfhgpiaa
open Go.RowKit
set_option linter.unusedVariables false

theorem heap_newP (w : World) (o : Obj) : (w.alloc o).heap[w.heap.size]? = some o := heap_alloc_new _ _
/-- The open cards from the H-th on go down. -/
def downOK (zs : List Int) (H n : Nat) : Bool := decide (∀ i, i < n → H + 1 ≤ i → stepB (zs.getD (i - 1) 0) (zs.getD i 0) = true)
def pileOK (D : MPile) : Bool := isHand D.cards && (decide (0 ≤ D.hidden ∧ D.hidden ≤ (D.cards.length : Int)) && downOK D.cards D.hidden.toNat D.cards.length)
theorem pile_0 {zs : List Int} {H : Int} (h : isHand zs = false) : pileOK ⟨zs, H⟩ = false := by simp [pileOK, h]
theorem pile_1 {zs : List Int} {H : Int} (h : ¬ (0 ≤ H ∧ H ≤ (zs.length : Int))) : pileOK ⟨zs, H⟩ = false := by
  unfold pileOK; rw [decide_eq_false h]; simp
theorem pile_2 {zs : List Int} {H : Nat} (h : isHand zs = true) (h1 : H ≤ zs.length) : pileOK ⟨zs, (H : Int)⟩ = downOK zs H zs.length := by
  unfold pileOK; rw [h, decide_eq_true (by dsimp only; omega)]; simp
theorem pile_t {zs : List Int} {H : Int} (h : pileOK ⟨zs, H⟩ = true) : isHand zs = true ∧ 0 ≤ H ∧ H ≤ (zs.length : Int) := by
  unfold pileOK at h
  simp only [Bool.and_eq_true, decide_eq_true_eq] at h
  exact ⟨h.1, h.2.1.1, h.2.1.2⟩
theorem down_no {zs : List Int} {H n i : Nat} (h1 : H + 1 ≤ i) (h2 : i < n) (h : stepB (zs.getD (i - 1) 0) (zs.getD i 0) = false) : downOK zs H n = false := by
  unfold downOK; rw [decide_eq_false]; intro k; rw [k i h2 h1] at h; cases h
theorem down_yes {zs : List Int} {H n : Nat} (h : ∀ i, i < n → H + 1 ≤ i → stepB (zs.getD (i - 1) 0) (zs.getD i 0) = true) : downOK zs H n = true := by
  unfold downOK; exact decide_eq_true h
theorem below_box {w W w1 : World} {o : Obj} (hW : W = w.alloc o) (bb : Below W.heap.size W w1) : Below w.heap.size w w1 ∧ w1.heap[w.heap.size]? = some o := by
  subst hW
  exact ⟨((Below.refl w.heap.size w).alloc (Nat.le_refl _) o).trans (bb.mono (by simp)), (bb.block _ (by simp)).trans (heap_newP _ _)⟩

set_option linter.unusedVariables false in
set_option maxRecDepth 100000 in
set_option maxHeartbeats 1000000 in
theorem sIsPile_any (v : Value) (D : MPile) (w : World) (h : RdPile w v D) (hf : D.Few) (r : Bool) (hr : pileOK D = r) :
    Calls Try.prog 36 #[v] w fun e w' => e = .returned (.bool r) ∧ Below w.heap.size w w' := by
  obtain ⟨zs, H⟩ := D
  obtain ⟨v0, b0, rfl, h0, wf1⟩ := h
  have f0 : zs.length ≤ 1048576 := hf.1
  dsimp only at h0 wf1
  obtain ⟨n, hn⟩ : ∃ n, n = zs.length := ⟨_, rfl⟩
  have Hn := Lib.hid hn
  obtain ⟨p0, c0, e0, -⟩ := id h0
  subst e0
  have HI := Lib.hid (fun wx (hb : Below w.heap.size w wx) => sIsHand_any _ zs b0 wx (h0.below hb) (by omega))
  have HCl : Hid (∀ wx, Below w.heap.size w wx → ∀ k, k < n → ∃ off, p0 = some ⟨b0, off, none⟩ ∧ (∀ j, j < n → wx.cell? ⟨b0, off + j, none⟩ = some (.int .i64 (zs.getD j 0)))) := Lib.hid (fun wx hb k hk => by
    rcases (h0.below hb).open with ⟨h00, -⟩ | ⟨-, off, c, hv, -, hc⟩
    · rw [hn, h00] at hk; simp at hk
    · exact ⟨off, (Value.slice.inj hv).1, fun j hj => cells_getD hc j (by omega)⟩)
  have B0 := fun o => (Below.refl w.heap.size w).alloc (Nat.le_refl _) o
  have bl := bounds_i64 wf1
  have HR := Lib.hid hr
  have HB := Lib.hid (fun W w1 o (hW : W = w.alloc o) bb => below_box (w1 := w1) hW bb)
  dsimp only
  rw [← hn] at HI f0 ⊢
  clear hr hn h0 wf1 hf
  cases hh : isHand zs with
  | false =>
    rw [hh] at HI
    obtain rfl : r = false := by rw [← HR.out]; exact pile_0 hh
    clear hh
    go_enter Try.func36, Try.ntmps36
    go_wp2_with fail
    refine (HI.out _ (B0 _)).mono ?_
    rintro e w1 ⟨rfl, bb⟩
    obtain ⟨B1, -⟩ := HB.out _ _ _ rfl bb
    clear bb
    go_wp2_with fail
    go_ret
    exact ⟨rfl, B1⟩
  | true =>
    rw [hh] at HI
    have HH := Lib.hid hh
    clear hh
    by_cases hrg : 0 ≤ H ∧ H ≤ (n : Int)
    case neg =>
      have HM := Lib.hid (fun wx => inM_any H 0 n wx false (by simp only [decide_eq_false hrg]))
      obtain rfl : r = false := by rw [← HR.out]; exact pile_1 (by rw [← Hn.out]; exact hrg)
      clear hrg
      go_enter Try.func36, Try.ntmps36
      go_wp2_with fail
      refine (HI.out _ (B0 _)).mono ?_
      rintro e w1 ⟨rfl, bb⟩
      obtain ⟨B1, G1⟩ := HB.out _ _ _ rfl bb
      obtain ⟨k0, k1⟩ := SPile_cells G1
      clear bb G1
      go_wp2_with fail
      refine (HM.out _).mono ?_
      rintro e _w ⟨rfl, rfl⟩
      go_wp2_with fail
      go_ret
      exact ⟨rfl, B1⟩
    have HM := Lib.hid (fun wx => inM_any H 0 n wx true (by simpa using hrg))
    obtain ⟨K, rfl⟩ : ∃ K : Nat, H = K := ⟨H.toNat, by omega⟩
    have hK : K ≤ n := by omega
    have HR2 : Hid (r = downOK zs K n) := Lib.hid (by rw [← HR.out, Hn.out]; exact pile_2 HH.out (by rw [← Hn.out]; exact hK))
    clear hrg bl
    go_enter Try.func36, Try.ntmps36
    go_wp2_with fail
    refine (HI.out _ (B0 _)).mono ?_
    rintro e w1 ⟨rfl, bb⟩
    obtain ⟨B1, G1⟩ := HB.out _ _ _ rfl bb
    obtain ⟨k0, k1⟩ := SPile_cells G1
    have HG1 := Lib.hid G1
    clear bb G1
    go_wp2_with fail
    refine (HM.out _).mono ?_
    rintro e _w ⟨rfl, rfl⟩
    clear HM HI B0 HB
    go_wp2_with fail
    clear k0 k1
    go_loopw [3] (fun i wr => ∃ m : Nat, m ≤ n ∧ i = .int .i64 ((m : Int) + 1) ∧ K ≤ m ∧ Below w.heap.size w wr ∧ Hid (wr.heap[w.heap.size]? = some (.cells #[.slice p0 n c0, .int .i64 K] 32 (0, 0))) ∧ Hid (∀ i, K + 1 ≤ i → i < m + 1 → i < n → stepB (zs.getD (i - 1) 0) (zs.getD i 0) = true)) (fun i _ => n + 1 - (intOf i).toNat)
    case atStart => exact ⟨K, hK, rfl, Nat.le_refl _, B1, HG1, Lib.hid (fun i h1 h2 h3 => by omega)⟩
    case round =>
      clear B1 HG1
      obtain ⟨m, hm, rfl, hKm, B1, HG1, hall⟩ := hrel
      obtain ⟨k0, k1⟩ := SPile_cells HG1.out
      have HG2 : Hid (∀ d, (wr.drewN d).heap[w.heap.size]? = some (.cells #[.slice p0 n c0, .int .i64 K] 32 (0, 0))) := Lib.hid (fun d => ((below_drewN (Below.refl wr.heap.size wr) d).block _ (Array.getElem?_eq_some_iff.1 HG1.out).1).trans HG1.out)
      by_cases hlt : m + 1 < n
      · obtain ⟨off, hp, hcs⟩ := HCl.out wr B1 m (by omega)
        subst hp
        obtain ⟨x, hx⟩ : ∃ x, Hid (zs.getD m 0 = x) := ⟨_, Lib.hid rfl⟩
        obtain ⟨y, hy⟩ : ∃ y, Hid (zs.getD (m + 1) 0 = y) := ⟨_, Lib.hid rfl⟩
        have h1 : wr.cell? ⟨b0, off + m, none⟩ = some (.int .i64 x) := by rw [hcs m (by omega), hx.out]
        have h2 : wr.cell? ⟨b0, off + (m + 1), none⟩ = some (.int .i64 y) := by rw [hcs (m + 1) (by omega), hy.out]
        have hlti : (m : Int) + 1 < (n : Int) := by omega
        have qa : (m : Int) < (n : Int) := by omega
        have qa2 : m < n := by omega
        have qa3 : m + 1 < n := by omega
        have qb : (0 : Int) ≤ (m : Int) + 1 := by omega
        have qc : ((m : Int) + 1).toNat = m + 1 := by omega
        have qd : IntKind.i64.wrap (m : Int) = (m : Int) := IntWalk.i64_in _ (by omega)
        clear hcs
        cases hs : stepB x y with
        | true =>
          have HS := Lib.hid (fun wx => sStep_r x y wx true hs)
          have hall2 : Hid (∀ i, K + 1 ≤ i → i < m + 1 + 1 → i < n → stepB (zs.getD (i - 1) 0) (zs.getD i 0) = true) := Lib.hid (fun i h1 h2 h3 => by
            by_cases e : i = m + 1
            · subst e; rw [hy.out, show m + 1 - 1 = m from rfl, hx.out]; exact hs
            · exact hall.out i h1 (by omega) h3)
          clear hs
          go_wp2_with fail
          go_quiet ((go_at_call 40; exact Calls.quiet_of_same (flip_same (HS.out _) rfl)))
          clear qb qc qd
          go_wp2_with fail
          go_roundw
          case rel => exact ⟨m + 1, by omega, by go_num, by omega, below_drewN B1 _, Lib.hid (HG2.out _), hall2⟩
          case measure => simp [intOf]; omega
        | false =>
          have HS := Lib.hid (fun wx => sStep_r x y wx false hs)
          have hr1 : Hid (r = false) := Lib.hid (by rw [HR2.out]; exact down_no (i := m + 1) (by omega) hlt (by rw [hy.out, show m + 1 - 1 = m from rfl, hx.out]; exact hs))
          clear hs
          go_wp2_with fail
          go_quiet ((go_at_call 40; exact Calls.quiet_of_same (flip_same (HS.out _) rfl)))
          clear qb qc qd
          go_wp2_with fail
          go_ret
          exact ⟨by rw [hr1.out]; rfl, below_drewN B1 _⟩
      · have hlti : ¬ ((m : Int) + 1 < (n : Int)) := by omega
        have hr1 : Hid (r = true) := Lib.hid (by rw [HR2.out]; exact down_yes (fun i h1 h2 => hall.out i h2 (by omega) h1))
        go_wp2_with fail
        go_ret
        exact ⟨by rw [hr1.out]; rfl, B1⟩

def topOf (D : MPile) : Int := D.cards.getLastD (-1)
theorem top_nil {H : Int} : topOf ⟨[], H⟩ = -1 := rfl
theorem top_at {zs : List Int} {H : Int} (k : Nat) (h : zs.length = k + 1) : topOf ⟨zs, H⟩ = zs.getD k 0 := by
  unfold topOf
  dsimp only
  rw [List.getLastD_eq_getLast?, List.getLast?_eq_getElem?, h]
  simp only [List.getD, Nat.add_sub_cancel]
  rw [List.getElem?_eq_getElem (by omega)]; rfl
set_option linter.unusedVariables false in
set_option maxRecDepth 100000 in
theorem sTopOf_any (v : Value) (D : MPile) (w : World) (h : RdPile w v D) (hf : D.Few) (t : Int) (ht : topOf D = t) :
    Calls Try.prog 41 #[v] w fun e w' => e = .returned (.int .i64 t) ∧ Below w.heap.size w w' := by
  obtain ⟨zs, H⟩ := D
  obtain ⟨v0, b0, rfl, h0, wf1⟩ := h
  have f0 : zs.length ≤ 1048576 := hf.1
  dsimp only at h0 wf1
  have B0 := fun o => (Below.refl w.heap.size w).alloc (Nat.le_refl _) o
  dsimp only
  rcases h0.open with ⟨hz, a, cap, rfl, hcm, -⟩ | ⟨hz, off, cap, rfl, -, hc⟩
  · subst hz
    obtain rfl : t = -1 := by rw [← ht]; exact top_nil
    clear ht h0 f0 hf wf1
    go_enter Try.func41, Try.ntmps41
    go_wp2_with fail
    go_ret
    exact ⟨rfl, B0 _⟩
  · obtain ⟨k, hk⟩ : ∃ k, zs.length = k + 1 := ⟨zs.length - 1, by have := List.length_pos_iff.2 hz; omega⟩
    have h1 : w.cell? ⟨b0, off + k, none⟩ = some (.int .i64 t) := by rw [cells_getD hc k (by omega), ← ht, top_at k hk]
    have hlt := World.block_lt_of_cell? _ _ h1
    have HC : Hid (∀ wx, Below w.heap.size w wx → wx.cell? ⟨b0, off + k, none⟩ = some (.int .i64 t)) := Lib.hid (fun wx hb => by rw [hb.cell hlt]; exact h1)
    have HC2 := HC.out _ (B0 (.cells #[.slice (some ⟨b0, off, none⟩) zs.length cap, .int .i64 H] 32))
    rw [hk] at f0 HC2 ⊢
    have hq : ((k : Int) + 1 == 0) = false := by simp; omega
    clear ht h0 hz hc hk h1 hlt hf wf1
    go_enter Try.func41, Try.ntmps41
    go_wp2_with fail
    go_ret
    exact ⟨rfl, B0 _⟩
def openN (D : MPile) : Int := if pileOK D then (D.cards.length : Int) - D.hidden else 0
theorem open_no {D : MPile} (h : pileOK D = false) : openN D = 0 := by unfold openN; rw [h]; rfl
theorem open_yes {zs : List Int} {H : Int} (h : pileOK ⟨zs, H⟩ = true) : openN ⟨zs, H⟩ = (zs.length : Int) - H := by unfold openN; rw [h]; rfl
set_option linter.unusedVariables false in
set_option maxRecDepth 100000 in
theorem sOpenCards_any (v : Value) (D : MPile) (w : World) (h : RdPile w v D) (hf : D.Few) :
    Calls Try.prog 30 #[v] w fun e w' => e = .returned (.int .i64 (openN D)) ∧ Below w.heap.size w w' := by
  have h00 := h
  obtain ⟨zs, H⟩ := D
  obtain ⟨v0, b0, rfl, h0, wf1⟩ := h
  have f0 : zs.length ≤ 1048576 := hf.1
  dsimp only at h0 wf1
  obtain ⟨p0, c0, e0, -⟩ := id h0
  subst e0
  have B0 := fun o => (Below.refl w.heap.size w).alloc (Nat.le_refl _) o
  have HB := Lib.hid (fun W w1 o (hW : W = w.alloc o) bb => below_box (w1 := w1) hW bb)
  have bl := bounds_i64 wf1
  cases hp : pileOK ⟨zs, H⟩ with
  | false =>
    have HI := Lib.hid (fun wx (hb : Below w.heap.size w wx) => sIsPile_any _ ⟨zs, H⟩ wx (h00.below hb) hf false hp)
    rw [open_no hp]
    dsimp only at HI ⊢
    clear hp h00 h0 wf1 hf
    go_enter Try.func30, Try.ntmps30
    go_wp2_with fail
    refine (HI.out _ (B0 _)).mono ?_
    rintro e w1 ⟨rfl, bb⟩
    obtain ⟨B1, -⟩ := HB.out _ _ _ rfl bb
    clear bb
    go_wp2_with fail
    go_ret
    exact ⟨rfl, B1⟩
  | true =>
    have HI := Lib.hid (fun wx (hb : Below w.heap.size w wx) => sIsPile_any _ ⟨zs, H⟩ wx (h00.below hb) hf true hp)
    rw [open_yes hp]
    have hb := pile_t hp
    obtain ⟨-, hb0, hb1⟩ := hb
    dsimp only at HI ⊢
    obtain ⟨n, hn⟩ : ∃ n, n = zs.length := ⟨_, rfl⟩
    rw [← hn] at HI f0 hb1 ⊢
    clear hp h00 h0 wf1 hf hn
    go_enter Try.func30, Try.ntmps30
    go_wp2_with fail
    refine (HI.out _ (B0 _)).mono ?_
    rintro e w1 ⟨rfl, bb⟩
    obtain ⟨B1, G1⟩ := HB.out _ _ _ rfl bb
    obtain ⟨k0, k1⟩ := SPile_cells G1
    clear bb G1
    go_wp2_with fail
    go_ret
    exact ⟨rfl, B1⟩
end Go.Proofs.Ytoeobpdgfhgpiaa
