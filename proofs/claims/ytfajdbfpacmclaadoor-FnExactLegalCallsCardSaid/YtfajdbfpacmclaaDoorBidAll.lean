/-
  bidAll by contract: all calls, one by one, behind a deferred recover.
-/
import Derived.Test.YtfajdbfpacmclaaDoorTake
import Derived.Test.YtfajdbfpacmclaaDoorBid0
import Derived.Tactics
import Derived.Tactics2
import Derived.Defers
import Derived.Recover
import Derived.Laws.Pointers
namespace Go.Proofs.YtfajdbfpacmclaaDoor
open Go.RowKit

theorem catch_panicking (B p q : Nat) (x1 x2 x3 x4 x5 y : Value) (u : TypeId) (pv : Value) (older : List PanicEntry) (w : World)
    (hp : w.heap[p]? = some (.cells #[x1, x2, x3, x4, x5] 42 (0, 0))) (hq : w.heap[q]? = some (.cells #[y] 4 (0, 0))) (hpq : p ≠ q) (hBp : B ≤ p) (hBq : B ≤ q) :
    CallsD Tryd.prog 43 #[.pointer (some ⟨p, 0, none⟩), .pointer (some ⟨q, 0, none⟩)] (.panicking ({ v := .iface u pv, recovered := false } :: older)) w fun e u' w' =>
      e = .returned (.tuple #[]) ∧ u' = .panicking ({ v := .iface u pv, recovered := true } :: older) ∧
      w'.heap[p]? = some (.cells #[.int .i64 0, .int .i64 0, .int .i64 0, .int .i64 0, .int .i64 0] 42 (0, 0)) ∧ w'.heap[q]? = some (.cells #[.bool false] 4 (0, 0)) ∧ Below B w w' := by
  have c0 := cell_blk hp 0
  have z0 := frozen_blk hp 0
  have h1 := setAt hp 0 (.int .i64 0)
  have c1 := cell_blk h1 1
  have z1 := frozen_blk h1 1
  have h2 := setAt h1 1 (.int .i64 0)
  have c2 := cell_blk h2 2
  have z2 := frozen_blk h2 2
  have h3 := setAt h2 2 (.int .i64 0)
  have c3 := cell_blk h3 3
  have z3 := frozen_blk h3 3
  have h4 := setAt h3 3 (.int .i64 0)
  have c4 := cell_blk h4 4
  have z4 := frozen_blk h4 4
  have h5 := setAt h4 4 (.int .i64 0)
  have hq5 : (((((w.setCell ⟨p, 0, none⟩ (.int .i64 0)).setCell ⟨p, 1, none⟩ (.int .i64 0)).setCell ⟨p, 2, none⟩ (.int .i64 0)).setCell ⟨p, 3, none⟩ (.int .i64 0)).setCell ⟨p, 4, none⟩ (.int .i64 0)).heap[q]? = some (.cells #[y] 4 (0, 0)) := by
    rw [Below.heap_setCell _ _ _ _ (fun e => hpq e.symm), Below.heap_setCell _ _ _ _ (fun e => hpq e.symm), Below.heap_setCell _ _ _ _ (fun e => hpq e.symm), Below.heap_setCell _ _ _ _ (fun e => hpq e.symm), Below.heap_setCell _ _ _ _ (fun e => hpq e.symm)]
    exact hq
  have c5 := cell_blk hq5 0
  have z5 := frozen_blk hq5 0
  have h6 := setAt hq5 0 (.bool false)
  have h7 : ((((((w.setCell ⟨p, 0, none⟩ (.int .i64 0)).setCell ⟨p, 1, none⟩ (.int .i64 0)).setCell ⟨p, 2, none⟩ (.int .i64 0)).setCell ⟨p, 3, none⟩ (.int .i64 0)).setCell ⟨p, 4, none⟩ (.int .i64 0)).setCell ⟨q, 0, none⟩ (.bool false)).heap[p]? = some (.cells #[.int .i64 0, .int .i64 0, .int .i64 0, .int .i64 0, .int .i64 0] 42 (0, 0)) := by
    rw [Below.heap_setCell _ _ _ _ hpq]; exact h5
  have HB := Lib.hid (((((((Below.refl B w).setCell (p := ⟨p, 0, none⟩) hBp (.int .i64 0)).setCell (p := ⟨p, 1, none⟩) hBp (.int .i64 0)).setCell (p := ⟨p, 2, none⟩) hBp (.int .i64 0)).setCell (p := ⟨p, 3, none⟩) hBp (.int .i64 0)).setCell (p := ⟨p, 4, none⟩) hBp (.int .i64 0)).setCell (p := ⟨q, 0, none⟩) hBq (.bool false))
  have H6 := Lib.hid h6
  have H7 := Lib.hid h7
  clear h6 h7 h5 hq5
  simp at c0 c1 c2 c3 c4 c5
  clear h1 h2 h3 h4
  refine callsD_of_wpS Tryd.func43 rfl fun c₀ cs hu => ?_
  apply wpS_seq
  apply wpS_region
  simp [wpOpsS, go_sem, recoverD, hu, Tryd.ntmps43, Exit.thenS]
  refine wpS_cond (t := true) (by simp [Act.eval, Array.replicate]) ?_
  simp only [if_true]
  apply wpS_region
  simp [wpOpsS, go_sem, c0, z0, c1, z1, c2, z2, c3, z3, c4, z4, c5, z5]
  simp [bodyPostS, results, Tryd.results43]
  exact ⟨H7.out, H6.out, HB.out⟩

theorem catch_idle (p q : Addr) (w : World) :
    CallsD Tryd.prog 43 #[.pointer (some p), .pointer (some q)] .returning w fun e u' w' => e = .returned (.tuple #[]) ∧ u' = .returning ∧ w' = w := by
  refine callsD_of_wpS Tryd.func43 rfl fun c₀ cs hu => ?_
  apply wpS_seq
  apply wpS_region
  simp [wpOpsS, go_sem, recoverD, hu, Tryd.ntmps43, Exit.thenS]
  refine wpS_cond (t := false) (by simp [Act.eval, Array.replicate]) ?_
  simp only [Bool.false_eq_true, if_false]
  refine wpS_of_wp (wp_skip ?_)
  cases c₀
  simp_all [bodyPostS, results, Tryd.results43]

theorem two0 (w : World) (o1 o2 : Obj) : ((w.alloc o1).alloc o2).heap[w.heap.size]? = some o1 := by
  show ((w.heap.push o1).push o2)[w.heap.size]? = _
  rw [Array.getElem?_push, if_neg (by simp)]; simp
theorem two1 (w : World) (o1 o2 : Obj) : ((w.alloc o1).alloc o2).heap[w.heap.size + 1]? = some o2 := by
  show ((w.heap.push o1).push o2)[w.heap.size + 1]? = _
  rw [Array.getElem?_push, if_pos (by simp)]

def bidSt (p : Int) (zs : List Int) : Value := if isCallsB p zs = true then .agg #[.int .i64 p, .int .i64 zs.length, .int .i64 (pz zs zs.length), .int .i64 (hik zs zs.length), .int .i64 (decl p zs zs.length)] else .agg #[.int .i64 0, .int .i64 0, .int .i64 0, .int .i64 0, .int .i64 0]

set_option maxRecDepth 100000 in
set_option maxHeartbeats 4000000 in
theorem bidAll_any (s : Addr) (p : Int) (v : Value) (zs : List Int) (b : Nat) (w : World) (h : RdAt .i64 w v zs b) (hl : zs.length ≤ 1048576) (hS : Sent1 s w) :
    Calls Tryd.prog 30 #[.int .i64 p, v] w fun e w' => e = .returned (.tuple #[bidSt p zs, .bool (isCallsB p zs)]) ∧ Below w.heap.size w w' := by
  have hmf : ∀ (fn : Fn) (first cap : Array Value) (w : World), (Instr.makeFunc fn first cap).run Tryd.prog w = .ok (.func fn first cap) w := fun _ _ _ _ => rfl
  obtain ⟨a, cap, rfl, -, -, hcell⟩ := id h
  obtain ⟨n, hn⟩ : ∃ n, n = zs.length := ⟨_, rfl⟩
  have Hn := Lib.hid hn
  rw [← hn] at hl ⊢
  by_cases hp : 2 ≤ p ∧ p ≤ 4
  · have HI : Hid (true = decide ((2 : Int) ≤ p ∧ p ≤ 4)) := Lib.hid (by simp; omega)
    have Hp : Hid (2 ≤ p ∧ p ≤ 4) := Lib.hid hp
    have hp1 : 1 ≤ p ∧ p ≤ 4 := by omega
    have HSx : Hid (∀ wx, Below w.heap.size w wx → Sent1 s wx) := Lib.hid (fun wx hb => hS.below hb)
    have HC : Hid (∀ wx, Below w.heap.size w wx → ∀ j (hj : j < zs.length), ∃ off, a = some ⟨b, off, none⟩ ∧ wx.cell? ⟨b, off + j, none⟩ = some (.int .i64 (zs.getD j 0))) := Lib.hid (fun wx hb j hj => by
      rcases hcell with h0 | ⟨off, ha, hc⟩
      · subst h0; simp at hj
      · have h1 := hc j hj
        exact ⟨off, ha, by rw [hb.cell (p := ⟨b, off + j, none⟩) (World.block_lt_of_cell? _ _ h1), h1]; simp [List.getD, hj]⟩)
    clear hn h hcell hp hS
    go_enter_defers Tryd.func30, Tryd.ntmps30
    go_wp2_with fail
    refine (inRangeB_any _ _ _ _ true HI.out).mono ?_
    rintro e _w ⟨rfl, rfl⟩
    go_wp2_with fail
    go_loopw [7, 17] (fun _ i wr => ∃ k : Nat, k ≤ n ∧ i = .int .i64 k ∧ Stt wr w.heap.size p k (pz zs k) (hik zs k) (decl p zs k) ∧ wr.heap[w.heap.size + 1]? = some (.cells #[.bool false] 4 (0, 0)) ∧ Below w.heap.size w wr ∧ Hid (∀ j, j < k → okB p zs j = true)) (fun _ i _ => n - (intOf i).toNat)
    case atStart => exact ⟨0, Nat.zero_le _, rfl, two0 w _ _, two1 w _ _, ((Below.refl _ _).alloc (Nat.le_refl _) _).alloc (by simp) _, Lib.hid (fun j h => by omega)⟩
    case round =>
      obtain ⟨k, hk, rfl, hs, hq, B, hok⟩ := hrel
      by_cases hlt : k < n
      · have hz : k < zs.length := by rw [← Hn.out]; exact hlt
        obtain ⟨off, ha, hc1⟩ := HC.out wr B k hz
        subst ha
        obtain ⟨y, hy⟩ : ∃ y, zs.getD k 0 = y := ⟨_, rfl⟩
        rw [hy] at hc1
        have hlt1 := (Array.getElem?_eq_some_iff.1 hq).1
        have hpz := pz_le zs k
        cases eo : okB p zs k with
        | true =>
          obtain ⟨hr, hh, he⟩ := ok_parts eo
          rw [hy] at hr hh
          have hok2 : Hid (∀ j, j < k + 1 → okB p zs j = true) := Lib.hid (fun j hj => by
            by_cases e : j = k
            · subst e; exact eo
            · exact hok.out j (by omega))
          have hpos := hik_pos zs k (by omega)
          by_cases hy0 : y = 0
          · have HT := Lib.hid (take_pass w.heap.size p k (pz zs k) (hik zs k) (decl p zs k) wr hs hp1 he (by omega) (by omega))
            have Hst : Hid (∀ wx, Stt wx w.heap.size p ((k : Int) + 1) ((pz zs k : Int) + 1) (hik zs k) (decl p zs k) → Stt wx w.heap.size p ((k + 1 : Nat) : Int) (pz zs (k + 1)) (hik zs (k + 1)) (decl p zs (k + 1))) := Lib.hid (fun wx hx => by
              have e1 : ((pz zs (k + 1) : Nat) : Int) = (pz zs k : Int) + 1 := by rw [pz, if_pos (by rw [hy]; exact hy0)]; simp
              have e2 : hik zs (k + 1) = hik zs k := by rw [hik_succ zs k hz, if_pos (by rw [hy]; omega)]
              have e3 : decl p zs (k + 1) = decl p zs k := by rw [decl, if_pos (by rw [hy]; exact hy0)]
              have e4 : ((k + 1 : Nat) : Int) = (k : Int) + 1 := by omega
              rw [e1, e2, e3, e4]; exact hx)
            subst hy0
            clear hy hr hh he eo hs hz hpos hok
            go_wp2_with fail
            refine HT.out.mono ?_
            rintro e w1 ⟨rfl, hs1, hg1⟩
            have hq1 : w1.heap[w.heap.size + 1]? = some (.cells #[.bool false] 4 (0, 0)) := by rw [hg1.block _ hlt1 (by simp)]; exact hq
            have hs2 := Hst.out w1 hs1
            replace B := below_touch B hg1 (Nat.le_refl _)
            clear HT Hst hs1 hg1 hq hc1 hlt1
            go_wp2_with fail
            go_roundw
            case rel => exact ⟨k + 1, by omega, by go_num, hs2, hq1, B, hok2⟩
            case measure => simp [intOf]; omega
          · have hyh : hik zs k < y := by omega
            have HT := Lib.hid (take_bid w.heap.size p k (pz zs k) (hik zs k) (decl p zs k) y wr hs hp1 he (by omega) (by omega) hyh)
            have Hst : Hid (∀ wx, Stt wx w.heap.size p ((k : Int) + 1) 0 y ((k : Int) % p) → Stt wx w.heap.size p ((k + 1 : Nat) : Int) (pz zs (k + 1)) (hik zs (k + 1)) (decl p zs (k + 1))) := Lib.hid (fun wx hx => by
              have e1 : ((pz zs (k + 1) : Nat) : Int) = 0 := by rw [pz, if_neg (by rw [hy]; exact hy0)]; simp
              have e2 : hik zs (k + 1) = y := by rw [hik_succ zs k hz, if_neg (by rw [hy]; omega), hy]
              have e3 : decl p zs (k + 1) = (k : Int) % p := by rw [decl, if_neg (by rw [hy]; exact hy0)]
              have e4 : ((k + 1 : Nat) : Int) = (k : Int) + 1 := by omega
              rw [e1, e2, e3, e4]; exact hx)
            clear hy hr hh he eo hs hz hpos hok hyh hy0
            go_wp2_with fail
            refine HT.out.mono ?_
            rintro e w1 ⟨rfl, hs1, hg1⟩
            have hq1 : w1.heap[w.heap.size + 1]? = some (.cells #[.bool false] 4 (0, 0)) := by rw [hg1.block _ hlt1 (by simp)]; exact hq
            have hs2 := Hst.out w1 hs1
            replace B := below_touch B hg1 (Nat.le_refl _)
            clear HT Hst hs1 hg1 hq hc1 hlt1
            go_wp2_with fail
            go_roundw
            case rel => exact ⟨k + 1, by omega, by go_num, hs2, hq1, B, hok2⟩
            case measure => simp [intOf]; omega
        | false =>
          have hbad : endB p k (pz zs k) = true ∨ ¬ (0 ≤ y ∧ y ≤ 35) ∨ (0 < y ∧ y ≤ hik zs k) := by
            by_cases q1 : 0 ≤ y ∧ y ≤ 35
            · cases q2 : endB p k (pz zs k) with
              | true => exact .inl rfl
              | false =>
                refine .inr (.inr ?_)
                refine Classical.byContradiction fun q3 => ?_
                have := ok_make (p := p) (zs := zs) (k := k) (by rw [hy]; exact q1) (by rw [hy]; omega) q2
                rw [this] at eo; cases eo
            · exact .inr (.inl q1)
          have HT := Lib.hid (take_no s w.heap.size p k (pz zs k) (hik zs k) (decl p zs k) y wr hs hp1 (HSx.out wr B) hbad)
          have hf : Hid (isCallsB p zs = false) := Lib.hid (by unfold isCallsB; rw [okAll_f hz eo, Bool.and_false])
          have hst : Hid (bidSt p zs = .agg #[.int .i64 0, .int .i64 0, .int .i64 0, .int .i64 0, .int .i64 0]) := Lib.hid (by unfold bidSt; rw [hf.out]; rfl)
          have Hs := Lib.hid hs
          have Hq := Lib.hid hq
          have HB0 := Lib.hid B
          clear hy eo hs hz hok hbad hq B
          go_wp2_with fail
          refine HT.out.mono ?_
          rintro e w1 ⟨rfl, q, rfl⟩
          go_wp2_with fail
          rw [hst.out, hf.out]
          refine leaves_cons (f := 43) (args := #[.pointer (some ⟨w.heap.size, 0, none⟩), .pointer (some ⟨w.heap.size + 1, 0, none⟩)]) (by simp) (by simp [go_sem]) ?_
          refine (catch_panicking w.heap.size w.heap.size (w.heap.size + 1) _ _ _ _ _ _ _ _ [] (wr.drewN q) Hs.out Hq.out (by simp) (Nat.le_refl _) (Nat.le_succ _)).mono ?_
          rintro e u' w'' ⟨rfl, rfl, hb1, hb2, hB⟩
          have e0 := cell_blk hb1 0
          have e1 := cell_blk hb1 1
          have e2 := cell_blk hb1 2
          have e3 := cell_blk hb1 3
          have e4 := cell_blk hb1 4
          have e5 := cell_blk hb2 0
          simp at e0 e1 e2 e3 e4 e5
          have hBB := (below_drewN HB0.out q).trans (hB.mono (Nat.le_refl _))
          simp [Leaves, settle, results, Tryd.results30, go_sem, e0, e1, e2, e3, e4, e5]
          exact hBB
      · obtain rfl : k = n := by omega
        have hall : Hid (isCallsB p zs = true) := Lib.hid (by
          unfold isCallsB
          rw [okAll_t (fun j hj => hok.out j (by rw [Hn.out]; exact hj)), decide_eq_true Hp.out]; rfl)
        obtain ⟨x0, hx0⟩ : ∃ x0, x0 = p := ⟨_, rfl⟩
        obtain ⟨x1, hx1⟩ : ∃ x1 : Int, x1 = (k : Int) := ⟨_, rfl⟩
        obtain ⟨x2, hx2⟩ : ∃ x2 : Int, x2 = ((pz zs k : Nat) : Int) := ⟨_, rfl⟩
        obtain ⟨x3, hx3⟩ : ∃ x3, x3 = hik zs k := ⟨_, rfl⟩
        obtain ⟨x4, hx4⟩ : ∃ x4, x4 = decl p zs k := ⟨_, rfl⟩
        have hst : Hid (bidSt p zs = .agg #[.int .i64 x0, .int .i64 x1, .int .i64 x2, .int .i64 x3, .int .i64 x4]) := Lib.hid (by
          unfold bidSt; rw [if_pos hall.out, hx0, hx1, hx2, hx3, hx4, ← Hn.out])
        rw [← hx4, ← hx3, ← hx2, ← hx1, ← hx0] at hs
        clear hx0 hx1 hx2 hx3 hx4
        have c0 := cell_blk hs 0
        have c1 := cell_blk hs 1
        have c2 := cell_blk hs 2
        have c3 := cell_blk hs 3
        have c4 := cell_blk hs 4
        have z0 := frozen_blk hs 0
        have h1 := setAt hs 0 (.int .i64 x0)
        have h2 := setAt h1 1 (.int .i64 x1)
        have h3 := setAt h2 2 (.int .i64 x2)
        have h4 := setAt h3 3 (.int .i64 x3)
        have h5 := setAt h4 4 (.int .i64 x4)
        have z1 := frozen_blk h1 1
        have z2 := frozen_blk h2 2
        have z3 := frozen_blk h3 3
        have z4 := frozen_blk h4 4
        have d1 := cell_blk h1 1
        have d2 := cell_blk h2 2
        have d3 := cell_blk h3 3
        have d4 := cell_blk h4 4
        have hlt1 := (Array.getElem?_eq_some_iff.1 hq).1
        have hq5 : (((((wr.setCell ⟨w.heap.size, 0, none⟩ (.int .i64 x0)).setCell ⟨w.heap.size, 1, none⟩ (.int .i64 x1)).setCell ⟨w.heap.size, 2, none⟩ (.int .i64 x2)).setCell ⟨w.heap.size, 3, none⟩ (.int .i64 x3)).setCell ⟨w.heap.size, 4, none⟩ (.int .i64 x4)).heap[w.heap.size + 1]? = some (.cells #[.bool false] 4 (0, 0)) := by
          rw [Below.heap_setCell _ _ _ _ (by simp), Below.heap_setCell _ _ _ _ (by simp), Below.heap_setCell _ _ _ _ (by simp), Below.heap_setCell _ _ _ _ (by simp), Below.heap_setCell _ _ _ _ (by simp)]
          exact hq
        have c5 := cell_blk hq5 0
        have z5 := frozen_blk hq5 0
        have h6 := setAt hq5 0 (.bool true)
        have h7 : ((((((wr.setCell ⟨w.heap.size, 0, none⟩ (.int .i64 x0)).setCell ⟨w.heap.size, 1, none⟩ (.int .i64 x1)).setCell ⟨w.heap.size, 2, none⟩ (.int .i64 x2)).setCell ⟨w.heap.size, 3, none⟩ (.int .i64 x3)).setCell ⟨w.heap.size, 4, none⟩ (.int .i64 x4)).setCell ⟨w.heap.size + 1, 0, none⟩ (.bool true)).heap[w.heap.size]? = some (.cells #[.int .i64 x0, .int .i64 x1, .int .i64 x2, .int .i64 x3, .int .i64 x4] 42 (0, 0)) := by
          rw [Below.heap_setCell _ _ _ _ (by simp)]; exact h5
        have HB := Lib.hid ((((((B.setCell (p := ⟨w.heap.size, 0, none⟩) (Nat.le_refl _) (.int .i64 x0)).setCell (p := ⟨w.heap.size, 1, none⟩) (Nat.le_refl _) (.int .i64 x1)).setCell (p := ⟨w.heap.size, 2, none⟩) (Nat.le_refl _) (.int .i64 x2)).setCell (p := ⟨w.heap.size, 3, none⟩) (Nat.le_refl _) (.int .i64 x3)).setCell (p := ⟨w.heap.size, 4, none⟩) (Nat.le_refl _) (.int .i64 x4)).setCell (p := ⟨w.heap.size + 1, 0, none⟩) (Nat.le_succ _) (.bool true))
        simp at c0 c1 c2 c3 c4 c5 d1 d2 d3 d4
        have e0 := cell_blk h7 0
        have e1 := cell_blk h7 1
        have e2 := cell_blk h7 2
        have e3 := cell_blk h7 3
        have e4 := cell_blk h7 4
        have e5 := cell_blk h6 0
        have E0 := Lib.hid e0
        have E1 := Lib.hid e1
        have E2 := Lib.hid e2
        have E3 := Lib.hid e3
        have E4 := Lib.hid e4
        have E5 := Lib.hid e5
        clear h1 h2 h3 h4 h5 h6 h7 hq5 hs hq B e0 e1 e2 e3 e4 e5
        go_wp2_with fail
        rw [hst.out, hall.out]
        refine leaves_cons (f := 43) (args := #[.pointer (some ⟨w.heap.size, 0, none⟩), .pointer (some ⟨w.heap.size + 1, 0, none⟩)]) (by simp) (by simp [go_sem]) ?_
        refine (catch_idle ⟨w.heap.size, 0, none⟩ ⟨w.heap.size + 1, 0, none⟩ _).mono ?_
        rintro e u' w'' ⟨rfl, rfl, rfl⟩
        generalize ((((((wr.setCell ⟨w.heap.size, 0, none⟩ (.int .i64 x0)).setCell ⟨w.heap.size, 1, none⟩ (.int .i64 x1)).setCell ⟨w.heap.size, 2, none⟩ (.int .i64 x2)).setCell ⟨w.heap.size, 3, none⟩ (.int .i64 x3)).setCell ⟨w.heap.size, 4, none⟩ (.int .i64 x4)).setCell ⟨w.heap.size + 1, 0, none⟩ (.bool true)) = w9 at E0 E1 E2 E3 E4 E5 HB ⊢
        have e0 := E0.out
        have e1 := E1.out
        have e2 := E2.out
        have e3 := E3.out
        have e4 := E4.out
        have e5 := E5.out
        simp at e0 e1 e2 e3 e4 e5
        simp [Leaves, settle, results, Tryd.results30, go_sem, e0, e1, e2, e3, e4, e5]
        exact HB.out
  · have hf : Hid (isCallsB p zs = false) := Lib.hid (by unfold isCallsB; rw [decide_eq_false hp]; rfl)
    have hst : Hid (bidSt p zs = .agg #[.int .i64 0, .int .i64 0, .int .i64 0, .int .i64 0, .int .i64 0]) := Lib.hid (by unfold bidSt; rw [hf.out]; rfl)
    have HI : Hid (false = decide ((2 : Int) ≤ p ∧ p ≤ 4)) := Lib.hid (by simp; omega)
    rw [hst.out, hf.out]
    clear hn h hcell hp hS
    go_enter_defers Tryd.func30, Tryd.ntmps30
    go_wp2_with fail
    refine (inRangeB_any _ _ _ _ false HI.out).mono ?_
    rintro e _w ⟨rfl, rfl⟩
    go_wp2_with fail
    refine leaves_cons (f := 43) (args := #[.pointer (some ⟨w.heap.size, 0, none⟩), .pointer (some ⟨w.heap.size + 1, 0, none⟩)]) (by simp) (by simp [go_sem]) ?_
    refine (catch_idle ⟨w.heap.size, 0, none⟩ ⟨w.heap.size + 1, 0, none⟩ _).mono ?_
    rintro e u' w'' ⟨rfl, rfl, rfl⟩
    simp [Leaves, settle, results, Tryd.results30, go_sem]
    exact ((Below.refl _ _).alloc (Nat.le_refl _) _).alloc (by simp) _
end Go.Proofs.YtfajdbfpacmclaaDoor
