/-
  Sheets, the program's side: total, add, emptyColumns, writeDown, IsSheet, TotalOf, AheadIn.
-/
import Derived.Test.YtmfammgdcdlceaaDoorSheetI
import Derived.Deep.Cut
import Derived.Deep.RegionLaw
import Derived.Lib.AppendZerosOnto
namespace Go.Proofs.YtmfammgdcdlceaaDoor
open Go.RowKit
set_option linter.unusedVariables false
set_option linter.unusedSimpArgs false

theorem step_append_runS {P : Program} {ops : Array Oper} {o : Oper} {a : Act} {w : World} {K : Act → World → Prop} {Q : Exit → Act → World → Prop} {E : Prop} (hg : o.guard = none) (s x : Operand) (t tn : TypeId)
    (ho : o.op = .call { callee := .builtin .append, args := #[s, x], argTypes := #[t, tn] }) (vs vx : Value) (hs : a.eval s = vs) (hx : a.eval x = vx)
    (v' : Value) (w' : World) (hr : (Builtin.append_ #[t, tn] o.type #[vs, vx]).run P w = .ok v' w') (h : K (a.put o.dst v') w') : if Region.wanted o (yielded ops a.tmps) = true then Oper.wp P o a w K Q else E := by
  have hw : Region.wanted o (yielded ops a.tmps) = true := by simp [Region.wanted, hg]
  rw [if_pos hw]
  exact Lib.wp_append_run w s x t tn ho vs vx hs hx v' w' hr h

set_option maxRecDepth 100000 in
theorem total_any (base g p r k : Nat) (f : Nat → Int) (i : Nat) (cap : Nat) (w : World) (hC : Cols w base g p r k f) (hi : i < p) (hp : p ≤ 6) (hr : r ≤ 1000) :
    Calls Tryd.prog 66 #[.slice (some ⟨g, 0, none⟩) p cap, .int .i64 i] w fun e w' => e = .returned (.int .i64 (f i)) ∧ Below w.heap.size w w' := by
  obtain ⟨b, n, c, h1, h2, h3, h4, h5⟩ := hC.row hi
  obtain ⟨y, hy⟩ : ∃ y, y = f i := ⟨_, rfl⟩
  rw [← hy] at h2 ⊢
  clear hy hC
  have e1 : ((n : Int) + 1 - 1) = (n : Int) := by omega
  have i1 : (i : Int) < (p : Int) := by omega
  have i2 : (n : Int) < (n : Int) + 1 := by omega
  unfold maxLen at h4
  have e2 : IntKind.i64.wrap ((n : Int) + 1 - 1) = (n : Int) := by rw [e1, IntKind.wrap_i64]; omega
  go_enter Tryd.func66, Tryd.ntmps66
  go_wp2_with fail
  go_quiet (fail)
  go_wp2_with fail
  go_ret
  exact ⟨rfl, below_drewN (Below.refl _ _) _⟩

set_option maxRecDepth 100000 in
set_option maxHeartbeats 1000000 in
theorem add_any (base g p r : Nat) (f : Nat → Int) (v : Value) (zs : List Int) (b : Nat) (w w0 : World) (hC : Cols w base g p r 0 f) (h : RdAt .i64 w0 v zs b) (hlen : zs.length = p) (hr : r ≤ 900) (hp : p ≤ 6)
    (hf : ∀ i, -100000 ≤ f i ∧ f i ≤ 100000) (hzb : ∀ x ∈ zs, -1000 ≤ x ∧ x ≤ 1000) (B0 : Below w0.heap.size w0 w) (hbase : w0.heap.size ≤ base) (hbs : base ≤ w.heap.size) :
    Calls Tryd.prog 83 #[.slice (some ⟨g, 0, none⟩) p p, v] w fun e w' => e = .returned (.tuple #[]) ∧ Cols w' base g p (r + 1) 0 (fun i => f i + zs.getD i 0) ∧ Below w0.heap.size w0 w' ∧ w.heap.size ≤ w'.heap.size := by
  obtain ⟨a, cap, rfl, -, hwf, hcell⟩ := h
  rw [hlen]
  have Hlen := Lib.hid hlen
  have Hf := Lib.hid hf
  have Hzb := Lib.hid hzb
  have HB0 := Lib.hid hbase
  clear hlen hf hzb
  have C0 : Cols w base g p r 0 (fun i => if i < 0 then f i + zs.getD i 0 else f i) := hC.congr (fun i _ => by simp)
  go_enter Tryd.func83, Tryd.ntmps83
  go_wp2_with fail
  go_loopw [4, 5, 8] (fun _ _ i wr => ∃ k : Nat, k ≤ p ∧ i = .int .i64 k ∧ Below w0.heap.size w0 wr ∧ w.heap.size ≤ wr.heap.size ∧ Hid (Cols wr base g p r k (fun i => if i < k then f i + zs.getD i 0 else f i))) (fun _ _ i _ => p - (intOf i).toNat)
  case atStart => exact ⟨0, Nat.zero_le _, rfl, B0, Nat.le_refl _, Lib.hid C0⟩
  case round =>
    clear C0 hC B0
    obtain ⟨k, hk, rfl, hB, hsz, hC⟩ := hrel
    by_cases hlt : k < p
    · have hzl : k < zs.length := by rw [Hlen.out]; exact hlt
      rcases hcell with h0 | ⟨off, rfl, hc⟩
      · subst h0; simp at hzl
      obtain ⟨y, hy⟩ : ∃ y, Hid (y = zs[k]) := ⟨_, Lib.hid rfl⟩
      have hc1 : wr.cell? ⟨b, off + k, none⟩ = some (.int .i64 y) := by
        have h1 := hc k hzl
        rw [hB.cell (World.block_lt_of_cell? _ _ h1), h1, hy.out]
      have hyb : -1000 ≤ y ∧ y ≤ 1000 := by rw [hy.out]; exact Hzb.out _ (List.getElem_mem hzl)
      have hyd : Hid (zs.getD k 0 = y) := Lib.hid (by rw [hy.out]; simp [List.getD, hzl])
      obtain ⟨x, hx⟩ : ∃ x, x = f k := ⟨_, rfl⟩
      have hxb := Hf.out k
      rw [← hx] at hxb
      obtain ⟨bq, cq, hcq, hstep⟩ := hC.out.step hlt (by omega) w0 hB HB0.out (by omega)
      have HT := Lib.hid (fun wx (bx : Below wr.heap.size wr wx) => total_any base g p r k (fun i => if i < k then f i + zs.getD i 0 else f i) k p wx (hC.out.below bx) hlt hp (by omega))
      have hxe : (if k < k then f k + zs.getD k 0 else f k) = x := by rw [if_neg (by omega), hx]
      rw [hxe] at HT
      have Hst := Lib.hid hstep
      have HG : Hid (∀ wx, Below wr.heap.size wr wx → wx.cell? ⟨g, k, none⟩ = some (.slice (some ⟨bq, 0, none⟩) (r + 1) cq)) := Lib.hid (fun wx bx => (bx.cell (World.block_lt_of_cell? _ _ hcq)).trans hcq)
      have hnext : Hid (∀ wz, Cols wz base g p r (k + 1) (fun i => if i = k then x + y else if i < k then f i + zs.getD i 0 else f i) → Cols wz base g p r (k + 1) (fun i => if i < k + 1 then f i + zs.getD i 0 else f i)) := Lib.hid (fun wz hz => hz.congr (fun i _ => by
        by_cases e : i = k
        · subst e; rw [if_pos rfl, if_pos (by omega), hyd.out, hx]
        · rw [if_neg e]
          by_cases e2 : i < k
          · rw [if_pos e2, if_pos (by omega)]
          · rw [if_neg e2, if_neg (by omega)]))
      have i0 : (0 : Int) ≤ (k : Int) := by omega
      have i1 : (k : Int) < (p : Int) := by omega
      have i2 : IntKind.i64.wrap (x + y) = x + y := by rw [IntKind.wrap_i64]; omega
      clear hc hstep hx hxe hC hwf
      go_wp2_with fail
      go_region_law (first
        | (go_simp; go_at_call 66; (with_reducible refine (HT.out _ ((Below.refl _ _).drew)).mono ?_); rintro e wy ⟨rfl, By⟩; have Byr := (Below.refl wr.heap.size wr).drew.trans By; have y0 := HG.out wy Byr; have y1 := HG.out (wy.alloc (.cells #[.int .i64 (x + y)] 3)) (Byr.alloc Byr.size _))
        | (obtain ⟨v', w4, hrun, hc4, hf4, ⟨qv, cv, ev⟩, hC4, hB4, hs4⟩ := Hst.out wy (x + y) 30 Byr; subst ev; have HC4 := Lib.hid hC4; have HB4 := Lib.hid hB4; have HS4 := Lib.hid hs4; clear hC4 hB4 hs4; refine step_append_runS rfl _ _ _ _ rfl _ _ rfl rfl _ _ hrun ?_))
      all_goals
        clear y0 y1 hcq hrun hc4 hf4 HT HG Hst
        go_wp2_with fail
        go_roundw
        case rel => exact ⟨k + 1, by omega, by go_num, HB4.out, by have := HS4.out; omega, Lib.hid (hnext.out _ HC4.out)⟩
        case measure => simp [intOf]; omega
    · obtain rfl : k = p := by omega
      have hfin : Hid (Cols wr base g k (r + 1) 0 (fun i => f i + zs.getD i 0)) := Lib.hid (Cols.next (hC.out.congr (fun i hi => by rw [if_pos hi])))
      clear hC
      go_wp2_with fail
      exact bodyPost_end (v := .tuple #[]) (by first | rfl | simp [results, go_sem]) rfl ⟨rfl, hfin.out, hB, hsz⟩
end Go.Proofs.YtmfammgdcdlceaaDoor
