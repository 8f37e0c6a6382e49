/-
  Collected, both sides.
-/
import Derived.Test.YtnkhdgalmpcacaaFrX
import Derived.Maps.AppendAt
import Derived.Deep.RegionLaw
import Derived.Lib.AppendZerosOnto
namespace Go.Proofs.Ytnkhdgalmpcacaa
open Go.RowKit
set_option linter.unusedVariables false
set_option linter.unusedSimpArgs false

/-- The cards with the number i of the first p hands. -/
def colTo (zss : List (List Int)) (i p : Nat) : List Int := (zss.take p).filterMap (fun z => z[i]?)
def colAll (zss : List (List Int)) (k : Nat) : List Int := (List.range k).flatMap (fun i => colTo zss i zss.length)
def collected (zss : List (List Int)) (zr : List Int) : List Int := colAll zss 100 ++ zr
theorem colTo_zero (zss : List (List Int)) (i : Nat) : colTo zss i 0 = [] := by simp [colTo]
theorem colTo_step (zss : List (List Int)) (i p : Nat) (h : p < zss.length) : colTo zss i (p + 1) = colTo zss i p ++ if hi : i < zss[p].length then [zss[p][i]] else [] := by
  unfold colTo
  rw [List.take_succ_eq_append_getElem h, List.filterMap_append]
  congr 1
  by_cases e : i < zss[p].length
  · rw [dif_pos e]; simp [List.filterMap_cons, List.getElem?_eq_getElem e]
  · rw [dif_neg e]; simp [List.filterMap_cons, List.getElem?_eq_none (show zss[p].length ≤ i by omega)]
theorem colTo_len (zss : List (List Int)) (i p : Nat) : (colTo zss i p).length ≤ zss.length := by
  unfold colTo
  exact Nat.le_trans (List.length_filterMap_le _ _) (by rw [List.length_take]; omega)
theorem colAll_step (zss : List (List Int)) (k : Nat) : colAll zss (k + 1) = colAll zss k ++ colTo zss k zss.length := by
  unfold colAll
  rw [List.range_succ, List.flatMap_append]; simp
theorem colAll_len (zss : List (List Int)) : ∀ k, (colAll zss k).length ≤ k * zss.length
  | 0 => by simp [colAll]
  | k + 1 => by
    rw [colAll_step, List.length_append, Nat.add_mul, Nat.one_mul]
    have := colAll_len zss k
    have := colTo_len zss k zss.length
    omega
theorem collected_len (zss : List (List Int)) (zr : List Int) (h : zss.length ≤ 1048576) (h2 : zr.length ≤ 1048576) : (collected zss zr).length ≤ 200000000 := by
  unfold collected
  have := colAll_len zss 100
  rw [List.length_append]; omega
theorem colTo_wf {zss : List (List Int)} (h : ∀ j (hj : j < zss.length), ∀ x ∈ zss[j], (Lit.int .i64 x).wf = true) (i p : Nat) : ∀ x ∈ colTo zss i p, (Lit.int .i64 x).wf = true := by
  intro x hx
  unfold colTo at hx
  obtain ⟨z, hz, hzx⟩ := List.mem_filterMap.1 hx
  obtain ⟨j, hj, rfl⟩ := List.getElem_of_mem (List.mem_of_mem_take hz)
  exact h j hj x (List.mem_of_getElem? hzx)
theorem colAll_wf {zss : List (List Int)} (h : ∀ j (hj : j < zss.length), ∀ x ∈ zss[j], (Lit.int .i64 x).wf = true) (k : Nat) : ∀ x ∈ colAll zss k, (Lit.int .i64 x).wf = true := by
  intro x hx
  unfold colAll at hx
  obtain ⟨i, -, hi⟩ := List.mem_flatMap.1 hx
  exact colTo_wf h _ _ x hi
/-- What the call owns, grown by one number that lies in a fresh block. -/
theorem snoc_run {w : World} {base : Nat} {v : Value} {F : List Int} (h : w.ownsRow base 3 1 v F.length (F.map (Value.int .i64))) (y : Int) (hF : F.length ≤ 200000000) (hb : base ≤ w.heap.size) (ty : TypeId) :
    ∃ v' w', (Builtin.append_ #[22, 22] ty #[v, .slice (some ⟨w.heap.size, 0, none⟩) 1 1]).run Try.prog (w.alloc (.cells #[.int .i64 y] 3)) = .ok v' w' ∧
      w'.ownsRow base 3 1 v' (F ++ [y]).length ((F ++ [y]).map (Value.int .i64)) ∧ (∀ w0 : World, Below w0.heap.size w0 w → w0.heap.size ≤ base → Below w0.heap.size w0 w') ∧
      (∀ g o, g < w.heap.size → v.ownBlock ≠ some g → w.heap[g]? = some o → w'.heap[g]? = some o ∧ v'.ownBlock ≠ some g) ∧ w.heap.size ≤ w'.heap.size ∧ ∃ p c, v' = .slice p (F.length + 1) c := by
  obtain ⟨i0, hi, hz0, hz1, hz2⟩ := info_parts info_i64
  have hb1 : Below w.heap.size w (w.alloc (.cells #[.int .i64 y] 3)) := (Below.refl _ _).alloc (Nat.le_refl _) _
  obtain ⟨v', w', hrun, hown, hgr, -, hat⟩ := run_append_own_at (P := Try.prog) (w.alloc (.cells #[.int .i64 y] 3)) base 22 ty 3 i0 (.int .i64 0) 1 8 Try.underlying22 hi hz0 hz1 hz2 rfl (by decide) _ _ _ (h.alloc _) ⟨w.heap.size, 0, none⟩ 1 1 [.int .i64 y] rfl (cell_one_new _ _ _) (one_cell _ _) (by unfold maxLen; omega) (by omega) (Nat.le_trans hb hb1.size)
  refine ⟨v', w', hrun, by rw [List.length_append, List.map_append]; exact hown, fun w0 B0 h0 => ?_, fun g o hg hne ho => ⟨?_, ?_⟩, by have := hgr.size; have := hb1.size; omega, own_shape hown⟩
  · have B1 := B0.trans (hb1.mono B0.size)
    exact B1.grown hgr B1.size (fun q hq => by have := own_block h q hq; omega)
  · rw [hgr.block g (Nat.lt_of_lt_of_le hg hb1.size) (fun e => hne e.symm), hb1.block g hg]; exact ho
  · rcases hat with e | e
    · rw [e]; exact hne
    · rw [e]; intro e2
      have := Option.some.inj e2
      have : (w.alloc (.cells #[.int .i64 y] 3)).heap.size = w.heap.size + 1 := by simp
      omega
set_option maxRecDepth 100000 in
set_option maxHeartbeats 1000000 in
theorem sCollected_any (v vr : Value) (zss : List (List Int)) (zr : List Int) (b : Nat) (w : World) (h : RdRows .i64 w v zss) (hl : zss.length ≤ 1048576) (hl2 : sumLen zss ≤ 1048576) (hr : RdAt .i64 w vr zr b) (hlr : zr.length ≤ 1048576) :
    Calls Try.prog 17 #[v, vr] w fun e w' => ∃ v', e = .returned v' ∧ WrIn .i64 (In w.heap.size w'.heap.size) w' v' (collected zss zr) ∧ Below w.heap.size w w' := by
  have hrow := fun j (hj : j < zss.length) => h.row hj
  have hwfz : ∀ j (hj : j < zss.length), ∀ x ∈ zss[j], (Lit.int .i64 x).wf = true := fun j hj => by
    obtain ⟨_, _, _, _, _, _, -, -, hrd, -⟩ := h.row hj
    exact hrd.wf
  obtain ⟨a, cap, rfl, -, -⟩ := id h
  obtain ⟨n, hn⟩ : ∃ n, n = zss.length := ⟨_, rfl⟩
  have Hn := Lib.hid hn
  have Hrow := Lib.hid hrow
  have Hwf := Lib.hid hwfz
  have HR := Lib.hid hr
  obtain ⟨pr, cr, er, -⟩ := id hr
  subst er
  have hown0 := World.ownsRow_lit (base := w.heap.size) (e := 3) (size := 1) w #[] 0 (Nat.le_refl _) (Nat.zero_le _) rfl
  have H0 : Hid ((w.alloc (.cells #[] 3)).ownsRow w.heap.size 3 1 (.slice (some ⟨w.heap.size, 0, none⟩) 0 0) (colAll zss 0).length ((colAll zss 0).map (Value.int .i64))) := Lib.hid (by simpa [colAll] using hown0)
  have HL := Lib.hid (fun k => colAll_len zss k)
  have HL2 := Lib.hid (fun i p => colTo_len zss i p)
  have HI0 : Hid (∀ (k : Nat) (wx : World) (o : Value), wx.ownsRow w.heap.size 3 1 o (colAll zss k).length ((colAll zss k).map (Value.int .i64)) → wx.ownsRow w.heap.size 3 1 o (colAll zss k ++ colTo zss k 0).length ((colAll zss k ++ colTo zss k 0).map (Value.int .i64))) := Lib.hid (fun k wx o ho => by rw [colTo_zero, List.append_nil]; exact ho)
  rw [← hn] at hl ⊢
  clear hn hrow h hown0 hr hl2 hwfz
  go_enter Try.func17, Try.ntmps17
  go_wp2_with fail
  go_loopw [5, 6, 7] (fun o i _ wr => ∃ k : Nat, k ≤ 100 ∧ i = .int .i64 k ∧ Below w.heap.size w wr ∧ Hid (wr.ownsRow w.heap.size 3 1 o (colAll zss k).length ((colAll zss k).map (Value.int .i64)))) (fun _ i _ _ => 100 - (intOf i).toNat)
  case atStart => exact ⟨0, Nat.zero_le _, rfl, (Below.refl _ _).alloc (Nat.le_refl _) _, H0⟩
  case round =>
    clear H0
    obtain ⟨k, hk, rfl, B, hown⟩ := hrel
    by_cases hlt : k < 100
    · have hkd : decide ((k : Int) < 100) = true := by simp; omega
      have hin0 := Lib.hid (HI0.out k _ _ hown.out)
      clear hown
      go_wp2_with fail
      go_loopw [5, 7] (fun o2 i2 wr => ∃ p : Nat, p ≤ n ∧ i2 = .int .i64 p ∧ Below w.heap.size w wr ∧ Hid (wr.ownsRow w.heap.size 3 1 o2 (colAll zss k ++ colTo zss k p).length ((colAll zss k ++ colTo zss k p).map (Value.int .i64)))) (fun _ i2 _ => n - (intOf i2).toNat)
      case atStart => exact ⟨0, Nat.zero_le _, rfl, B, hin0⟩
      case round =>
        clear hin0 B
        obtain ⟨p, hp, rfl, B, hown⟩ := hrel
        by_cases hlp : p < n
        · have hz : p < zss.length := by rw [← Hn.out]; exact hlp
          obtain ⟨blk, off, cap', pz, cz, bz, hv, hc, hrd, -⟩ := Hrow.out p hz
          have ha := (Value.slice.inj hv).1
          clear hv
          subst ha
          have hc1 : wr.cell? ⟨blk, off + p, none⟩ = some (.slice pz (zss[p]'hz).length cz) := (B.cell (World.block_lt_of_cell? _ _ hc)).trans hc
          have hst := colTo_step zss k p hz
          obtain ⟨po, co, eo⟩ := own_shape hown.out
          subst eo
          by_cases hkl : k < (zss[p]'hz).length
          · rw [dif_pos hkl] at hst
            obtain ⟨y, hy⟩ : ∃ y, y = (zss[p]'hz)[k] := ⟨_, rfl⟩
            obtain ⟨pa, ca, epa, -, -, hcell⟩ := hrd
            rcases hcell with e0 | ⟨off2, rfl, hcc⟩
            · rw [e0] at hkl; simp at hkl
            obtain ⟨rfl, rfl⟩ : pz = some ⟨bz, off2, none⟩ ∧ cz = ca := by simpa using epa
            have hc2 : wr.cell? ⟨bz, off2 + k, none⟩ = some (.int .i64 y) := by
              have h1 := hcc k hkl
              rw [(B.cell (World.block_lt_of_cell? _ _ h1)), h1, hy]
            rw [← hy] at hst
            have hFl : (colAll zss k ++ colTo zss k p).length ≤ 200000000 := by
              rw [List.length_append]
              have h1 := HL.out k
              have h2 := HL2.out k p
              rw [← Hn.out] at h1 h2
              have : k * n ≤ 99 * n := Nat.mul_le_mul_right _ (by omega)
              omega
            obtain ⟨v', w3, hrun, hown3, hB3, -, -, ⟨p3, c3, e3⟩⟩ := snoc_run hown.out y hFl B.size 22
            have HB3 := Lib.hid (hB3 w B (Nat.le_refl _))
            have hF2 : Hid (w3.ownsRow w.heap.size 3 1 v' (colAll zss k ++ colTo zss k (p + 1)).length ((colAll zss k ++ colTo zss k (p + 1)).map (Value.int .i64))) := Lib.hid (by rw [hst, ← List.append_assoc]; exact hown3)
            subst e3
            have Q := Lib.hid hrun
            clear hrun hown3 hB3 hst hcc hy epa hFl hown
            generalize (colAll zss k ++ colTo zss k p).length = m at *
            generalize (zss[p]'hz).length = q at *
            go_wp2_with (at_builtin; refine Lib.wpList_append_run _ rfl _ _ _ _ rfl _ _ rfl rfl _ _ Q.out ?_)
            go_roundw
            case rel => exact ⟨p + 1, by omega, by go_num, HB3.out, hF2⟩
            case measure => simp [intOf]; omega
          · rw [dif_neg hkl, List.append_nil] at hst
            have hF2 : Hid (wr.ownsRow w.heap.size 3 1 (.slice po (colAll zss k ++ colTo zss k p).length co) (colAll zss k ++ colTo zss k (p + 1)).length ((colAll zss k ++ colTo zss k (p + 1)).map (Value.int .i64))) := Lib.hid (by rw [hst]; exact hown.out)
            clear hst hown hrd
            generalize (colAll zss k ++ colTo zss k p).length = m at *
            generalize (zss[p]'hz).length = q at *
            go_wp2_with fail
            go_roundw
            case rel => exact ⟨p + 1, by omega, by go_num, B, hF2⟩
            case measure => simp [intOf]; omega
        · obtain rfl : p = n := by omega
          have hF2 : Hid (∀ o, wr.ownsRow w.heap.size 3 1 o (colAll zss k ++ colTo zss k p).length ((colAll zss k ++ colTo zss k p).map (Value.int .i64)) → wr.ownsRow w.heap.size 3 1 o (colAll zss (k + 1)).length ((colAll zss (k + 1)).map (Value.int .i64))) := Lib.hid (fun o ho => by rw [colAll_step, ← Hn.out]; exact ho)
          have hF3 := Lib.hid (hF2.out _ hown.out)
          clear hown hF2
          go_wp2_with fail
          go_roundw
          case rel => exact ⟨k + 1, by omega, by go_num, B, hF3⟩
          case measure => simp [intOf]; omega
    · obtain rfl : k = 100 := by omega
      obtain ⟨i0, hi, hz0, hz1, hz2⟩ := info_parts info_i64
      have hlen : (colAll zss 100).length ≤ 104857600 := by have := HL.out 100; have := Hn.out; omega
      obtain ⟨po, co, eo⟩ := own_shape hown.out
      subst eo
      have hown0 := hown.out
      have hfin : Hid (∀ v' w4, w4.ownsRow w.heap.size 3 1 v' ((colAll zss 100).length + zr.length) (((colAll zss 100).map (Value.int .i64)) ++ zr.map (Value.int .i64)) → WrIn .i64 (In w.heap.size w4.heap.size) w4 v' (collected zss zr)) := Lib.hid (fun v' w4 ho => by
        have ho2 := own_app ho
        obtain ⟨b', hb', hw'⟩ := own_wr ho2 (fun x hx => by
          rcases List.mem_append.1 hx with hx | hx
          · exact colAll_wf Hwf.out 100 x hx
          · exact HR.out.wf x hx)
        exact WrIn.of hw' hb')
      have hrB := HR.out.below B
      clear hown
      generalize (colAll zss 100).length = m at *
      go_wp2_with (at_builtin; refine wpList_append_rd _ rfl _ _ 22 rfl w.heap.size 3 i0 (.int .i64 0) 8 Try.underlying22 hi hz0 hz1 hz2 rfl _ _ _ rfl hown0 .i64 _ zr b rfl hrB ?d3 ?d4 B.size ?_)
      case d3 => unfold maxLen; omega
      case d4 => omega
      intro v4 w4 hown4 hgr4
      have B4 : Below w.heap.size w w4 := B.grown hgr4 B.size (own_block hown0)
      have HF := Lib.hid (hfin.out _ _ hown4)
      clear hown4 hgr4 hown0 hrB
      go_wp2_with fail
      go_ret
      exact ⟨_, rfl, HF.out, B4⟩
theorem step_append_runC {P : Program} {ops : Array Oper} {o : Oper} {a : Act} {w : World} {K : Act → World → Prop} {Q : Exit → Act → World → Prop} {E : Prop} (hg : o.guard = none) (s x : Operand) (t tn : TypeId)
    (ho : o.op = .call { callee := .builtin .append, args := #[s, x], argTypes := #[t, tn] }) (vs vx : Value) (hs : a.eval s = vs) (hx : a.eval x = vx)
    (v' : Value) (w' : World) (hr : (Builtin.append_ #[t, tn] o.type #[vs, vx]).run P w = .ok v' w') (h : K (a.put o.dst v') w') : if Region.wanted o (yielded ops a.tmps) = true then Oper.wp P o a w K Q else E := by
  have hw : Region.wanted o (yielded ops a.tmps) = true := by simp [Region.wanted, hg]
  rw [if_pos hw]
  exact Lib.wp_append_run w s x t tn ho vs vx hs hx v' w' hr h
/-- A variable in a box that holds a slice of the call's own. -/
def CB (w : World) (base g : Nat) (F : List Int) : Prop :=
  ∃ (v : Value) (t : TypeId), w.heap[g]? = some (.cells #[v] t (0, 0)) ∧ w.ownsRow base 3 1 v F.length (F.map (Value.int .i64)) ∧ v.ownBlock ≠ some g
set_option maxRecDepth 100000 in
set_option maxHeartbeats 1000000 in
theorem collect1_any (base g blk off p i : Nat) (F zs : List Int) (pz : Option Addr) (cz bz : Nat) (w0 w : World) (hC : CB w base g F) (B0 : Below w0.heap.size w0 w) (hbase : w0.heap.size ≤ base) (hg0 : w0.heap.size ≤ g) (hbs : base ≤ w.heap.size)
    (hc : w0.cell? ⟨blk, off + p, none⟩ = some (.slice pz zs.length cz)) (hrd : RdAt .i64 w0 (.slice pz zs.length cz) zs bz) (hF : F.length ≤ 200000000) (hzl : zs.length ≤ 1048576) :
    Calls Try.prog 31 #[.pointer (some ⟨blk, off + p, none⟩), .int .i64 i, .pointer (some ⟨g, 0, none⟩)] w fun e w' => e = .returned (.tuple #[]) ∧ CB w' base g (F ++ if hi : i < zs.length then [zs[i]] else []) ∧ Below w0.heap.size w0 w' ∧ w.heap.size ≤ w'.heap.size := by
  have hcw : w.cell? ⟨blk, off + p, none⟩ = some (.slice pz zs.length cz) := (B0.cell (World.block_lt_of_cell? _ _ hc)).trans hc
  by_cases hi : i < zs.length
  · rw [dif_pos hi]
    obtain ⟨v, t, h1, h2, h3⟩ := hC
    obtain ⟨pa, ca, epa, -, -, hcell⟩ := hrd
    rcases hcell with e0 | ⟨off2, rfl, hcc⟩
    · rw [e0] at hi; simp at hi
    obtain ⟨rfl, rfl⟩ : pz = some ⟨bz, off2, none⟩ ∧ cz = ca := by simpa using epa
    obtain ⟨y, hy⟩ : ∃ y, y = zs[i] := ⟨_, rfl⟩
    have hyc : w.cell? ⟨bz, off2 + i, none⟩ = some (.int .i64 y) := by
      have h := hcc i hi
      rw [(B0.cell (World.block_lt_of_cell? _ _ h)), h, hy]
    rw [← hy]
    have hgl : g < w.heap.size := (Array.getElem?_eq_some_iff.1 h1).1
    have bD : Below w.heap.size w w.drew := (Below.refl _ _).drew
    have hBD : Below w0.heap.size w0 w.drew := B0.trans (bD.mono B0.size)
    obtain ⟨v', w3, hrun, hown3, hB3, hK3, hs3, ⟨p3, c3, e3⟩⟩ := snoc_run (own_below h2 bD) y hF (Nat.le_trans hbs bD.size) 22
    have hBw3 := hB3 w0 hBD hbase
    obtain ⟨hg3, hne3⟩ := hK3 g _ (Nat.lt_of_lt_of_le hgl bD.size) h3 ((bD.block g hgl).trans h1)
    obtain ⟨po, co, eo⟩ := own_shape h2
    subst eo
    subst e3
    have c1 : w.cell? ⟨g, 0, none⟩ = some (.slice po F.length co) := by simp [World.cell?, h1]
    have c2 : (w.drew.alloc (.cells #[.int .i64 y] 3)).cell? ⟨g, 0, none⟩ = some (.slice po F.length co) := by
      have hb : Below w.heap.size w (w.drew.alloc (.cells #[.int .i64 y] 3)) := bD.alloc bD.size _
      exact (hb.cell (World.block_lt_of_cell? _ _ c1)).trans c1
    have c3' : w3.cell? ⟨g, 0, none⟩ = some (.slice po F.length co) := by simp [World.cell?, hg3]
    have f3 : w3.frozen? ⟨g, 0, none⟩ = false := by simp [World.frozen?, hg3]
    have hfin : Hid (CB (w3.setCell ⟨g, 0, none⟩ (.slice p3 (F.length + 1) c3)) base g (F ++ [y]) ∧ Below w0.heap.size w0 (w3.setCell ⟨g, 0, none⟩ (.slice p3 (F.length + 1) c3)) ∧ w.heap.size ≤ (w3.setCell ⟨g, 0, none⟩ (.slice p3 (F.length + 1) c3)).heap.size) := Lib.hid (by
      refine ⟨⟨_, t, ?_, ?_, hne3⟩, hBw3.setCell hg0 _, by simp [World.setCell]; have := bD.size; omega⟩
      · simp [World.setCell, Array.getElem?_modify, hg3]
      · obtain ⟨hl, h⟩ := hown3
        refine ⟨hl, h.imp id ?_⟩
        rintro ⟨g', cap', cur, e', hg, hh, r⟩
        refine ⟨g', cap', cur, e', hg, ?_, r⟩
        rw [Below.heap_setCell _ _ _ _ (fun e => hne3 (by rw [e']; exact congrArg some (show g' = g from e)))]; exact hh)
    have Q := Lib.hid hrun
    have iL : (i : Int) < (zs.length : Int) := by omega
    have iN : (0 : Int) ≤ (i : Int) := by omega
    clear hrun hown3 hB3 hK3 hg3 hne3 hBw3 h1 h2 h3 hcc hy hc epa B0 hBD bD hF
    generalize F.length = m at *
    generalize zs.length = q at *
    go_enter Try.func31, Try.ntmps31
    go_wp2_with fail
    go_region_law (refine step_append_runC rfl (.tmp 11) (.tmp 18) 22 22 rfl _ _ rfl rfl _ _ Q.out ?_)
    all_goals
      go_wp2_with fail
      exact bodyPost_end (v := .tuple #[]) (by first | rfl | simp [results, go_sem]) rfl ⟨rfl, hfin.out⟩
  · rw [dif_neg hi, List.append_nil]
    have hCh := Lib.hid hC
    have iL : ¬ (i : Int) < (zs.length : Int) := by omega
    have iD : decide ((i : Int) < (zs.length : Int)) = false := by simp; omega
    clear hC hrd hc
    generalize zs.length = q at *
    go_enter Try.func31, Try.ntmps31
    go_wp2_with fail
    exact bodyPost_end (v := .tuple #[]) (by first | rfl | simp [results, go_sem]) rfl ⟨rfl, hCh.out, B0, Nat.le_refl _⟩
set_option maxRecDepth 100000 in
set_option maxHeartbeats 1000000 in
theorem roundC_any (base g : Nat) (v : Value) (zss : List (List Int)) (w0 w : World) (h : RdRows .i64 w0 v zss) (hl : zss.length ≤ 1048576) (hl2 : sumLen zss ≤ 1048576) (hC : CB w base g (colAll zss 0)) (B0 : Below w0.heap.size w0 w) (hbase : w0.heap.size ≤ base) (hg0 : w0.heap.size ≤ g) (hbs : base ≤ w.heap.size) :
    Calls Try.prog 30 #[v, .int .i64 100, .func (.func 31) #[] #[.pointer (some ⟨g, 0, none⟩)]] w fun e w' => e = .returned (.tuple #[]) ∧ CB w' base g (colAll zss 100) ∧ Below w0.heap.size w0 w' ∧ base ≤ w'.heap.size := by
  have hrow := fun j (hj : j < zss.length) => h.row hj
  obtain ⟨a, cap, rfl, -, -⟩ := id h
  obtain ⟨n, hn⟩ : ∃ n, n = zss.length := ⟨_, rfl⟩
  have Hn := Lib.hid hn
  have Hrow := Lib.hid hrow
  have Hsum : Hid (∀ j (hj : j < zss.length), zss[j].length ≤ 1048576) := Lib.hid (fun j hj => Nat.le_trans (len_le_sum zss hj) hl2)
  have HL := Lib.hid (fun k => colAll_len zss k)
  have HL2 := Lib.hid (fun i p => colTo_len zss i p)
  have H0 := Lib.hid hC
  rw [← hn] at hl ⊢
  clear hn hrow h hl2 hC
  go_enter Try.func30, Try.ntmps30
  go_wp2_with fail
  go_loopw [6, 7, 9] (fun _ _ i wr => ∃ k : Nat, k ≤ 100 ∧ i = .int .i64 k ∧ Below w0.heap.size w0 wr ∧ base ≤ wr.heap.size ∧ Hid (CB wr base g (colAll zss k))) (fun _ _ i _ => 100 - (intOf i).toNat)
  case atStart => exact ⟨0, Nat.zero_le _, rfl, B0, hbs, H0⟩
  case round =>
    clear H0 B0 hbs
    obtain ⟨k, hk, rfl, B, hbs, hC⟩ := hrel
    by_cases hlt : k < 100
    · have hkd : decide ((k : Int) < 100) = true := by simp; omega
      have hin0 : Hid (CB wr base g (colAll zss k ++ colTo zss k 0)) := Lib.hid (by rw [colTo_zero, List.append_nil]; exact hC.out)
      clear hC
      go_wp2_with fail
      go_loopw [7, 14] (fun _ i2 wr => ∃ p : Nat, p ≤ n ∧ i2 = .int .i64 p ∧ Below w0.heap.size w0 wr ∧ base ≤ wr.heap.size ∧ Hid (CB wr base g (colAll zss k ++ colTo zss k p))) (fun _ i2 _ => n - (intOf i2).toNat)
      case atStart => exact ⟨0, Nat.zero_le _, rfl, B, hbs, hin0⟩
      case round =>
        clear hin0 B hbs
        obtain ⟨p, hp, rfl, B, hbs, hC⟩ := hrel
        by_cases hlp : p < n
        · have hz : p < zss.length := by rw [← Hn.out]; exact hlp
          obtain ⟨blk, off, cap', pz, cz, bz, hv, hc, hrd, -⟩ := Hrow.out p hz
          have ha := (Value.slice.inj hv).1
          clear hv
          subst ha
          have hFl : (colAll zss k ++ colTo zss k p).length ≤ 200000000 := by
            rw [List.length_append]
            have h1 := HL.out k
            have h2 := HL2.out k p
            rw [← Hn.out] at h1 h2
            have : k * n ≤ 99 * n := Nat.mul_le_mul_right _ (by omega)
            omega
          have hst := colTo_step zss k p hz
          have HC := Lib.hid (collect1_any base g blk off p k _ (zss[p]'hz) pz cz bz w0 wr hC.out B hbase hg0 hbs hc hrd hFl (Hsum.out p hz))
          rw [List.append_assoc, ← hst] at HC
          clear hst hFl hrd hc hC
          go_wp2_with fail
          refine HC.out.mono ?_
          rintro e w2 ⟨rfl, hC2, B2, hs2⟩
          have HC2 := Lib.hid hC2
          clear hC2 HC
          have hbs2 : base ≤ w2.heap.size := by omega
          go_wp2_with fail
          go_roundw
          case rel => exact ⟨p + 1, by omega, by go_num, B2, hbs2, HC2⟩
          case measure => simp [intOf]; omega
        · obtain rfl : p = n := by omega
          have hF3 : Hid (CB wr base g (colAll zss (k + 1))) := Lib.hid (by rw [colAll_step, ← Hn.out]; exact hC.out)
          clear hC
          go_wp2_with fail
          go_roundw
          case rel => exact ⟨k + 1, by omega, by go_num, B, hbs, hF3⟩
          case measure => simp [intOf]; omega
    · obtain rfl : k = 100 := by omega
      go_wp2_with fail
      exact bodyPost_end (v := .tuple #[]) (by first | rfl | simp [results, go_sem]) rfl ⟨rfl, hC.out, B, hbs⟩
set_option maxRecDepth 100000 in
set_option maxHeartbeats 1000000 in
theorem collected_any (v vr : Value) (zss : List (List Int)) (zr : List Int) (b : Nat) (w : World) (h : RdRows .i64 w v zss) (hl : zss.length ≤ 1048576) (hl2 : sumLen zss ≤ 1048576) (hr : RdAt .i64 w vr zr b) (hlr : zr.length ≤ 1048576) :
    Calls Try.prog 20 #[v, vr] w fun e w' => ∃ v', e = .returned v' ∧ WrIn .i64 (In w.heap.size w'.heap.size) w' v' (collected zss zr) ∧ Below w.heap.size w w' := by
  have hwfz : ∀ j (hj : j < zss.length), ∀ x ∈ zss[j], (Lit.int .i64 x).wf = true := fun j hj => by
    obtain ⟨_, _, _, _, _, _, -, -, hrd, -⟩ := h.row hj
    exact hrd.wf
  obtain ⟨a, cap, ev, -, -⟩ := id h
  obtain ⟨pr, cr, er, -⟩ := id hr
  have hlen : (colAll zss 100).length ≤ 104857600 := by have := colAll_len zss 100; omega
  have HR := Lib.hid hr
  have Hwf := Lib.hid hwfz
  have HO := Lib.hid (fun wx (hC : CB wx w.heap.size (w.heap.size + 1) (colAll zss 0)) (B : Below w.heap.size w wx) => roundC_any w.heap.size (w.heap.size + 1) v zss w wx h hl hl2 hC B (Nat.le_refl _) (by omega) B.size)
  subst ev er
  clear h hr hwfz hl hl2
  have hown0 := World.ownsRow_lit (base := w.heap.size) (e := 3) (size := 1) w #[] 0 (Nat.le_refl _) (Nat.zero_le _) rfl
  have B1 : Below w.heap.size w ((w.alloc (.cells #[] 3)).alloc (.cells #[.slice (some ⟨w.heap.size, 0, none⟩) 0 0] 22)) := ((Below.refl _ _).alloc (Nat.le_refl _) _).alloc (by simp) _
  have hC0 : CB ((w.alloc (.cells #[] 3)).alloc (.cells #[.slice (some ⟨w.heap.size, 0, none⟩) 0 0] 22)) w.heap.size (w.heap.size + 1) (colAll zss 0) := by
    refine ⟨_, 22, ?_, by simpa [colAll] using hown0.alloc _, by simp [Value.ownBlock]⟩
    show ((w.heap.push _).push _)[_]? = _
    rw [Array.getElem?_push, if_pos (by simp)]
  have HO1 := Lib.hid (HO.out _ hC0 B1)
  clear hC0 B1 hown0
  go_enter Try.func20, Try.ntmps20
  go_wp2_with fail
  refine HO1.out.mono ?_
  rintro e w2 ⟨rfl, hC2, B2, hs2⟩
  obtain ⟨v2, t2, hg2, hown2, -⟩ := hC2
  obtain ⟨i0, hi, hz0, hz1, hz2⟩ := info_parts info_i64
  have hc2 : w2.cell? ⟨w.heap.size + 1, 0, none⟩ = some v2 := by simp [World.cell?, hg2]
  obtain ⟨po, co, eo⟩ := own_shape hown2
  subst eo
  have hfin : Hid (∀ v' w4, w4.ownsRow w.heap.size 3 1 v' ((colAll zss 100).length + zr.length) (((colAll zss 100).map (Value.int .i64)) ++ zr.map (Value.int .i64)) → WrIn .i64 (In w.heap.size w4.heap.size) w4 v' (collected zss zr)) := Lib.hid (fun v' w4 ho => by
    have ho2 := own_app ho
    obtain ⟨b', hb', hw'⟩ := own_wr ho2 (fun x hx => by
      rcases List.mem_append.1 hx with hx | hx
      · exact colAll_wf Hwf.out 100 x hx
      · exact HR.out.wf x hx)
    exact WrIn.of hw' hb')
  have hrB := HR.out.below B2
  clear hg2
  generalize (colAll zss 100).length = m at *
  go_wp2_with (at_builtin; refine wpList_append_rd _ rfl _ _ 22 rfl w.heap.size 3 i0 (.int .i64 0) 8 Try.underlying22 hi hz0 hz1 hz2 rfl _ _ _ rfl hown2 .i64 _ zr b rfl hrB ?d3 ?d4 B2.size ?_)
  case d3 => unfold maxLen; omega
  case d4 => omega
  intro v4 w4 hown4 hgr4
  have B4 : Below w.heap.size w w4 := B2.grown hgr4 B2.size (own_block hown2)
  have HF := Lib.hid (hfin.out _ _ hown4)
  clear hown4 hgr4 hown2 hrB
  go_wp2_with fail
  go_ret
  exact ⟨_, rfl, HF.out, B4⟩
end Go.Proofs.Ytnkhdgalmpcacaa
