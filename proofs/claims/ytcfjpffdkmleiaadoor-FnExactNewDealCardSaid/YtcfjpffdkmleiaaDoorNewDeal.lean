/-
  NewDeal, both sides.
-/
import Derived.Test.YtcfjpffdkmleiaaDoorDCopy
import Derived.Test.YtcfjpffdkmleiaaDoorIsDeal
import Derived.Test.YtcfjpffdkmleiaaDoorIsDealS
import Derived.OwnWalk
import Derived.Laws.OwnMore
namespace Go.Proofs.YtcfjpffdkmleiaaDoor
open Go.RowKit
set_option linter.unusedVariables false
set_option linter.unusedSimpArgs false

def newD0 (zss : List (List Int)) (l t : Int) : MDeal := ⟨zss, l, t, [], List.replicate zss.length 0, List.replicate zss.length 0, ((zss.headD []).length : Int)⟩
def newD (zss : List (List Int)) (l t : Int) : MDeal := if isDeal (newD0 zss l t) then newD0 zss l t else ⟨[], 0, 0, [], [], [], 0⟩
theorem newD_few {zss : List (List Int)} {l t : Int} (h0 : zss.length ≤ 1048576) (h1 : sumLen zss ≤ 1048576) : (newD zss l t).Few := by
  unfold newD MDeal.Few
  by_cases h : isDeal (newD0 zss l t) = true
  · rw [if_pos h]; simp [newD0]; omega
  · rw [if_neg h]; simp [sumLen]
theorem zero_deal (S : Nat → Prop) (w : World) : WrDeal S w (.agg #[.slice none 0 0, .int .i64 0, .int .i64 0, .slice none 0 0, .slice none 0 0, .slice none 0 0, .int .i64 0]) ⟨[], 0, 0, [], [], [], 0⟩ := by
  refine ⟨none, none, none, none, 0, 0, 0, 0, fun _ => False, fun _ => False, fun _ => False, fun _ => False, rfl, ?_, (OwnI.nil _ _ none).wr, (OwnI.nil _ _ none).wr, (OwnI.nil _ _ none).wr, ?_⟩
  · exact ⟨none, 0, rfl, ⟨Nat.le_refl _, Nat.zero_le _, fun _ => rfl⟩, .inl rfl⟩
  · refine ⟨?_, ?_, ?_, ?_, ?_, ?_, ?_, ?_, ?_, ?_, by decide, by decide, by decide⟩ <;> (intro b hb; cases hb)
section
variable {P : Program} {ops : Array Oper}
theorem wp_make_run {o : Oper} {a : Act} {w : World} {K : Act → World → Prop} {Q : Exit → Act → World → Prop} (l c : Operand) (t : TypeId) (ho : o.op = .makeSlice t l c) (vl vc : Value) (hl : a.eval l = vl) (hc : a.eval c = vc) (v : Value) (w' : World)
    (hr : (Instr.makeSlice t vl vc).run P w = .ok v w') (h : K (a.put o.dst v) w') : o.wp P a w K Q := by
  unfold Oper.wp
  simp [execOp, ho, hl, hc, hr, Result.andThen]
  exact h
end
theorem make_ints (wx : World) (n : Nat) (hn : n ≤ 1048576) : ∃ v w2, (Instr.makeSlice 23 (.int .i64 (n : Int)) (.int .i64 (n : Int))).run Tryd.prog wx = .ok v w2 ∧ OwnI (In wx.heap.size w2.heap.size) w2 v (List.replicate n 0) ∧ Below wx.heap.size wx w2 := by
  obtain ⟨i1, gi, gz0, gz1, gz2⟩ := info_parts info_i64
  obtain ⟨w2, hrun, hown, hgr⟩ := run_make_full (P := Tryd.prog) wx wx.heap.size 23 3 i1 (.int .i64 0) 1 Tryd.underlying23 gi gz0 gz1 .i64 .i64 n (by rw [gz2]; omega) (by unfold maxLen; omega) (Nat.le_refl _)
  refine ⟨_, w2, hrun, ?_, (Below.refl _ _).grown hgr (Nat.le_refl _) (fun k hk => by cases hk)⟩
  refine OwnI.of (zs := List.replicate n 0) ?_ (fun x hx => by rw [(List.mem_replicate.1 hx).2]; decide)
  rw [Nat.mul_one] at hown
  have e : (madeCells (Value.int .i64 0).cells n).toList = (List.replicate n (0 : Int)).map (Value.int .i64) := by
    rw [List.map_replicate]
    show (madeCells #[Value.int .i64 0] n).toList = _
    rw [toList_madeCells_one]
  rw [e] at hown
  rw [List.length_replicate]
  exact hown
/-- A new deal, laid into its box. -/
theorem nd_boxed {lo r l0 u0 l4 u4 l5 u5 d0 d3 d4 d5 : Nat} {w0 wx : World} {q0 q3 q4 q5 : Option Addr} {old : Array Value} {zss : List (List Int)} {wz : List Int} {l t : Int} (h0 : OwnR (In l0 u0) wx (.slice q0 zss.length d0) zss) (h3 : OwnI (fun _ => False) wx (.slice q3 0 d3) []) (h4 : OwnI (In l4 u4) wx (.slice q4 wz.length d4) wz) (h5 : OwnI (In l5 u5) wx (.slice q5 wz.length d5) wz)
    (i0 : lo ≤ l0 ∧ u0 ≤ wx.heap.size) (i4 : lo ≤ l4 ∧ u4 ≤ wx.heap.size) (i5 : lo ≤ l5 ∧ u5 ≤ wx.heap.size)
    (x2 : u0 ≤ l4 ∨ u4 ≤ l0) (x3 : u0 ≤ l5 ∨ u5 ≤ l0) (x6 : u4 ≤ l5 ∨ u5 ≤ l4)
    (wf0 : (Lit.int .i64 l).wf = true) (wf1 : (Lit.int .i64 t).wf = true) (r0 : r < l0 ∨ u0 ≤ r) (r4 : r < l4 ∨ u4 ≤ r) (r5 : r < l5 ∨ u5 ≤ r) (hr : lo ≤ r) (g1 : wx.heap[r]? = some (.cells old 31 (0, 0))) (B : Below lo w0 wx) :
    (wx.setRow r #[.slice q0 zss.length d0, .int .i64 l, .int .i64 t, .slice q3 0 d3, .slice q4 wz.length d4, .slice q5 wz.length d5, .int .i64 0]).heap[r]? = some (.cells #[.slice q0 zss.length d0, .int .i64 l, .int .i64 t, .slice q3 0 d3, .slice q4 wz.length d4, .slice q5 wz.length d5, .int .i64 0] 31 (0, 0)) ∧ OwnDeal (fun b => lo ≤ b ∧ b < (wx.setRow r #[.slice q0 zss.length d0, .int .i64 l, .int .i64 t, .slice q3 0 d3, .slice q4 wz.length d4, .slice q5 wz.length d5, .int .i64 0]).heap.size ∧ b ≠ r) (wx.setRow r #[.slice q0 zss.length d0, .int .i64 l, .int .i64 t, .slice q3 0 d3, .slice q4 wz.length d4, .slice q5 wz.length d5, .int .i64 0]) (.agg #[.slice q0 zss.length d0, .int .i64 l, .int .i64 t, .slice q3 0 d3, .slice q4 wz.length d4, .slice q5 wz.length d5, .int .i64 0]) ⟨zss, l, t, [], wz, wz, 0⟩ ∧ Below lo w0 (wx.setRow r #[.slice q0 zss.length d0, .int .i64 l, .int .i64 t, .slice q3 0 d3, .slice q4 wz.length d4, .slice q5 wz.length d5, .int .i64 0]) := by
  have tR := touchRow wx r #[.slice q0 zss.length d0, .int .i64 l, .int .i64 t, .slice q3 0 d3, .slice q4 wz.length d4, .slice q5 wz.length d5, .int .i64 0]
  have hs : (wx.setRow r #[.slice q0 zss.length d0, .int .i64 l, .int .i64 t, .slice q3 0 d3, .slice q4 wz.length d4, .slice q5 wz.length d5, .int .i64 0]).heap.size = wx.heap.size := by simp [World.setRow]
  refine ⟨setRow_heap _ _ _ _ _ _ g1, ⟨q0, q3, q4, q5, d0, d3, d4, d5, In l0 u0, fun _ => False, In l4 u4, In l5 u5, rfl, h0.touch tR (fun b hb e => by have := hb.1; have := hb.2; omega), h3.touch tR (fun b hb => hb.elim), h4.touch tR (fun b hb e => by have := hb.1; have := hb.2; omega), h5.touch tR (fun b hb e => by have := hb.1; have := hb.2; omega), ?_, ?_, ?_, ?_, ?_, ?_, ?_, ?_, ?_, ?_, wf0, wf1, (by show (Lit.int .i64 0).wf = true; decide)⟩, below_setRow B hr _⟩
  · intro b hb; obtain ⟨h1, h2⟩ := hb; exact ⟨by omega, by omega, by omega⟩
  · intro b hb; exact hb.elim
  · intro b hb; obtain ⟨h1, h2⟩ := hb; exact ⟨by omega, by omega, by omega⟩
  · intro b hb; obtain ⟨h1, h2⟩ := hb; exact ⟨by omega, by omega, by omega⟩
  all_goals (intro b hb hc; first | exact hb.elim | exact hc.elim | (obtain ⟨h1, h2⟩ := hb; obtain ⟨h3, h4⟩ := hc; omega))
theorem OwnDeal.left {S : Nat → Prop} {w : World} {c0 c1 c2 c3 c4 c5 : Value} {D : MDeal} (h : OwnDeal S w (.agg #[c0, c1, c2, c3, c4, c5, .int .i64 D.left]) D) (k : Int) (hk : (Lit.int .i64 k).wf = true) : OwnDeal S w (.agg #[c0, c1, c2, c3, c4, c5, .int .i64 k]) { D with left := k } := by
  obtain ⟨p0, p3, p4, p5, e0, e3, e4, e5, S0, S3, S4, S5, e, h0, h3, h4, h5, s0, s3, s4, s5, d1, d2, d3, d4', d5', d6, wf0, wf1, wf2⟩ := h
  simp at e
  obtain ⟨rfl, rfl, rfl, rfl, rfl, rfl⟩ := e
  exact ⟨p0, p3, p4, p5, e0, e3, e4, e5, S0, S3, S4, S5, rfl, h0, h3, h4, h5, s0, s3, s4, s5, d1, d2, d3, d4', d5', d6, wf0, wf1, hk⟩
theorem newD0_nil (l t : Int) : isDeal (newD0 [] l t) = false := isDeal_no1 (by unfold shape1 newD0; simp)
set_option maxRecDepth 100000 in
set_option maxHeartbeats 2000000 in
theorem newDeal_any (a0 a1 : Addr) (v : Value) (zss : List (List Int)) (l t : Int) (w : World) (h : RdRows .i64 w v zss) (f0 : zss.length ≤ 1048576) (f1 : sumLen zss ≤ 1048576) (wl : (Lit.int .i64 l).wf = true) (wt : (Lit.int .i64 t).wf = true) (hS : Sent a0 a1 w) :
    Calls Tryd.prog 21 #[v, .int .i64 l, .int .i64 t] w fun e w' => ∃ v', e = .returned (.tuple #[v', .bool (isDeal (newD0 zss l t))]) ∧ WrDeal (In w.heap.size w'.heap.size) w' v' (newD zss l t) ∧ Below w.heap.size w w' := by
  obtain ⟨p0, c0, rfl, -⟩ := id h
  obtain ⟨W0, hW0⟩ : ∃ W, W = w.alloc (.cells #[.slice none 0 0, .int .i64 0, .int .i64 0, .slice none 0 0, .slice none 0 0, .slice none 0 0, .int .i64 0] 31) := ⟨_, rfl⟩
  have G0 : W0.heap[w.heap.size]? = some (.cells #[.slice none 0 0, .int .i64 0, .int .i64 0, .slice none 0 0, .slice none 0 0, .slice none 0 0, .int .i64 0] 31 (0, 0)) := by rw [hW0]; exact heap_alloc_new _ _
  have hsz : W0.heap.size = w.heap.size + 1 := by rw [hW0]; simp
  have B0 : Below w.heap.size w W0 := by rw [hW0]; exact (Below.refl _ _).alloc (Nat.le_refl _) _
  have Bx : ∀ wx, Below W0.heap.size W0 wx → Below w.heap.size w wx := fun wx hb => B0.trans (hb.mono B0.size)
  have HCp := Lib.hid (fun wx (hb : Below W0.heap.size W0 wx) => copyRows_own _ zss wx (h.below (Bx wx hb)) f0 f1)
  have HSn := Lib.hid (fun wx (hb : Below W0.heap.size W0 wx) => hS.below (Bx wx hb) (Nat.le_refl _))
  have Hwl := Lib.hid wl
  have Hwt := Lib.hid wt
  clear wl wt
  have HRow := Lib.hid (fun wx (hb : Below W0.heap.size W0 wx) => h.below (Bx wx hb))
  have HG := Lib.hid (fun wx (hb : Below W0.heap.size W0 wx) => (hb.block _ (show w.heap.size < W0.heap.size by omega)).trans G0)
  have HB := Lib.hid Bx
  have Hsz := Lib.hid hsz
  have Hsum : Hid (∀ j (hj : j < zss.length), zss[j].length ≤ 1048576) := Lib.hid (fun j hj => Nat.le_trans (len_le_sum zss hj) f1)
  have Hfew : Hid (∀ k, MDeal.Few ⟨zss, l, t, [], List.replicate zss.length 0, List.replicate zss.length 0, k⟩) := Lib.hid (fun k => ⟨f0, f1, by simp, by simpa using f0, by simpa using f0⟩)
  obtain ⟨n, hn⟩ : ∃ n, n = zss.length := ⟨_, rfl⟩
  obtain ⟨wz, hwz⟩ : ∃ z, z = List.replicate zss.length (0 : Int) := ⟨_, rfl⟩
  have HM : Hid (∀ wx, ∃ v w2, (Instr.makeSlice 23 (.int .i64 (n : Int)) (.int .i64 (n : Int))).run Tryd.prog wx = .ok v w2 ∧ OwnI (In wx.heap.size w2.heap.size) w2 v wz ∧ Below wx.heap.size wx w2) := Lib.hid (fun wx => by rw [hwz, hn]; exact make_ints wx _ f0)
  rw [← hwz] at Hfew
  rw [← hn] at HCp ⊢
  have Hn := Lib.hid hn
  have Hwz := Lib.hid hwz
  have HW := Lib.hid hW0
  clear hn hwz hW0 G0 hsz B0 Bx f0 f1 h hS
  go_enter Tryd.func21, Tryd.ntmps21
  go_upto_region 1 with fail
  rw [← HW.out]
  refine wp_region_table [(0, some 9, .is (.slice p0 n c0)), (1, some 10, .rows zss), (2, some 11, .is (.int .i64 l)), (3, some 12, .is (.int .i64 t)), (4, some 13, .zero), (5, some 14, .is (.slice p0 n c0)), (6, some 15, .is (.int .i64 n)), (7, some 16, .ints wz), (8, some 17, .is (.slice p0 n c0)), (9, some 18, .is (.int .i64 n)), (10, some 19, .ints wz), (11, some 20, .fn [1, 4, 7, 10] (fun vs => .agg #[vs.getD 0 undef, .int .i64 l, .int .i64 t, vs.getD 1 undef, vs.getD 2 undef, vs.getD 3 undef, .int .i64 0])), (12, some 8, .box #[.slice none 0 0, .int .i64 0, .int .i64 0, .slice none 0 0, .slice none 0 0, .slice none 0 0, .int .i64 0] 31)] 1 (by kernel_rfl) (by kernel_rfl) (by kernel_rfl) (by kernel_rfl) (by kernel_rfl) (L := #[true, true, true, true, true, true, true, true, true, true, true, true, true, false]) (by kernel_rfl) ?steps ?fin
  case steps =>
    refine StepsT.cons [] (by simp only [List.getElem?_toArray, List.getElem?_cons_succ, List.getElem?_cons_zero]; rfl) (by kernel_rfl) (by rfl) (fun wx val iv hB hV K hK => ?_) ?_
    · clear hV; simp only [putT, List.foldl_cons, List.foldl_nil, Made.val, Act.put, List.setIfInBounds_toArray, List.set_cons_zero, List.set_cons_succ]; go_simp; exact hK.out _ _ rfl (Below.refl _ _)
    refine StepsT.cons [(0, some 9, .is (.slice p0 n c0))] (by simp only [List.getElem?_toArray, List.getElem?_cons_succ, List.getElem?_cons_zero]; rfl) (by kernel_rfl) (by rfl) (fun wx val iv hB hV K hK => ?_) ?_
    · (clear hV; simp only [putT, List.foldl_cons, List.foldl_nil, Made.val, Act.put, List.setIfInBounds_toArray, List.set_cons_zero, List.set_cons_succ]; go_simp; go_at_call 49; refine (HCp.out wx hB).mono ?_; rintro e wa ⟨va, rfl, hwa, Ba⟩; exact hK.out _ _ hwa Ba)
    refine StepsT.cons [] (by simp only [List.getElem?_toArray, List.getElem?_cons_succ, List.getElem?_cons_zero]; rfl) (by kernel_rfl) (by rfl) (fun wx val iv hB hV K hK => ?_) ?_
    · clear hV; simp only [putT, List.foldl_cons, List.foldl_nil, Made.val, Act.put, List.setIfInBounds_toArray, List.set_cons_zero, List.set_cons_succ]; go_simp; exact hK.out _ _ rfl (Below.refl _ _)
    refine StepsT.cons [] (by simp only [List.getElem?_toArray, List.getElem?_cons_succ, List.getElem?_cons_zero]; rfl) (by kernel_rfl) (by rfl) (fun wx val iv hB hV K hK => ?_) ?_
    · clear hV; simp only [putT, List.foldl_cons, List.foldl_nil, Made.val, Act.put, List.setIfInBounds_toArray, List.set_cons_zero, List.set_cons_succ]; go_simp; exact hK.out _ _ rfl (Below.refl _ _)
    refine StepsT.cons [] (by simp only [List.getElem?_toArray, List.getElem?_cons_succ, List.getElem?_cons_zero]; rfl) (by kernel_rfl) (by rfl) (fun wx val iv hB hV K hK => ?_) ?_
    · simp only [putT, List.foldl_cons, List.foldl_nil, Made.val, Act.put, List.setIfInBounds_toArray, List.set_cons_zero, List.set_cons_succ]; go_simp; exact hK.out _ _ ⟨_, rfl⟩ ((Below.refl _ _).alloc (Nat.le_refl _) _)
    refine StepsT.cons [] (by simp only [List.getElem?_toArray, List.getElem?_cons_succ, List.getElem?_cons_zero]; rfl) (by kernel_rfl) (by rfl) (fun wx val iv hB hV K hK => ?_) ?_
    · clear hV; simp only [putT, List.foldl_cons, List.foldl_nil, Made.val, Act.put, List.setIfInBounds_toArray, List.set_cons_zero, List.set_cons_succ]; go_simp; exact hK.out _ _ rfl (Below.refl _ _)
    refine StepsT.cons [(5, some 14, .is (.slice p0 n c0))] (by simp only [List.getElem?_toArray, List.getElem?_cons_succ, List.getElem?_cons_zero]; rfl) (by kernel_rfl) (by rfl) (fun wx val iv hB hV K hK => ?_) ?_
    · clear hV; simp only [putT, List.foldl_cons, List.foldl_nil, Made.val, Act.put, List.setIfInBounds_toArray, List.set_cons_zero, List.set_cons_succ]; go_simp; exact hK.out _ _ rfl (Below.refl _ _)
    refine StepsT.cons [(6, some 15, .is (.int .i64 n))] (by simp only [List.getElem?_toArray, List.getElem?_cons_succ, List.getElem?_cons_zero]; rfl) (by kernel_rfl) (by rfl) (fun wx val iv hB hV K hK => ?_) ?_
    · (obtain ⟨v2, w2, hrun, ho, hb⟩ := HM.out wx; simp only [putT, List.foldl_cons, List.foldl_nil, Made.val, Act.put, List.setIfInBounds_toArray, List.set_cons_zero, List.set_cons_succ]; rw [if_pos (by rfl)]; refine wp_make_run (.tmp 15) (.tmp 15) 23 (by rfl) (.int .i64 n) (.int .i64 n) (by rfl) (by rfl) v2 w2 hrun ?_; exact hK.out _ _ ho hb)
    refine StepsT.cons [] (by simp only [List.getElem?_toArray, List.getElem?_cons_succ, List.getElem?_cons_zero]; rfl) (by kernel_rfl) (by rfl) (fun wx val iv hB hV K hK => ?_) ?_
    · clear hV; simp only [putT, List.foldl_cons, List.foldl_nil, Made.val, Act.put, List.setIfInBounds_toArray, List.set_cons_zero, List.set_cons_succ]; go_simp; exact hK.out _ _ rfl (Below.refl _ _)
    refine StepsT.cons [(8, some 17, .is (.slice p0 n c0))] (by simp only [List.getElem?_toArray, List.getElem?_cons_succ, List.getElem?_cons_zero]; rfl) (by kernel_rfl) (by rfl) (fun wx val iv hB hV K hK => ?_) ?_
    · clear hV; simp only [putT, List.foldl_cons, List.foldl_nil, Made.val, Act.put, List.setIfInBounds_toArray, List.set_cons_zero, List.set_cons_succ]; go_simp; exact hK.out _ _ rfl (Below.refl _ _)
    refine StepsT.cons [(9, some 18, .is (.int .i64 n))] (by simp only [List.getElem?_toArray, List.getElem?_cons_succ, List.getElem?_cons_zero]; rfl) (by kernel_rfl) (by rfl) (fun wx val iv hB hV K hK => ?_) ?_
    · (obtain ⟨v2, w2, hrun, ho, hb⟩ := HM.out wx; simp only [putT, List.foldl_cons, List.foldl_nil, Made.val, Act.put, List.setIfInBounds_toArray, List.set_cons_zero, List.set_cons_succ]; rw [if_pos (by rfl)]; refine wp_make_run (.tmp 18) (.tmp 18) 23 (by rfl) (.int .i64 n) (.int .i64 n) (by rfl) (by rfl) v2 w2 hrun ?_; exact hK.out _ _ ho hb)
    refine StepsT.cons [(1, some 10, .rows zss), (2, some 11, .is (.int .i64 l)), (3, some 12, .is (.int .i64 t)), (4, some 13, .zero), (7, some 16, .ints wz), (10, some 19, .ints wz)] (by simp only [List.getElem?_toArray, List.getElem?_cons_succ, List.getElem?_cons_zero]; rfl) (by kernel_rfl) (by rfl) (fun wx val iv hB hV K hK => ?_) ?_
    · (obtain ⟨q0, d0, e0⟩ := OwnR.shape (hV (1, some 10, .rows zss) (by simp)); obtain ⟨g3, e3⟩ := hV (4, some 13, .zero) (by simp); obtain ⟨q4, d4, e4⟩ := OwnI.shape (hV (7, some 16, .ints wz) (by simp)); obtain ⟨q5, d5, e5⟩ := OwnI.shape (hV (10, some 19, .ints wz) (by simp)); (try dsimp only at e0 e3 e4 e5); clear hV; simp only [putT, List.foldl_cons, List.foldl_nil, Made.val, Act.put, List.setIfInBounds_toArray, List.set_cons_zero, List.set_cons_succ]; rw [e0, e3, e4, e5]; go_simp; rw [← e0, ← e3, ← e4, ← e5]; exact hK.out _ _ rfl (Below.refl _ _))
    refine StepsT.cons [] (by simp only [List.getElem?_toArray, List.getElem?_cons_succ, List.getElem?_cons_zero]; rfl) (by kernel_rfl) (by rfl) (fun wx val iv hB hV K hK => ?_) ?_
    · clear hV; simp only [putT, List.foldl_cons, List.foldl_nil, Made.val, Act.put, List.setIfInBounds_toArray, List.set_cons_zero, List.set_cons_succ]; go_simp; exact hK.out _ _ ⟨rfl, heap_alloc_new _ _, by simp⟩ ((Below.refl _ _).alloc (Nat.le_refl _) _)
    exact StepsT.nil
  case fin =>
    intro wx val iv BX hV hD
    obtain ⟨hv0, l0, u0⟩ := hV (1, some 10, .rows zss) (by simp)
    obtain ⟨hv4, l4, u4⟩ := hV (7, some 16, .ints wz) (by simp)
    obtain ⟨hv5, l5, u5⟩ := hV (10, some 19, .ints wz) (by simp)
    obtain ⟨⟨g3, hg3⟩, -, -⟩ := hV (4, some 13, .zero) (by simp)
    obtain ⟨⟨eb, hbx, lb⟩, lbx, ubx⟩ := hV (12, some 8, .box #[.slice none 0 0, .int .i64 0, .int .i64 0, .slice none 0 0, .slice none 0 0, .slice none 0 0, .int .i64 0] 31) (by simp)
    have x2 := hD 1 (by simp) 7 (by simp) (by decide)
    have x3 := hD 1 (by simp) 10 (by simp) (by decide)
    have x6 := hD 7 (by simp) 10 (by simp) (by decide)
    have y0 := hD 12 (by simp) 1 (by simp) (by decide)
    have y4 := hD 12 (by simp) 7 (by simp) (by decide)
    have y5 := hD 12 (by simp) 10 (by simp) (by decide)
    obtain ⟨e20, -, -⟩ := hV (11, some 20, .fn [1, 4, 7, 10] (fun vs => .agg #[vs.getD 0 undef, .int .i64 l, .int .i64 t, vs.getD 1 undef, vs.getD 2 undef, vs.getD 3 undef, .int .i64 0])) (by simp)
    obtain ⟨q0, d0, e0⟩ := OwnR.shape hv0
    obtain ⟨q4, d4, e4⟩ := OwnI.shape hv4
    obtain ⟨q5, d5, e5⟩ := OwnI.shape hv5
    (try dsimp only at e0 e4 e5 hg3 eb hbx lb)
    replace e20 : val 11 = Value.agg #[val 1, .int .i64 l, .int .i64 t, val 4, val 7, val 10, .int .i64 0] := e20
    rw [e0, hg3, e4, e5] at e20
    dsimp only [Made.means] at hv0 hv4 hv5
    dsimp only at l0 u0 l4 u4 l5 u5 lbx ubx
    rw [e0] at hv0
    rw [e4] at hv4
    rw [e5] at hv5
    have HX := Lib.hid (nd_boxed (lo := W0.heap.size) (r := (iv 12).1) (d3 := 0) (l := l) (t := t) hv0 (OwnI.nil _ _ (some ⟨g3, 0, none⟩)) hv4 hv5 ⟨by omega, by omega⟩ ⟨by omega, by omega⟩ ⟨by omega, by omega⟩ x2 x3 x6 Hwl.out Hwt.out (by omega) (by omega) (by omega) lbx hbx BX)
    have Hr : Hid (W0.heap.size ≤ (iv 12).1) := Lib.hid lbx
    clear hV hD hv0 hv4 hv5 x2 x3 x6 y0 y4 y5 l0 u0 l4 u4 l5 u5 lb ubx lbx
    generalize (iv 12).1 = r at *
    simp only [putT, List.foldl_cons, List.foldl_nil, Made.val, Act.put, List.setIfInBounds_toArray, List.set_cons_zero, List.set_cons_succ]
    rw [e20, e0, e4, e5, hg3, eb]
    clear e20 e0 e4 e5 hg3 eb
    refine wpAny_one (i := 13) (by kernel_rfl) (by simp only [List.getElem?_toArray, List.getElem?_cons_succ, List.getElem?_cons_zero]; rfl) (fun K hK => ?_)
    rw [if_pos (by rfl)]
    refine wp_store_row 31 (.tmp 8) (.tmp 20) (by rfl) r #[.slice q0 zss.length d0, .int .i64 l, .int .i64 t, .slice (some ⟨g3, 0, none⟩) 0 0, .slice q4 wz.length d4, .slice q5 wz.length d5, .int .i64 0] (by rfl) (by rfl) 31 _ hbx (by kernel_rfl) (by rfl) (by simp [Value.oneCell']) (hK.out _ _ ?_)
    refine wpAny_end (by kernel_rfl) ?_
    clear hK K hbx
    obtain ⟨X, hX⟩ : ∃ X, X = wx.setRow r #[.slice q0 zss.length d0, .int .i64 l, .int .i64 t, .slice (some ⟨g3, 0, none⟩) 0 0, .slice q4 wz.length d4, .slice q5 wz.length d5, .int .i64 0] := ⟨_, rfl⟩
    rw [← hX] at HX ⊢
    clear hX
    obtain ⟨GX, OX, BXw⟩ := HX.out
    have GR := HG.out X BXw
    have SX : Hid (W0.heap.size ≤ X.heap.size) := Lib.hid BXw.size
    clear HX
    by_cases hn0 : n = 0
    · have hz : zss = [] := List.length_eq_zero_iff.1 (Hn.out.symm.trans hn0)
      subst hz
      have hq : isDeal (newD0 [] l t) = false := newD0_nil l t
      have HE : Hid (newD [] l t = ⟨[], 0, 0, [], [], [], 0⟩) := Lib.hid (by unfold newD; rw [hq]; rfl)
      have HQ := Lib.hid hq
      have Hq0 : isDeal ⟨[], l, t, [], wz, wz, 0⟩ = false := by rw [Hwz.out]; exact hq
      have HI := Lib.hid (isDeal_any a0 a1 _ _ _ OX.wr.rd (Hfew.out 0) (HSn.out _ BXw) false Hq0)
      clear hq Hq0 OX
      rw [hn0]
      clear hn0
      go_upto_region 4 with fail
      refine wp_region_lit ?_
      refine wpList_load_row rfl 31 _ rfl r rfl 31 _ _ _ GX Tryd.underlying31 rfl (by kernel_rfl) ?_
      clear GX
      go_wp2_with fail
      refine HI.out.mono ?_
      rintro e w2 ⟨rfl, B2⟩
      have R2 := (B2.block _ (show w.heap.size < X.heap.size from Nat.lt_of_lt_of_le (by have := Hsz.out; omega) SX.out)).trans GR
      have N2 := Lib.hid (And.intro (setRow_heap w2 w.heap.size _ #[.slice none 0 0, .int .i64 0, .int .i64 0, .slice none 0 0, .slice none 0 0, .slice none 0 0, .int .i64 0] _ _ R2) (below_setRow ((HB.out _ BXw).trans (B2.mono (HB.out _ BXw).size)) (Nat.le_refl _) #[.slice none 0 0, .int .i64 0, .int .i64 0, .slice none 0 0, .slice none 0 0, .slice none 0 0, .int .i64 0]))
      clear GR B2 BXw
      go_upto_region 5 with fail
      refine wp_region_lit ?_
      refine wpList_plain (by rfl) (fun K hK => ?_)
      go_simp
      refine hK _ _ ?_
      clear hK K
      refine wpList_store_row rfl 31 _ _ rfl w.heap.size #[.slice none 0 0, .int .i64 0, .int .i64 0, .slice none 0 0, .slice none 0 0, .slice none 0 0, .int .i64 0] rfl rfl 31 _ R2 (by kernel_rfl) rfl (by simp [Value.oneCell']) ?_
      clear R2
      go_wp2_with fail
      refine bodyPost_ret (results_row_tmp rfl _ _ w.heap.size _ _ _ _ rfl N2.out.1 Tryd.underlying31 rfl (by kernel_rfl)) rfl ?_
      rw [HQ.out, HE.out]
      exact ⟨_, rfl, zero_deal _ _, N2.out.2⟩
    · have hlt : 0 < zss.length := by rw [← Hn.out]; omega
      obtain ⟨blk, off, cap, p, c, b, hv, hc, -⟩ := (HRow.out X BXw).row hlt
      have ha := (Value.slice.inj hv).1
      subst ha
      rw [Nat.add_zero] at hc
      have hm : zss[0].length ≤ 1048576 := Hsum.out 0 hlt
      have hD0 : newD0 zss l t = ⟨zss, l, t, [], wz, wz, (zss[0].length : Int)⟩ := by unfold newD0; rw [Hwz.out]; cases zss with | nil => simp at hlt | cons a s => rfl
      clear hv
      generalize zss[0].length = m at *
      have hgt : (0 : Int) < (n : Int) := by omega
      obtain ⟨X1, hX1⟩ : ∃ W, W = X.setCell ⟨r, 6, none⟩ (.int .i64 m) := ⟨_, rfl⟩
      have OX1 : OwnDeal (fun b => W0.heap.size ≤ b ∧ b < X.heap.size ∧ b ≠ r) X1 (.agg #[.slice q0 zss.length d0, .int .i64 l, .int .i64 t, .slice (some ⟨g3, 0, none⟩) 0 0, .slice q4 wz.length d4, .slice q5 wz.length d5, .int .i64 m]) ⟨zss, l, t, [], wz, wz, m⟩ := by rw [hX1]; exact (OwnDeal.left (D := ⟨zss, l, t, [], wz, wz, 0⟩) OX m (WalkArith.wf_i64 (by omega))).touch (touchCell X r 6 _) (fun b hb e => hb.2.2 e)
      have GX1 : X1.heap[r]? = some (.cells #[.slice q0 zss.length d0, .int .i64 l, .int .i64 t, .slice (some ⟨g3, 0, none⟩) 0 0, .slice q4 wz.length d4, .slice q5 wz.length d5, .int .i64 m] 31 (0, 0)) := by rw [hX1]; exact box_set GX 6 _
      have sX1 : X1.heap.size = X.heap.size := by rw [hX1]; simp [World.setCell]
      have BX1 : Below W0.heap.size W0 X1 := by rw [hX1]; exact BXw.setCell Hr.out _
      have z6 := box_cell GX 6
      have y6 := box_free GX 6
      simp at z6
      have HX1 := Lib.hid hX1
      clear GX BXw GR OX SX hX1
      have SX : Hid (W0.heap.size ≤ X1.heap.size) := Lib.hid BX1.size
      have GX := Lib.hid GX1
      have BXh := Lib.hid BX1
      have OXh := Lib.hid (And.intro OX1 sX1)
      have Hgt := Lib.hid hgt
      have Hm := Lib.hid hm
      have HD0 := Lib.hid hD0
      clear GX1 BX1 OX1 sX1 hm hD0
      go_upto_region 4 with fail
      rw [← HX1.out]
      clear hc z6 y6 HX1
      have BXw := BXh.out
      have GR := HG.out X1 BXw
      replace GX := GX.out
      obtain ⟨OX, sX1⟩ := OXh.out
      cases hq : isDeal ⟨zss, l, t, [], wz, wz, m⟩ with
      | false =>
        have HE : Hid (newD zss l t = ⟨[], 0, 0, [], [], [], 0⟩) := Lib.hid (by unfold newD; rw [HD0.out, hq]; rfl)
        have HQ : Hid (isDeal (newD0 zss l t) = false) := Lib.hid (by rw [HD0.out]; exact hq)
        have HI := Lib.hid (isDeal_any a0 a1 _ _ _ OX.wr.rd (Hfew.out m) (HSn.out _ BXw) false hq)
        clear hq OX hn0 hgt
        refine wp_region_lit ?_
        refine wpList_load_row rfl 31 _ rfl r rfl 31 _ _ _ GX Tryd.underlying31 rfl (by kernel_rfl) ?_
        clear GX
        go_wp2_with fail
        refine HI.out.mono ?_
        rintro e w2 ⟨rfl, B2⟩
        have R2 := (B2.block _ (show w.heap.size < X1.heap.size from Nat.lt_of_lt_of_le (by have := Hsz.out; omega) SX.out)).trans GR
        have N2 := Lib.hid (And.intro (setRow_heap w2 w.heap.size _ #[.slice none 0 0, .int .i64 0, .int .i64 0, .slice none 0 0, .slice none 0 0, .slice none 0 0, .int .i64 0] _ _ R2) (below_setRow ((HB.out _ BXw).trans (B2.mono (HB.out _ BXw).size)) (Nat.le_refl _) #[.slice none 0 0, .int .i64 0, .int .i64 0, .slice none 0 0, .slice none 0 0, .slice none 0 0, .int .i64 0]))
        clear GR B2 BXw
        go_upto_region 5 with fail
        refine wp_region_lit ?_
        refine wpList_plain (by rfl) (fun K hK => ?_)
        go_simp
        refine hK _ _ ?_
        clear hK K
        refine wpList_store_row rfl 31 _ _ rfl w.heap.size #[.slice none 0 0, .int .i64 0, .int .i64 0, .slice none 0 0, .slice none 0 0, .slice none 0 0, .int .i64 0] rfl rfl 31 _ R2 (by kernel_rfl) rfl (by simp [Value.oneCell']) ?_
        clear R2
        go_wp2_with fail
        refine bodyPost_ret (results_row_tmp rfl _ _ w.heap.size _ _ _ _ rfl N2.out.1 Tryd.underlying31 rfl (by kernel_rfl)) rfl ?_
        rw [HQ.out, HE.out]
        exact ⟨_, rfl, zero_deal _ _, N2.out.2⟩
      | true =>
        have HE : Hid (newD zss l t = ⟨zss, l, t, [], wz, wz, m⟩) := Lib.hid (by unfold newD; rw [HD0.out, hq]; rfl)
        have HQ : Hid (isDeal (newD0 zss l t) = true) := Lib.hid (by rw [HD0.out]; exact hq)
        have HI := Lib.hid (isDeal_any a0 a1 _ _ _ OX.wr.rd (Hfew.out m) (HSn.out _ BXw) true hq)
        have GXk := Lib.hid GX
        clear hq hn0 hgt
        refine wp_region_lit ?_
        refine wpList_load_row rfl 31 _ rfl r rfl 31 _ _ _ GX Tryd.underlying31 rfl (by kernel_rfl) ?_
        clear GX
        go_wp2_with fail
        refine HI.out.mono ?_
        rintro e w2 ⟨rfl, B2⟩
        have R2 := (B2.block _ (show w.heap.size < X1.heap.size from Nat.lt_of_lt_of_le (by have := Hsz.out; omega) SX.out)).trans GR
        have rlt : r < X1.heap.size := (Array.getElem?_eq_some_iff.1 GXk.out).1
        have GX2 := (B2.block _ rlt).trans GXk.out
        have N2 := Lib.hid (And.intro (setRow_heap w2 w.heap.size _ #[.slice q0 zss.length d0, .int .i64 l, .int .i64 t, .slice (some ⟨g3, 0, none⟩) 0 0, .slice q4 wz.length d4, .slice q5 wz.length d5, .int .i64 m] _ _ R2) (below_setRow ((HB.out _ BXw).trans (B2.mono (HB.out _ BXw).size)) (Nat.le_refl _) #[.slice q0 zss.length d0, .int .i64 l, .int .i64 t, .slice (some ⟨g3, 0, none⟩) 0 0, .slice q4 wz.length d4, .slice q5 wz.length d5, .int .i64 m]))
        have O2 := Lib.hid ((OX.below (B2.mono (Nat.le_refl _))).touch (touchRow w2 w.heap.size #[.slice q0 zss.length d0, .int .i64 l, .int .i64 t, .slice (some ⟨g3, 0, none⟩) 0 0, .slice q4 wz.length d4, .slice q5 wz.length d5, .int .i64 m]) (fun b hb e => by have := hb.1; have := Hsz.out; omega))
        have hs2 : Hid (X.heap.size ≤ (w2.setRow w.heap.size #[.slice q0 zss.length d0, .int .i64 l, .int .i64 t, .slice (some ⟨g3, 0, none⟩) 0 0, .slice q4 wz.length d4, .slice q5 wz.length d5, .int .i64 m]).heap.size) := Lib.hid (by have := B2.size; simp [World.setRow]; omega)
        clear GR B2 BXw rlt OX GXk
        go_upto_region 6 with fail
        refine wp_region_lit ?_
        refine wpList_load_row rfl 31 _ rfl r rfl 31 _ _ _ GX2 Tryd.underlying31 rfl (by kernel_rfl) ?_
        clear GX2
        refine wpList_store_row rfl 31 _ _ rfl w.heap.size #[.slice q0 zss.length d0, .int .i64 l, .int .i64 t, .slice (some ⟨g3, 0, none⟩) 0 0, .slice q4 wz.length d4, .slice q5 wz.length d5, .int .i64 m] rfl rfl 31 _ R2 (by kernel_rfl) rfl (by simp [Value.oneCell']) ?_
        clear R2
        go_wp2_with fail
        refine bodyPost_ret (results_row_tmp rfl _ _ w.heap.size _ _ _ _ rfl N2.out.1 Tryd.underlying31 rfl (by kernel_rfl)) rfl ?_
        rw [HQ.out, HE.out]
        refine ⟨_, rfl, ?_, N2.out.2⟩
        exact (O2.out.mono (fun b hb => ⟨by have := hb.1; have := Hsz.out; omega, by have := hb.2.1; have := hs2.out; omega⟩)).wr
set_option maxRecDepth 100000 in
set_option maxHeartbeats 2000000 in
theorem sNewDeal_any (v : Value) (zss : List (List Int)) (l t : Int) (w : World) (h : RdRows .i64 w v zss) (f0 : zss.length ≤ 1048576) (f1 : sumLen zss ≤ 1048576) (wl : (Lit.int .i64 l).wf = true) (wt : (Lit.int .i64 t).wf = true) :
    Calls Tryd.prog 19 #[v, .int .i64 l, .int .i64 t] w fun e w' => ∃ v', e = .returned (.tuple #[v', .bool (isDeal (newD0 zss l t))]) ∧ WrDeal (In w.heap.size w'.heap.size) w' v' (newD zss l t) ∧ Below w.heap.size w w' := by
  obtain ⟨p0, c0, rfl, -⟩ := id h
  obtain ⟨W0, hW0⟩ : ∃ W, W = w.alloc (.cells #[.slice none 0 0, .int .i64 0, .int .i64 0, .slice none 0 0, .slice none 0 0, .slice none 0 0, .int .i64 0] 31) := ⟨_, rfl⟩
  have G0 : W0.heap[w.heap.size]? = some (.cells #[.slice none 0 0, .int .i64 0, .int .i64 0, .slice none 0 0, .slice none 0 0, .slice none 0 0, .int .i64 0] 31 (0, 0)) := by rw [hW0]; exact heap_alloc_new _ _
  have hsz : W0.heap.size = w.heap.size + 1 := by rw [hW0]; simp
  have B0 : Below w.heap.size w W0 := by rw [hW0]; exact (Below.refl _ _).alloc (Nat.le_refl _) _
  have Bx : ∀ wx, Below W0.heap.size W0 wx → Below w.heap.size w wx := fun wx hb => B0.trans (hb.mono B0.size)
  have Hwl := Lib.hid wl
  have Hwt := Lib.hid wt
  clear wl wt
  have HRow := Lib.hid (fun wx (hb : Below W0.heap.size W0 wx) => h.below (Bx wx hb))
  have HG := Lib.hid (fun wx (hb : Below W0.heap.size W0 wx) => (hb.block _ (show w.heap.size < W0.heap.size by omega)).trans G0)
  have HB := Lib.hid Bx
  have Hsz := Lib.hid hsz
  have Hsum : Hid (∀ j (hj : j < zss.length), zss[j].length ≤ 1048576) := Lib.hid (fun j hj => Nat.le_trans (len_le_sum zss hj) f1)
  have Hfew : Hid (∀ k, MDeal.Few ⟨zss, l, t, [], List.replicate zss.length 0, List.replicate zss.length 0, k⟩) := Lib.hid (fun k => ⟨f0, f1, by simp, by simpa using f0, by simpa using f0⟩)
  obtain ⟨n, hn⟩ : ∃ n, n = zss.length := ⟨_, rfl⟩
  obtain ⟨wz, hwz⟩ : ∃ z, z = List.replicate zss.length (0 : Int) := ⟨_, rfl⟩
  have HM : Hid (∀ wx, ∃ v w2, (Instr.makeSlice 23 (.int .i64 (n : Int)) (.int .i64 (n : Int))).run Tryd.prog wx = .ok v w2 ∧ OwnI (In wx.heap.size w2.heap.size) w2 v wz ∧ Below wx.heap.size wx w2) := Lib.hid (fun wx => by rw [hwz, hn]; exact make_ints wx _ f0)
  rw [← hwz] at Hfew
  rw [← hn]
  have Hn := Lib.hid hn
  have Hwz := Lib.hid hwz
  have HW := Lib.hid hW0
  clear hn hwz hW0 G0 hsz B0 Bx f0 f1 h
  go_enter Tryd.func19, Tryd.ntmps19
  go_upto_region 1 with fail
  rw [← HW.out]
  refine wp_region_table [(0, some 9, .is (.slice p0 n c0)), (1, some 10, .is (.int .i64 l)), (2, some 11, .is (.int .i64 t)), (3, some 12, .is (.slice p0 n c0)), (4, some 13, .is (.int .i64 n)), (5, some 14, .ints wz), (6, some 15, .is (.slice p0 n c0)), (7, some 16, .is (.int .i64 n)), (8, some 17, .ints wz), (9, some 18, .own (fun S w v => RdDeal w v ⟨zss, l, t, [], wz, wz, 0⟩) (fun S w w' v h b => h.below b)), (10, some 19, .own (fun S w v => OwnDeal S w v ⟨zss, l, t, [], wz, wz, 0⟩) (fun S w w' v h b => h.below b)), (11, some 8, .box #[.slice none 0 0, .int .i64 0, .int .i64 0, .slice none 0 0, .slice none 0 0, .slice none 0 0, .int .i64 0] 31)] 1 (by kernel_rfl) (by kernel_rfl) (by kernel_rfl) (by kernel_rfl) (by kernel_rfl) (L := #[true, true, true, true, true, true, true, true, true, true, true, true, false]) (by kernel_rfl) ?steps ?fin
  case steps =>
    refine StepsT.cons [] (by simp only [List.getElem?_toArray, List.getElem?_cons_succ, List.getElem?_cons_zero]; rfl) (by kernel_rfl) (by rfl) (fun wx val iv hB hV K hK => ?_) ?_
    · clear hV; simp only [putT, List.foldl_cons, List.foldl_nil, Made.val, Act.put, List.setIfInBounds_toArray, List.set_cons_zero, List.set_cons_succ]; go_simp; exact hK.out _ _ rfl (Below.refl _ _)
    refine StepsT.cons [] (by simp only [List.getElem?_toArray, List.getElem?_cons_succ, List.getElem?_cons_zero]; rfl) (by kernel_rfl) (by rfl) (fun wx val iv hB hV K hK => ?_) ?_
    · clear hV; simp only [putT, List.foldl_cons, List.foldl_nil, Made.val, Act.put, List.setIfInBounds_toArray, List.set_cons_zero, List.set_cons_succ]; go_simp; exact hK.out _ _ rfl (Below.refl _ _)
    refine StepsT.cons [] (by simp only [List.getElem?_toArray, List.getElem?_cons_succ, List.getElem?_cons_zero]; rfl) (by kernel_rfl) (by rfl) (fun wx val iv hB hV K hK => ?_) ?_
    · clear hV; simp only [putT, List.foldl_cons, List.foldl_nil, Made.val, Act.put, List.setIfInBounds_toArray, List.set_cons_zero, List.set_cons_succ]; go_simp; exact hK.out _ _ rfl (Below.refl _ _)
    refine StepsT.cons [] (by simp only [List.getElem?_toArray, List.getElem?_cons_succ, List.getElem?_cons_zero]; rfl) (by kernel_rfl) (by rfl) (fun wx val iv hB hV K hK => ?_) ?_
    · clear hV; simp only [putT, List.foldl_cons, List.foldl_nil, Made.val, Act.put, List.setIfInBounds_toArray, List.set_cons_zero, List.set_cons_succ]; go_simp; exact hK.out _ _ rfl (Below.refl _ _)
    refine StepsT.cons [(3, some 12, .is (.slice p0 n c0))] (by simp only [List.getElem?_toArray, List.getElem?_cons_succ, List.getElem?_cons_zero]; rfl) (by kernel_rfl) (by rfl) (fun wx val iv hB hV K hK => ?_) ?_
    · clear hV; simp only [putT, List.foldl_cons, List.foldl_nil, Made.val, Act.put, List.setIfInBounds_toArray, List.set_cons_zero, List.set_cons_succ]; go_simp; exact hK.out _ _ rfl (Below.refl _ _)
    refine StepsT.cons [(4, some 13, .is (.int .i64 n))] (by simp only [List.getElem?_toArray, List.getElem?_cons_succ, List.getElem?_cons_zero]; rfl) (by kernel_rfl) (by rfl) (fun wx val iv hB hV K hK => ?_) ?_
    · (obtain ⟨v2, w2, hrun, ho, hb⟩ := HM.out wx; simp only [putT, List.foldl_cons, List.foldl_nil, Made.val, Act.put, List.setIfInBounds_toArray, List.set_cons_zero, List.set_cons_succ]; rw [if_pos (by rfl)]; refine wp_make_run (.tmp 13) (.tmp 13) 23 (by rfl) (.int .i64 n) (.int .i64 n) (by rfl) (by rfl) v2 w2 hrun ?_; exact hK.out _ _ ho hb)
    refine StepsT.cons [] (by simp only [List.getElem?_toArray, List.getElem?_cons_succ, List.getElem?_cons_zero]; rfl) (by kernel_rfl) (by rfl) (fun wx val iv hB hV K hK => ?_) ?_
    · clear hV; simp only [putT, List.foldl_cons, List.foldl_nil, Made.val, Act.put, List.setIfInBounds_toArray, List.set_cons_zero, List.set_cons_succ]; go_simp; exact hK.out _ _ rfl (Below.refl _ _)
    refine StepsT.cons [(6, some 15, .is (.slice p0 n c0))] (by simp only [List.getElem?_toArray, List.getElem?_cons_succ, List.getElem?_cons_zero]; rfl) (by kernel_rfl) (by rfl) (fun wx val iv hB hV K hK => ?_) ?_
    · clear hV; simp only [putT, List.foldl_cons, List.foldl_nil, Made.val, Act.put, List.setIfInBounds_toArray, List.set_cons_zero, List.set_cons_succ]; go_simp; exact hK.out _ _ rfl (Below.refl _ _)
    refine StepsT.cons [(7, some 16, .is (.int .i64 n))] (by simp only [List.getElem?_toArray, List.getElem?_cons_succ, List.getElem?_cons_zero]; rfl) (by kernel_rfl) (by rfl) (fun wx val iv hB hV K hK => ?_) ?_
    · (obtain ⟨v2, w2, hrun, ho, hb⟩ := HM.out wx; simp only [putT, List.foldl_cons, List.foldl_nil, Made.val, Act.put, List.setIfInBounds_toArray, List.set_cons_zero, List.set_cons_succ]; rw [if_pos (by rfl)]; refine wp_make_run (.tmp 16) (.tmp 16) 23 (by rfl) (.int .i64 n) (.int .i64 n) (by rfl) (by rfl) v2 w2 hrun ?_; exact hK.out _ _ ho hb)
    refine StepsT.cons [(0, some 9, .is (.slice p0 n c0)), (1, some 10, .is (.int .i64 l)), (2, some 11, .is (.int .i64 t)), (5, some 14, .ints wz), (8, some 17, .ints wz)] (by simp only [List.getElem?_toArray, List.getElem?_cons_succ, List.getElem?_cons_zero]; rfl) (by kernel_rfl) (by rfl) (fun wx val iv hB hV K hK => ?_) ?_
    · (have hrd : RdDeal wx (.agg #[.slice p0 n c0, .int .i64 l, .int .i64 t, .slice none 0 0, val 5, val 8, .int .i64 0]) ⟨zss, l, t, [], wz, wz, 0⟩ := (by have hr0 := HRow.out wx hB; rw [← Hn.out] at hr0; obtain ⟨b4, hb4, -⟩ := OwnI.wr (hV (5, some 14, .ints wz) (by simp)); obtain ⟨b5, hb5, -⟩ := OwnI.wr (hV (8, some 17, .ints wz) (by simp)); obtain ⟨b3, hb3, -⟩ := (OwnI.nil (fun _ => True) wx none).wr; exact ⟨_, _, _, _, b3, b4, b5, rfl, hr0, hb3.rd, hb4.rd, hb5.rd, Hwl.out, Hwt.out, (by show (Lit.int .i64 0).wf = true; decide)⟩); obtain ⟨q4, d4, e4⟩ := OwnI.shape (hV (5, some 14, .ints wz) (by simp)); obtain ⟨q5, d5, e5⟩ := OwnI.shape (hV (8, some 17, .ints wz) (by simp)); (try dsimp only at e4 e5); clear hV; simp only [putT, List.foldl_cons, List.foldl_nil, Made.val, Act.put, List.setIfInBounds_toArray, List.set_cons_zero, List.set_cons_succ]; rw [e4, e5]; go_simp; rw [← e4, ← e5]; exact hK.out _ _ hrd (Below.refl _ _))
    refine StepsT.cons [(9, some 18, .own (fun S w v => RdDeal w v ⟨zss, l, t, [], wz, wz, 0⟩) (fun S w w' v h b => h.below b))] (by simp only [List.getElem?_toArray, List.getElem?_cons_succ, List.getElem?_cons_zero]; rfl) (by kernel_rfl) (by rfl) (fun wx val iv hB hV K hK => ?_) ?_
    · (have HC := Lib.hid (sl12Copy_any _ _ wx (hV (9, some 18, .own (fun S w v => RdDeal w v ⟨zss, l, t, [], wz, wz, 0⟩) (fun S w w' v h b => h.below b)) (by simp)) (Hfew.out 0)); clear hV; simp only [putT, List.foldl_cons, List.foldl_nil, Made.val, Act.put, List.setIfInBounds_toArray, List.set_cons_zero, List.set_cons_succ]; go_simp; go_at_call 48; refine HC.out.mono ?_; rintro e wa ⟨va, rfl, hwa, Ba⟩; exact hK.out _ _ hwa Ba)
    refine StepsT.cons [] (by simp only [List.getElem?_toArray, List.getElem?_cons_succ, List.getElem?_cons_zero]; rfl) (by kernel_rfl) (by rfl) (fun wx val iv hB hV K hK => ?_) ?_
    · clear hV; simp only [putT, List.foldl_cons, List.foldl_nil, Made.val, Act.put, List.setIfInBounds_toArray, List.set_cons_zero, List.set_cons_succ]; go_simp; exact hK.out _ _ ⟨rfl, heap_alloc_new _ _, by simp⟩ ((Below.refl _ _).alloc (Nat.le_refl _) _)
    exact StepsT.nil
  case fin =>
    intro wx val iv BX hV hD
    obtain ⟨hv4, l4, u4⟩ := hV (5, some 14, .ints wz) (by simp)
    obtain ⟨hv5, l5, u5⟩ := hV (8, some 17, .ints wz) (by simp)
    obtain ⟨own, lo, uo⟩ := hV (10, some 19, .own (fun S w v => OwnDeal S w v ⟨zss, l, t, [], wz, wz, 0⟩) (fun S w w' v h b => h.below b)) (by simp)
    obtain ⟨⟨eb, hbx, lb⟩, lbx, ubx⟩ := hV (11, some 8, .box #[.slice none 0 0, .int .i64 0, .int .i64 0, .slice none 0 0, .slice none 0 0, .slice none 0 0, .int .i64 0] 31) (by simp)
    have y0 := hD 11 (by simp) 10 (by simp) (by decide)
    (try dsimp only at eb hbx lb)
    dsimp only [Made.means] at own
    dsimp only at lbx ubx lo uo
    obtain ⟨q0, q3, q4, q5, d0, d3, d4, d5, S0, S3, S4, S5, ev, ho⟩ := id own
    rw [ev] at own
    have Hr : Hid (W0.heap.size ≤ (iv 11).1) := Lib.hid lbx
    have HX : Hid ((wx.setRow (iv 11).1 #[.slice q0 zss.length d0, .int .i64 l, .int .i64 t, .slice q3 0 d3, .slice q4 wz.length d4, .slice q5 wz.length d5, .int .i64 0]).heap[(iv 11).1]? = some (.cells #[.slice q0 zss.length d0, .int .i64 l, .int .i64 t, .slice q3 0 d3, .slice q4 wz.length d4, .slice q5 wz.length d5, .int .i64 0] 31 (0, 0)) ∧ OwnDeal (fun b => W0.heap.size ≤ b ∧ b < (wx.setRow (iv 11).1 #[.slice q0 zss.length d0, .int .i64 l, .int .i64 t, .slice q3 0 d3, .slice q4 wz.length d4, .slice q5 wz.length d5, .int .i64 0]).heap.size ∧ b ≠ (iv 11).1) (wx.setRow (iv 11).1 #[.slice q0 zss.length d0, .int .i64 l, .int .i64 t, .slice q3 0 d3, .slice q4 wz.length d4, .slice q5 wz.length d5, .int .i64 0]) (.agg #[.slice q0 zss.length d0, .int .i64 l, .int .i64 t, .slice q3 0 d3, .slice q4 wz.length d4, .slice q5 wz.length d5, .int .i64 0]) ⟨zss, l, t, [], wz, wz, 0⟩ ∧ Below W0.heap.size W0 (wx.setRow (iv 11).1 #[.slice q0 zss.length d0, .int .i64 l, .int .i64 t, .slice q3 0 d3, .slice q4 wz.length d4, .slice q5 wz.length d5, .int .i64 0])) := Lib.hid (by
      exact ⟨setRow_heap _ _ _ _ _ _ hbx, (own.touch (touchRow wx (iv 11).1 _) (fun b hb e => by have := hb.1; have := hb.2; omega)).mono (fun b hb => ⟨by have := hb.1; omega, by have := hb.2; simp [World.setRow]; omega, by have := hb.1; have := hb.2; omega⟩), below_setRow BX lbx _⟩)
    clear hV hD hv4 hv5 l4 u4 l5 u5 lb ubx lbx y0 own ho lo uo
    generalize (iv 11).1 = r at *
    simp only [putT, List.foldl_cons, List.foldl_nil, Made.val, Act.put, List.setIfInBounds_toArray, List.set_cons_zero, List.set_cons_succ]
    rw [eb, ev]
    clear eb ev
    refine wpAny_one (i := 12) (by kernel_rfl) (by simp only [List.getElem?_toArray, List.getElem?_cons_succ, List.getElem?_cons_zero]; rfl) (fun K hK => ?_)
    rw [if_pos (by rfl)]
    refine wp_store_row 31 (.tmp 8) (.tmp 19) (by rfl) r #[.slice q0 zss.length d0, .int .i64 l, .int .i64 t, .slice q3 0 d3, .slice q4 wz.length d4, .slice q5 wz.length d5, .int .i64 0] (by rfl) (by rfl) 31 _ hbx (by kernel_rfl) (by rfl) (by simp [Value.oneCell']) (hK.out _ _ ?_)
    refine wpAny_end (by kernel_rfl) ?_
    clear hK K hbx
    obtain ⟨X, hX⟩ : ∃ X, X = wx.setRow r #[.slice q0 zss.length d0, .int .i64 l, .int .i64 t, .slice q3 0 d3, .slice q4 wz.length d4, .slice q5 wz.length d5, .int .i64 0] := ⟨_, rfl⟩
    rw [← hX] at HX ⊢
    clear hX
    obtain ⟨GX, OX, BXw⟩ := HX.out
    have GR := HG.out X BXw
    have SX : Hid (W0.heap.size ≤ X.heap.size) := Lib.hid BXw.size
    clear HX
    by_cases hn0 : n = 0
    · have hz : zss = [] := List.length_eq_zero_iff.1 (Hn.out.symm.trans hn0)
      subst hz
      have hq : isDeal (newD0 [] l t) = false := newD0_nil l t
      have HE : Hid (newD [] l t = ⟨[], 0, 0, [], [], [], 0⟩) := Lib.hid (by unfold newD; rw [hq]; rfl)
      have HQ := Lib.hid hq
      have Hq0 : isDeal ⟨[], l, t, [], wz, wz, 0⟩ = false := by rw [Hwz.out]; exact hq
      have HI := Lib.hid (sIsDeal_any _ _ _ OX.wr.rd (Hfew.out 0) false Hq0)
      clear hq Hq0 OX
      rw [hn0]
      clear hn0
      go_upto_region 4 with fail
      refine wp_region_lit ?_
      refine wpList_load_row rfl 31 _ rfl r rfl 31 _ _ _ GX Tryd.underlying31 rfl (by kernel_rfl) ?_
      clear GX
      go_wp2_with fail
      refine HI.out.mono ?_
      rintro e w2 ⟨rfl, B2⟩
      have R2 := (B2.block _ (show w.heap.size < X.heap.size from Nat.lt_of_lt_of_le (by have := Hsz.out; omega) SX.out)).trans GR
      have N2 := Lib.hid (And.intro (setRow_heap w2 w.heap.size _ #[.slice none 0 0, .int .i64 0, .int .i64 0, .slice none 0 0, .slice none 0 0, .slice none 0 0, .int .i64 0] _ _ R2) (below_setRow ((HB.out _ BXw).trans (B2.mono (HB.out _ BXw).size)) (Nat.le_refl _) #[.slice none 0 0, .int .i64 0, .int .i64 0, .slice none 0 0, .slice none 0 0, .slice none 0 0, .int .i64 0]))
      clear GR B2 BXw
      go_upto_region 5 with fail
      refine wp_region_lit ?_
      refine wpList_plain (by rfl) (fun K hK => ?_)
      go_simp
      refine hK _ _ ?_
      clear hK K
      refine wpList_store_row rfl 31 _ _ rfl w.heap.size #[.slice none 0 0, .int .i64 0, .int .i64 0, .slice none 0 0, .slice none 0 0, .slice none 0 0, .int .i64 0] rfl rfl 31 _ R2 (by kernel_rfl) rfl (by simp [Value.oneCell']) ?_
      clear R2
      go_wp2_with fail
      refine bodyPost_ret (results_row_tmp rfl _ _ w.heap.size _ _ _ _ rfl N2.out.1 Tryd.underlying31 rfl (by kernel_rfl)) rfl ?_
      rw [HQ.out, HE.out]
      exact ⟨_, rfl, zero_deal _ _, N2.out.2⟩
    · have hlt : 0 < zss.length := by rw [← Hn.out]; omega
      obtain ⟨blk, off, cap, p, c, b, hv, hc, -⟩ := (HRow.out X BXw).row hlt
      have ha := (Value.slice.inj hv).1
      subst ha
      rw [Nat.add_zero] at hc
      have hm : zss[0].length ≤ 1048576 := Hsum.out 0 hlt
      have hD0 : newD0 zss l t = ⟨zss, l, t, [], wz, wz, (zss[0].length : Int)⟩ := by unfold newD0; rw [Hwz.out]; cases zss with | nil => simp at hlt | cons a s => rfl
      clear hv
      generalize zss[0].length = m at *
      have hgt : (0 : Int) < (n : Int) := by omega
      obtain ⟨X1, hX1⟩ : ∃ W, W = X.setCell ⟨r, 6, none⟩ (.int .i64 m) := ⟨_, rfl⟩
      have OX1 : OwnDeal (fun b => W0.heap.size ≤ b ∧ b < X.heap.size ∧ b ≠ r) X1 (.agg #[.slice q0 zss.length d0, .int .i64 l, .int .i64 t, .slice q3 0 d3, .slice q4 wz.length d4, .slice q5 wz.length d5, .int .i64 m]) ⟨zss, l, t, [], wz, wz, m⟩ := by rw [hX1]; exact (OwnDeal.left (D := ⟨zss, l, t, [], wz, wz, 0⟩) OX m (WalkArith.wf_i64 (by omega))).touch (touchCell X r 6 _) (fun b hb e => hb.2.2 e)
      have GX1 : X1.heap[r]? = some (.cells #[.slice q0 zss.length d0, .int .i64 l, .int .i64 t, .slice q3 0 d3, .slice q4 wz.length d4, .slice q5 wz.length d5, .int .i64 m] 31 (0, 0)) := by rw [hX1]; exact box_set GX 6 _
      have sX1 : X1.heap.size = X.heap.size := by rw [hX1]; simp [World.setCell]
      have BX1 : Below W0.heap.size W0 X1 := by rw [hX1]; exact BXw.setCell Hr.out _
      have z6 := box_cell GX 6
      have y6 := box_free GX 6
      simp at z6
      have HX1 := Lib.hid hX1
      clear GX BXw GR OX SX hX1
      have SX : Hid (W0.heap.size ≤ X1.heap.size) := Lib.hid BX1.size
      have GX := Lib.hid GX1
      have BXh := Lib.hid BX1
      have OXh := Lib.hid (And.intro OX1 sX1)
      have Hgt := Lib.hid hgt
      have Hm := Lib.hid hm
      have HD0 := Lib.hid hD0
      clear GX1 BX1 OX1 sX1 hm hD0
      go_upto_region 4 with fail
      rw [← HX1.out]
      clear hc z6 y6 HX1
      have BXw := BXh.out
      have GR := HG.out X1 BXw
      replace GX := GX.out
      obtain ⟨OX, sX1⟩ := OXh.out
      cases hq : isDeal ⟨zss, l, t, [], wz, wz, m⟩ with
      | false =>
        have HE : Hid (newD zss l t = ⟨[], 0, 0, [], [], [], 0⟩) := Lib.hid (by unfold newD; rw [HD0.out, hq]; rfl)
        have HQ : Hid (isDeal (newD0 zss l t) = false) := Lib.hid (by rw [HD0.out]; exact hq)
        have HI := Lib.hid (sIsDeal_any _ _ _ OX.wr.rd (Hfew.out m) false hq)
        clear hq OX hn0 hgt
        refine wp_region_lit ?_
        refine wpList_load_row rfl 31 _ rfl r rfl 31 _ _ _ GX Tryd.underlying31 rfl (by kernel_rfl) ?_
        clear GX
        go_wp2_with fail
        refine HI.out.mono ?_
        rintro e w2 ⟨rfl, B2⟩
        have R2 := (B2.block _ (show w.heap.size < X1.heap.size from Nat.lt_of_lt_of_le (by have := Hsz.out; omega) SX.out)).trans GR
        have N2 := Lib.hid (And.intro (setRow_heap w2 w.heap.size _ #[.slice none 0 0, .int .i64 0, .int .i64 0, .slice none 0 0, .slice none 0 0, .slice none 0 0, .int .i64 0] _ _ R2) (below_setRow ((HB.out _ BXw).trans (B2.mono (HB.out _ BXw).size)) (Nat.le_refl _) #[.slice none 0 0, .int .i64 0, .int .i64 0, .slice none 0 0, .slice none 0 0, .slice none 0 0, .int .i64 0]))
        clear GR B2 BXw
        go_upto_region 5 with fail
        refine wp_region_lit ?_
        refine wpList_plain (by rfl) (fun K hK => ?_)
        go_simp
        refine hK _ _ ?_
        clear hK K
        refine wpList_store_row rfl 31 _ _ rfl w.heap.size #[.slice none 0 0, .int .i64 0, .int .i64 0, .slice none 0 0, .slice none 0 0, .slice none 0 0, .int .i64 0] rfl rfl 31 _ R2 (by kernel_rfl) rfl (by simp [Value.oneCell']) ?_
        clear R2
        go_wp2_with fail
        refine bodyPost_ret (results_row_tmp rfl _ _ w.heap.size _ _ _ _ rfl N2.out.1 Tryd.underlying31 rfl (by kernel_rfl)) rfl ?_
        rw [HQ.out, HE.out]
        exact ⟨_, rfl, zero_deal _ _, N2.out.2⟩
      | true =>
        have HE : Hid (newD zss l t = ⟨zss, l, t, [], wz, wz, m⟩) := Lib.hid (by unfold newD; rw [HD0.out, hq]; rfl)
        have HQ : Hid (isDeal (newD0 zss l t) = true) := Lib.hid (by rw [HD0.out]; exact hq)
        have HI := Lib.hid (sIsDeal_any _ _ _ OX.wr.rd (Hfew.out m) true hq)
        have GXk := Lib.hid GX
        clear hq hn0 hgt
        refine wp_region_lit ?_
        refine wpList_load_row rfl 31 _ rfl r rfl 31 _ _ _ GX Tryd.underlying31 rfl (by kernel_rfl) ?_
        clear GX
        go_wp2_with fail
        refine HI.out.mono ?_
        rintro e w2 ⟨rfl, B2⟩
        have R2 := (B2.block _ (show w.heap.size < X1.heap.size from Nat.lt_of_lt_of_le (by have := Hsz.out; omega) SX.out)).trans GR
        have rlt : r < X1.heap.size := (Array.getElem?_eq_some_iff.1 GXk.out).1
        have GX2 := (B2.block _ rlt).trans GXk.out
        have N2 := Lib.hid (And.intro (setRow_heap w2 w.heap.size _ #[.slice q0 zss.length d0, .int .i64 l, .int .i64 t, .slice q3 0 d3, .slice q4 wz.length d4, .slice q5 wz.length d5, .int .i64 m] _ _ R2) (below_setRow ((HB.out _ BXw).trans (B2.mono (HB.out _ BXw).size)) (Nat.le_refl _) #[.slice q0 zss.length d0, .int .i64 l, .int .i64 t, .slice q3 0 d3, .slice q4 wz.length d4, .slice q5 wz.length d5, .int .i64 m]))
        have O2 := Lib.hid ((OX.below (B2.mono (Nat.le_refl _))).touch (touchRow w2 w.heap.size #[.slice q0 zss.length d0, .int .i64 l, .int .i64 t, .slice q3 0 d3, .slice q4 wz.length d4, .slice q5 wz.length d5, .int .i64 m]) (fun b hb e => by have := hb.1; have := Hsz.out; omega))
        have hs2 : Hid (X.heap.size ≤ (w2.setRow w.heap.size #[.slice q0 zss.length d0, .int .i64 l, .int .i64 t, .slice q3 0 d3, .slice q4 wz.length d4, .slice q5 wz.length d5, .int .i64 m]).heap.size) := Lib.hid (by have := B2.size; simp [World.setRow]; omega)
        clear GR B2 BXw rlt OX GXk
        go_upto_region 6 with fail
        refine wp_region_lit ?_
        refine wpList_load_row rfl 31 _ rfl r rfl 31 _ _ _ GX2 Tryd.underlying31 rfl (by kernel_rfl) ?_
        clear GX2
        refine wpList_store_row rfl 31 _ _ rfl w.heap.size #[.slice q0 zss.length d0, .int .i64 l, .int .i64 t, .slice q3 0 d3, .slice q4 wz.length d4, .slice q5 wz.length d5, .int .i64 m] rfl rfl 31 _ R2 (by kernel_rfl) rfl (by simp [Value.oneCell']) ?_
        clear R2
        go_wp2_with fail
        refine bodyPost_ret (results_row_tmp rfl _ _ w.heap.size _ _ _ _ rfl N2.out.1 Tryd.underlying31 rfl (by kernel_rfl)) rfl ?_
        rw [HQ.out, HE.out]
        refine ⟨_, rfl, ?_, N2.out.2⟩
        exact (O2.out.mono (fun b hb => ⟨by have := hb.1; have := Hsz.out; omega, by have := hb.2.1; have := hs2.out; omega⟩)).wr
end Go.Proofs.YtcfjpffdkmleiaaDoor
