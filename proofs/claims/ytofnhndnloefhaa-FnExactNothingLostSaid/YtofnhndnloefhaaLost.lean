/-
  NothingLost, both sides.
-/
import Derived.Test.YtofnhndnloefhaaNTable
import Derived.Test.YtofnhndnloefhaaModel05
import Derived.Test.YtofnhndnloefhaaApart
import Derived.Test.YtofnhndnloefhaaCatAll
import Derived.Test.YtofnhndnloefhaaBits
import Derived.Test.YtofnhndnloefhaaSetR
import Derived.Test.YtofnhndnloefhaaSet
import Derived.Deep.Cut
import Derived.Deep.RegionHeld3
namespace Go.Proofs.Ytofnhndnloefhaa
open Go.RowKit
set_option linter.unusedVariables false
set_option linter.unusedSimpArgs false

theorem patNew (w : World) (o : Obj) : (w.alloc o).heap[w.heap.size]? = some o := heap_alloc_new _ _
theorem isHand_nodup (zs : List Int) : isHand zs = decide (zs.Nodup ∧ ∀ z ∈ zs, isCard z = true) := by
  unfold isHand
  by_cases h : ∀ j (h : j < zs.length), isCard zs[j] = true ∧ zs[j] ∉ zs.take j
  · rw [decide_eq_true h, eq_comm, decide_eq_true_eq]
    refine ⟨?_, fun z hz => ?_⟩
    · rw [List.nodup_iff_pairwise_ne, List.pairwise_iff_getElem]
      intro i j hi hj hij e
      refine (h j hj).2 ?_
      rw [← e]
      exact List.mem_take_iff_getElem.2 ⟨i, by omega, rfl⟩
    · obtain ⟨j, hj, rfl⟩ := List.getElem_of_mem hz
      exact (h j hj).1
  · rw [decide_eq_false h, eq_comm, decide_eq_false_iff_not]
    rintro ⟨hn, hc⟩
    refine h fun j hj => ⟨hc _ (List.getElem_mem hj), fun hm => ?_⟩
    obtain ⟨i, hi, e⟩ := List.mem_take_iff_getElem.1 hm
    rw [List.nodup_iff_pairwise_ne, List.pairwise_iff_getElem] at hn
    exact hn i j (by omega) hj (by omega) e
theorem isHand_perm {a b : List Int} (h : a.Perm b) : isHand a = isHand b := by
  rw [isHand_nodup, isHand_nodup]
  have h1 := h.nodup_iff
  have h2 : (∀ z ∈ a, isCard z = true) ↔ ∀ z ∈ b, isCard z = true := ⟨fun k z hz => k z (h.mem_iff.2 hz), fun k z hz => k z (h.mem_iff.1 hz)⟩
  by_cases e : b.Nodup ∧ ∀ z ∈ b, isCard z = true
  · rw [decide_eq_true e, decide_eq_true ⟨h1.2 e.1, h2.2 e.2⟩]
  · rw [decide_eq_false e, decide_eq_false (fun k => e ⟨h1.1 k.1, h2.1 k.2⟩)]
/-- Each card once. -/

def wholeB (zs : List Int) : Bool := ((zs.length : Int) == 52) && isHand zs
theorem wholeB_perm {a b : List Int} (h : a.Perm b) : wholeB a = wholeB b := by unfold wholeB; rw [h.length_eq, isHand_perm h]
/-- The cards of a game as the program gathers them, and as the model does. -/
def allG (D : MGame) : List Int := D.hands.flatten ++ (D.stock ++ D.heap)
def allS (D : MGame) : List Int := (D.stock ++ D.heap) ++ D.hands.flatten
theorem all_perm (D : MGame) : wholeB (allS D) = wholeB (allG D) := wholeB_perm List.perm_append_comm
theorem RdAt.ofOwn {w : World} {B : Nat} {v : Value} {zs : List Int} {n : Nat} (h : w.ownsRow B 3 1 v n (zs.map (Value.int .i64))) (hn : n = zs.length) (hw : ∀ x ∈ zs, (Lit.int .i64 x).wf = true) : ∃ b, B ≤ b ∧ RdAt .i64 w v zs b := by
  subst hn
  obtain ⟨b, hb, hr⟩ := own_wr h hw
  exact ⟨b, hb, hr.rd⟩
theorem own_baseG {w : World} {B B' : Nat} {E : TypeId} {size n : Nat} {v : Value} {xs : List Value} (h : w.ownsRow B E size v n xs) (hb : B' ≤ B) : w.ownsRow B' E size v n xs := by
  obtain ⟨h1, h2⟩ := h
  refine ⟨h1, h2.imp id ?_⟩
  rintro ⟨g, cap, cur, e, hg, r⟩
  exact ⟨g, cap, cur, e, Nat.le_trans hb hg, r⟩
/-- Three slices laid side by side. -/
theorem rows_three {w : World} {g : Nat} {v0 v1 v2 : Value} {z0 z1 z2 : List Int} {b0 b1 b2 : Nat} {t : TypeId} (hg : w.heap[g]? = some (.cells #[v0, v1, v2] t (0, 0))) (h0 : RdAt .i64 w v0 z0 b0) (h1 : RdAt .i64 w v1 z1 b1) (h2 : RdAt .i64 w v2 z2 b2) :
    RdRows .i64 w (.slice (some ⟨g, 0, none⟩) 3 3) [z0, z1, z2] := by
  refine ⟨_, 3, rfl, ⟨Nat.le_refl _, by unfold maxLen; decide, fun e => by cases e⟩, .inr ⟨g, 0, rfl, fun j hj => ?_⟩⟩
  have hc : ∀ i, w.cell? ⟨g, i, none⟩ = #[v0, v1, v2][i]? := fun i => by simp [World.cell?, hg]
  match j, hj with
  | 0, _ => exact ⟨v0, b0, by rw [hc]; rfl, h0⟩
  | 1, _ => exact ⟨v1, b1, by rw [hc]; rfl, h1⟩
  | 2, _ => exact ⟨v2, b2, by rw [hc]; rfl, h2⟩
theorem flat_wf {w : World} {v : Value} {zss : List (List Int)} (h : RdRows .i64 w v zss) : ∀ x ∈ zss.flatten, (Lit.int .i64 x).wf = true := by
  intro x hx
  obtain ⟨zs, hz, hx⟩ := List.mem_flatten.1 hx
  obtain ⟨j, hj, rfl⟩ := List.getElem_of_mem hz
  obtain ⟨blk, off, cap', p, c, b, hv, hc, hr, -⟩ := h.row hj
  exact hr.wf x hx
set_option maxRecDepth 100000 in
theorem isWhole_any (v : Value) (zs : List Int) (b : Nat) (w : World) (h : RdAt .i64 w v zs b) (hl : zs.length ≤ 1099511627776) (r : Bool) (hr : wholeB zs = r) :
    Calls Try.prog 25 #[v] w fun e w' => e = .returned (.bool r) ∧ Below w.heap.size w w' := by
  have HI := Lib.hid (isHand_any v zs b w h hl)
  obtain ⟨a, cap, rfl, -⟩ := h
  unfold wholeB at hr
  obtain ⟨n, hn⟩ : ∃ n, n = zs.length := ⟨_, rfl⟩
  rw [← hn] at hr hl HI ⊢
  clear hn
  obtain ⟨q, hq⟩ : ∃ q, ((n : Int) == 52) = q := ⟨_, rfl⟩
  obtain ⟨p, hp⟩ : ∃ p, isHand zs = p := ⟨_, rfl⟩
  rw [hq, hp] at hr
  rw [hp] at HI
  have HR := Lib.hid hr
  clear hr hp
  cases q with
  | false =>
    obtain rfl : false = r := HR.out
    go_enter Try.func25, Try.ntmps25
    go_wp2_with fail
    go_ret
    exact ⟨rfl, Below.refl _ _⟩
  | true =>
    obtain rfl : p = r := HR.out
    go_enter Try.func25, Try.ntmps25
    go_wp2_with fail
    refine HI.out.mono ?_
    rintro e w1 ⟨rfl, B1⟩
    go_wp2_with fail
    go_ret
    exact ⟨rfl, B1⟩
set_option maxRecDepth 100000 in
set_option maxHeartbeats 400000 in
theorem hasAll_any (v : Value) (D : MGame) (w : World) (h : RdGame w v D) (hf : D.Few) (r : Bool) (hr : wholeB (allG D) = r) :
    Calls Try.prog 18 #[v] w fun e w' => e = .returned (.bool r) ∧ Below w.heap.size w w' := by
  obtain ⟨p4, p5, p8, p9, p10, c4, c5, c8, c9, c10, b9, b10, rfl, h0, h8, h9, h10, wf0, wf1, wf2⟩ := h
  obtain ⟨f0, f8, fs8, f9, f10⟩ := hf
  have hfl := flat_len D.hands
  have hwf := flat_wf h8
  have HC := Lib.hid (fun wx (hb : Below w.heap.size w wx) => catAll_any _ D.hands wx (h8.below hb) f8 (by omega))
  have HC2 : Hid (∀ wx, Below w.heap.size w wx → ∀ v1 n1, wx.ownsRow w.heap.size 3 1 v1 n1 (D.hands.flatten.map (Value.int .i64)) → n1 = sumLen D.hands → ∀ g t, wx.heap[g]? = some (.cells #[v1, .slice p9 D.stock.length c9, .slice p10 D.heap.length c10] t (0, 0)) → Calls Try.prog 26 #[.slice (some ⟨g, 0, none⟩) 3 3] wx fun e w' => ∃ v' b', e = .returned v' ∧ RdAt .i64 w' v' (allG D) b' ∧ Below wx.heap.size wx w') := Lib.hid (fun wx hb v1 n1 hown hn g t hg => by
    obtain ⟨b1, -, hr1⟩ := RdAt.ofOwn hown (by rw [hn, hfl]) hwf
    have hrows := rows_three hg hr1 (h9.below hb) (h10.below hb)
    refine (catAll_any _ _ wx hrows (by simp) (by simp [sumLen, List.length_flatten]; simp [sumLen] at fs8; omega)).mono ?_
    rintro e w' ⟨v', rfl, hown', B'⟩
    have hfx : [D.hands.flatten, D.stock, D.heap].flatten = allG D := by simp [allG]
    rw [hfx] at hown'
    obtain ⟨b', -, hr'⟩ := RdAt.ofOwn hown' (by rw [← hfx, flat_len]) (fun x hx => by
      unfold allG at hx
      rcases List.mem_append.1 hx with hx | hx
      · exact hwf x hx
      · rcases List.mem_append.1 hx with hx | hx
        · exact h9.wf x hx
        · exact h10.wf x hx)
    exact ⟨v', b', rfl, hr', B'⟩)
  have hla : (allG D).length ≤ 1099511627776 := by unfold allG; simp only [List.length_append]; omega
  obtain ⟨W0, hW0⟩ : ∃ W0, W0 = w.alloc (.cells #[.int .i64 D.rules.players, .int .i64 D.rules.each, .bool D.rules.sameSuit, .bool D.rules.sameRank, .slice p4 D.rules.wild.length c4, .slice p5 D.rules.skip.length c5, .int .i64 D.rules.take, .int .i64 D.rules.limit, .slice p8 D.hands.length c8, .slice p9 D.stock.length c9, .slice p10 D.heap.length c10, .int .i64 D.turn, .int .i64 D.moves, .int .i64 D.passes] 34) := ⟨_, rfl⟩
  have G0 : W0.heap[w.heap.size]? = some (.cells #[.int .i64 D.rules.players, .int .i64 D.rules.each, .bool D.rules.sameSuit, .bool D.rules.sameRank, .slice p4 D.rules.wild.length c4, .slice p5 D.rules.skip.length c5, .int .i64 D.rules.take, .int .i64 D.rules.limit, .slice p8 D.hands.length c8, .slice p9 D.stock.length c9, .slice p10 D.heap.length c10, .int .i64 D.turn, .int .i64 D.moves, .int .i64 D.passes] 34 (0, 0)) := by rw [hW0]; exact heap_alloc_new _ _
  have BW0 : Below w.heap.size w W0 := by rw [hW0]; exact (Below.refl _ _).alloc (Nat.le_refl _) _
  have lW0 : w.heap.size < W0.heap.size := by rw [hW0]; simp
  have HW0 := Lib.hid hW0
  have HG : Hid (∀ wx, Below W0.heap.size W0 wx → wx.cell? ⟨w.heap.size, 8, none⟩ = some (.slice p8 D.hands.length c8) ∧ wx.cell? ⟨w.heap.size, 9, none⟩ = some (.slice p9 D.stock.length c9) ∧ wx.cell? ⟨w.heap.size, 10, none⟩ = some (.slice p10 D.heap.length c10)) := Lib.hid (fun wx hx => by
    have G := (hx.block _ lW0).trans G0
    refine ⟨?_, ?_, ?_⟩ <;> rw [box_cell G] <;> rfl)
  have HB := Lib.hid BW0
  obtain ⟨k8, k9, k10⟩ := HG.out W0 (Below.refl _ _)
  have HD := Lib.hid (fun wx v b (hrd : RdAt .i64 wx v (allG D) b) => isWhole_any v (allG D) b wx hrd hla r hr)
  clear hW0 h0 h8 h9 h10 f0 f8 fs8 f9 f10 hfl hwf hla BW0 hr
  go_enter Try.func18, Try.ntmps18
  go_wp2_with fail
  rw [← HW0.out]
  go_region_held3 (fun w' => w'.cell? ⟨w.heap.size, 8, none⟩ = some (.slice p8 D.hands.length c8) ∧ w'.cell? ⟨w.heap.size, 9, none⟩ = some (.slice p9 D.stock.length c9) ∧ w'.cell? ⟨w.heap.size, 10, none⟩ = some (.slice p10 D.heap.length c10)) (go_keep) (first
    | (go_at_call 26; (with_reducible refine (HC.out _ HB.out.drew).mono ?_); rintro e wu0 ⟨v1, rfl, hown, Bu0⟩; obtain ⟨q1, d1, e1⟩ := own_shape hown; subst e1; have Ba := (Below.refl W0.heap.size W0).drew.trans Bu0; obtain ⟨x8, x9, x10⟩ := HG.out wu0 Ba; have HN := Lib.hid (HC2.out (wu0.alloc (.cells #[.slice q1 (sumLen D.hands) d1, .slice p9 D.stock.length c9, .slice p10 D.heap.length c10] 22)) ((HB.out.trans (Ba.mono HB.out.size)).alloc (HB.out.trans (Ba.mono HB.out.size)).size _) _ _ ((own_baseG hown HB.out.drew.size).alloc _) rfl _ _ (patNew _ _)))
    | (go_at_call 26; (with_reducible refine HN.out.mono ?_); rintro e wu1 ⟨v2, b2, rfl, hrd2, Bu1⟩; obtain ⟨q2, d2, e2, -⟩ := id hrd2; subst e2; have Bb := (Ba.alloc Ba.size _).trans (Bu1.mono (Ba.alloc Ba.size _).size); obtain ⟨y8, y9, y10⟩ := HG.out wu1 Bb)
    | (go_at_call 25; (with_reducible refine (HD.out _ _ _ hrd2).mono ?_); rintro e wu2 ⟨rfl, Bu2⟩; have Bc := Bb.trans (Bu2.mono Bb.size); obtain ⟨z8, z9, z10⟩ := HG.out wu2 Bc))
  all_goals
    have B3 := HB.out.trans (Bc.mono HB.out.size)
    clear k8 k9 k10 x8 x9 x10 y8 y9 y10 z8 z9 z10 hown hrd2
    go_wp2_with fail
    go_ret
    exact ⟨rfl, B3⟩
theorem step_append_runP {P : Program} {ops : Array Oper} {o : Oper} {a : Act} {w : World} {K : Act → World → Prop} {Q : Exit → Act → World → Prop} {E : Prop} (hg : o.guard = none) (s x : Operand) (t tn : TypeId)
    (ho : o.op = .call { callee := .builtin .append, args := #[s, x], argTypes := #[t, tn] }) (vs vx : Value) (hs : a.eval s = vs) (hx : a.eval x = vx)
    (v' : Value) (w' : World) (hr : (Builtin.append_ #[t, tn] o.type #[vs, vx]).run P w = .ok v' w') (h : K (a.put o.dst v') w') : if Region.wanted o (yielded ops a.tmps) = true then Oper.wp P o a w K Q else E := by
  have hw : Region.wanted o (yielded ops a.tmps) = true := by simp [Region.wanted, hg]
  rw [if_pos hw]
  exact Lib.wp_append_run w s x t tn ho vs vx hs hx v' w' hr h

theorem flat_takeG (zss : List (List Int)) (k : Nat) (h : k < zss.length) : (zss.take (k + 1)).flatten = (zss.take k).flatten ++ zss[k] := flat_take zss k h
def lostB (D : MTable) : Bool := !D.on || wholeB (allG D.game)
set_option maxRecDepth 100000 in
set_option maxHeartbeats 4000000 in
theorem sNothingLost_any (v : Value) (D : MTable) (w : World) (h : RdTable w v D) (hf : D.Few) (r : Bool) (hr : lostB D = r) :
    Calls Try.prog 5 #[v] w fun e w' => e = .returned (.bool r) ∧ Below w.heap.size w w' := by
  obtain ⟨i0, hi, hz0, hz1, hz2⟩ := info_parts info_i64
  obtain ⟨p4, p5, p8, p10, p15, p16, p19, p20, p21, p25, p26, c4, c5, c8, c10, c15, c16, c19, c20, c21, c25, c26, b8, b10, b25, hv, h0, h8x, h10x, h11, h25, h26⟩ := h
  obtain ⟨f0, f8x, f10x, f11, f25, f26, fs26⟩ := hf
  subst hv
  obtain ⟨o, ho⟩ : ∃ o, D.on = o := ⟨_, rfl⟩
  unfold lostB at hr
  rw [ho] at hr ⊢
  have h11' := h11
  obtain ⟨q4, q5, q8, q9, q10, d4, d5, d8, d9, d10, e9, e10, ev, -, h8, h9, h10, -, -, -⟩ := h11'
  simp only [Value.agg.injEq, Array.mk.injEq, List.cons.injEq, Value.slice.injEq, true_and, and_true] at ev
  obtain ⟨⟨rfl, rfl⟩, ⟨rfl, rfl⟩, ⟨rfl, rfl⟩, ⟨rfl, rfl⟩, ⟨rfl, rfl⟩⟩ := ev
  obtain ⟨-, f8, fs8, f20, f21⟩ := f11
  have H9 := Lib.hid (fun wx (hb : Below w.heap.size w wx) => (h9.below hb).vals)
  have H10 := Lib.hid (fun wx (hb : Below w.heap.size w wx) => (h10.below hb).vals)
  have Hwf : Hid (∀ x ∈ allS D.game, (Lit.int .i64 x).wf = true) := Lib.hid (fun x hx => by
    unfold allS at hx
    rcases List.mem_append.1 hx with hx | hx
    · rcases List.mem_append.1 hx with hx | hx
      · exact h9.wf x hx
      · exact h10.wf x hx
    · exact flat_wf h8 x hx)
  have Hrow := Lib.hid (fun wx (hb : Below w.heap.size w wx) j (hj : j < D.game.hands.length) => (h8.below hb).row hj)
  have Hsum : Hid (∀ j (hj : j < D.game.hands.length), D.game.hands[j].length ≤ 1048576) := Lib.hid (fun j hj => Nat.le_trans (len_le_sum D.game.hands hj) fs8)
  have Hst : Hid (∀ j, sumLen (D.game.hands.take j) ≤ 1048576) := Lib.hid (fun j => Nat.le_trans (sumLen_take_le D.game.hands j) fs8)
  obtain ⟨W0, hW0⟩ : ∃ W0, W0 = w.alloc (.cells #[.int .i64 D.rules.players, .int .i64 D.rules.each, .bool D.rules.sameSuit, .bool D.rules.sameRank, .slice p4 D.rules.wild.length c4, .slice p5 D.rules.skip.length c5, .int .i64 D.rules.take, .int .i64 D.rules.limit, .slice p8 D.seals.length c8, .bool o, .slice p10 D.deck.length c10, .int .i64 D.game.rules.players, .int .i64 D.game.rules.each, .bool D.game.rules.sameSuit, .bool D.game.rules.sameRank, .slice p15 D.game.rules.wild.length c15, .slice p16 D.game.rules.skip.length c16, .int .i64 D.game.rules.take, .int .i64 D.game.rules.limit, .slice p19 D.game.hands.length c19, .slice p20 D.game.stock.length c20, .slice p21 D.game.heap.length c21, .int .i64 D.game.turn, .int .i64 D.game.moves, .int .i64 D.game.passes, .slice p25 D.record.length c25, .slice p26 D.sheet.length c26] 36) := ⟨_, rfl⟩
  have G1 : W0.heap[w.heap.size]? = some (.cells #[.int .i64 D.rules.players, .int .i64 D.rules.each, .bool D.rules.sameSuit, .bool D.rules.sameRank, .slice p4 D.rules.wild.length c4, .slice p5 D.rules.skip.length c5, .int .i64 D.rules.take, .int .i64 D.rules.limit, .slice p8 D.seals.length c8, .bool o, .slice p10 D.deck.length c10, .int .i64 D.game.rules.players, .int .i64 D.game.rules.each, .bool D.game.rules.sameSuit, .bool D.game.rules.sameRank, .slice p15 D.game.rules.wild.length c15, .slice p16 D.game.rules.skip.length c16, .int .i64 D.game.rules.take, .int .i64 D.game.rules.limit, .slice p19 D.game.hands.length c19, .slice p20 D.game.stock.length c20, .slice p21 D.game.heap.length c21, .int .i64 D.game.turn, .int .i64 D.game.moves, .int .i64 D.game.passes, .slice p25 D.record.length c25, .slice p26 D.sheet.length c26] 36 (0, 0)) := by rw [hW0]; exact heap_alloc_new _ _
  have BW0 : Below w.heap.size w W0 := by rw [hW0]; exact (Below.refl _ _).alloc (Nat.le_refl _) _
  have l1 : w.heap.size < W0.heap.size := by rw [hW0]; simp
  have k9 : W0.cell? ⟨w.heap.size, 9, none⟩ = some (.bool o) := by rw [box_cell G1]; rfl
  have k20 : W0.cell? ⟨w.heap.size, 20, none⟩ = some (.slice p20 D.game.stock.length c20) := by rw [box_cell G1]; rfl
  have k21 : W0.cell? ⟨w.heap.size, 21, none⟩ = some (.slice p21 D.game.heap.length c21) := by rw [box_cell G1]; rfl
  have HW0 := Lib.hid hW0
  clear hW0 h0 h8x h10x h11 h25 h26 h8 h9 h10 f0 f8x f10x f25 f26 fs26
  cases o with
  | false =>
    obtain rfl : true = r := hr
    rw [HW0.out] at BW0
    clear G1 k9 k20 k21 HW0
    go_enter Try.func5, Try.ntmps5
    go_wp2_with fail
    go_ret
    exact ⟨rfl, BW0⟩
  | true =>
    go_enter Try.func5, Try.ntmps5
    have HR : Hid (wholeB (allS D.game) = r) := Lib.hid (by rw [all_perm]; exact hr)
    clear hr ho
    -- the stock and the heap, side by side in a row of its own
    have hown0 := World.ownsRow_lit (base := W0.heap.size) (e := 3) (size := 1) W0.drew #[] 0 (Nat.le_refl _) (Nat.zero_le _) rfl
    have b0 : Below W0.heap.size W0 (W0.drew.alloc (.cells #[] 3)) := ((Below.refl _ _).drew).alloc (Nat.le_refl _) _
    obtain ⟨v2, w2, hr2, hown2, hgr2⟩ := run_append_vals (W0.drew.alloc (.cells #[] 3)) W0.heap.size 22 22 3 i0 (.int .i64 0) 8 Try.underlying22 hi hz0 hz1 hz2 rfl _ 0 [] hown0 _ _ (H9.out _ (BW0.trans (b0.mono BW0.size))) int_one (by rw [List.length_map]; unfold maxLen; omega) (by rw [List.length_map]; omega) b0.size
    have b2 := b0.grown hgr2 b0.size (own_block hown0)
    rw [List.length_map, Nat.zero_add, List.nil_append] at hown2
    obtain ⟨pa, ca, ea⟩ := own_shape hown2
    subst ea
    obtain ⟨v3, w3, hr3, hown3, hgr3⟩ := run_append_vals w2 W0.heap.size 22 22 3 i0 (.int .i64 0) 8 Try.underlying22 hi hz0 hz1 hz2 rfl _ _ _ hown2 _ _ (H10.out _ (BW0.trans (b2.mono BW0.size))) int_one (by rw [List.length_map]; unfold maxLen; omega) (by rw [List.length_map]; omega) b2.size
    have b3 := b2.grown hgr3 b2.size (own_block hown2)
    rw [List.length_map, ← List.map_append] at hown3
    obtain ⟨pb, cb, eb⟩ := own_shape hown3
    subst eb
    have Q2 := Lib.hid hr2
    have Q3 := Lib.hid hr3
    have HO3 := Lib.hid hown3
    have HB3 := Lib.hid b3
    have HG : Hid (∀ wx, Below W0.heap.size W0 wx → wx.cell? ⟨w.heap.size, 20, none⟩ = some (.slice p20 D.game.stock.length c20) ∧ wx.cell? ⟨w.heap.size, 21, none⟩ = some (.slice p21 D.game.heap.length c21)) := Lib.hid (fun wx hx => by
      have G := (hx.block _ l1).trans G1
      refine ⟨?_, ?_⟩ <;> rw [box_cell G] <;> rfl)
    obtain ⟨x9, x10⟩ := HG.out w2 b2
    obtain ⟨y9, y10⟩ := HG.out w3 b3
    have HX := Lib.hid (And.intro (And.intro x9 x10) (And.intro y9 y10))
    clear hown0 hr2 hown2 hgr2 hr3 hown3 hgr3 b0 b2 b3 x9 x10 y9 y10
    go_wp2_with fail
    rw [← HW0.out]
    go_region_held3 (fun w' => w'.cell? ⟨w.heap.size, 20, none⟩ = some (.slice p20 D.game.stock.length c20) ∧ w'.cell? ⟨w.heap.size, 21, none⟩ = some (.slice p21 D.game.heap.length c21)) (go_keep) (first
      | (refine step_append_runP rfl _ _ _ _ rfl _ _ rfl rfl _ _ Q2.out ?_; obtain ⟨⟨x9, x10⟩, -⟩ := HX.out)
      | (refine step_append_runP rfl _ _ _ _ rfl _ _ rfl rfl _ _ Q3.out ?_; obtain ⟨-, ⟨y9, y10⟩⟩ := HX.out))
    all_goals
      have hown := HO3.out
      have B3 := HB3.out
      have Bw3 := BW0.trans (B3.mono BW0.size)
      have HR2 : Hid (wholeB (allS D.game) = r) := Lib.hid HR.out
      have lw3 : w.heap.size < w3.heap.size := Nat.lt_of_lt_of_le l1 B3.size
      have G3 := (B3.block _ l1).trans G1
      have kk := box_cell G3 19
      simp at kk
      clear k9 k20 k21 x9 x10 y9 y10 HR HX Q2 Q3 HO3 HB3 HG hi G1
      obtain ⟨i1, hi, hz0, hz1, hz2⟩ := info_parts info_i64
      obtain ⟨n, hn⟩ : ∃ n, n = D.game.hands.length := ⟨_, rfl⟩
      have Hn := Lib.hid hn
      obtain ⟨m0, hm0⟩ : ∃ m, m = D.game.stock.length + D.game.heap.length := ⟨_, rfl⟩
      have Hm0 := Lib.hid hm0
      have hm0b : m0 ≤ 2097152 := by omega
      rw [← hm0] at hown
      rw [← hn] at kk f8
      clear f20 f21
      go_wp2_with fail
      rw [← hm0, ← hn]
      clear hm0 hn kk
      go_loopw [3, 4] (fun o i wr => ∃ k : Nat, k ≤ n ∧ i = .int .i64 k ∧ Below w.heap.size w wr ∧ wr.heap[w.heap.size]? = w3.heap[w.heap.size]? ∧ W0.heap.size ≤ wr.heap.size ∧ wr.ownsRow W0.heap.size 3 1 o (m0 + sumLen (D.game.hands.take k)) (((D.game.stock ++ D.game.heap) ++ (D.game.hands.take k).flatten).map (Value.int .i64))) (fun _ i _ => n - (intOf i).toNat)
      case atStart => exact ⟨0, Nat.zero_le _, rfl, Bw3, rfl, B3.size, by simpa [sumLen] using hown⟩
      case round =>
        have HG3 := Lib.hid G3
        clear hown Bw3 G3 lw3
        obtain ⟨k, hk, rfl, hB, hGm, hsz, hown⟩ := hrel
        have kk := box_cell (hGm.trans HG3.out) 19
        simp at kk
        rw [← Hn.out] at kk
        have hst := Hst.out (k + 1)
        have hst0 := Hst.out k
        by_cases hlt : k < n
        · have hz : k < D.game.hands.length := by rw [← Hn.out]; exact hlt
          obtain ⟨blk, off, cap', p, c, b, hv, hc, hr', -⟩ := Hrow.out wr hB k hz
          have ha := (Value.slice.inj hv).1
          clear hv
          subst ha
          have hsm := Hsum.out k hz
          have HTj := sumLen_take D.game.hands k hz
          have HFj := flat_takeG D.game.hands k hz
          obtain ⟨op, oc, eo⟩ := own_shape hown
          subst eo
          obtain ⟨v5, w5, hr5, hown5, hgr5⟩ := run_append_vals wr W0.heap.size 22 22 3 i1 (.int .i64 0) 8 Try.underlying22 hi hz0 hz1 hz2 rfl _ _ _ hown _ _ hr'.vals int_one (by rw [List.length_map]; unfold maxLen; omega) (by rw [List.length_map]; omega) hsz
          rw [List.length_map] at hown5
          have hown6 : Hid (w5.ownsRow W0.heap.size 3 1 v5 (m0 + sumLen (D.game.hands.take (k + 1))) (((D.game.stock ++ D.game.heap) ++ (D.game.hands.take (k + 1)).flatten).map (Value.int .i64))) := Lib.hid (by rw [HTj, HFj, ← List.append_assoc, List.map_append, ← Nat.add_assoc]; exact hown5)
          have hb5 : Below W0.heap.size wr w5 := (Below.refl _ _).grown hgr5 hsz (own_block hown)
          have HB5 : Hid (Below w.heap.size w w5) := Lib.hid (hB.trans (hb5.mono (Nat.le_of_lt l1)))
          have HG5 : Hid (w5.heap[w.heap.size]? = w3.heap[w.heap.size]?) := Lib.hid ((hb5.block _ l1).trans hGm)
          have HS5 : Hid (W0.heap.size ≤ w5.heap.size) := Lib.hid (Nat.le_trans hsz hb5.size)
          obtain ⟨op5, oc5, eo5⟩ := own_shape hown5
          subst eo5
          have Q5 := Lib.hid hr5
          clear hown hown5 hr5 hgr5 hr' HTj HFj hB hb5 hGm hsz
          obtain ⟨m, hm⟩ : ∃ m, m = D.game.hands[k].length := ⟨_, rfl⟩
          rw [← hm] at hc Q5 hsm hown6
          clear hm
          go_wp2_with (at_builtin; refine Lib.wpList_append_run _ rfl _ _ _ _ rfl _ _ rfl rfl _ _ Q5.out ?_)
          go_roundw
          case rel => exact ⟨k + 1, by omega, by go_num, HB5.out, HG5.out, HS5.out, hown6.out⟩
          case measure => simp [intOf]; omega
        · obtain rfl : k = n := by omega
          have et : D.game.hands.take k = D.game.hands := by rw [Hn.out, List.take_length]
          have eS : (D.game.stock ++ D.game.heap) ++ D.game.hands.flatten = allS D.game := rfl
          have eL : (allS D.game).length = m0 + sumLen D.game.hands := by rw [← eS]; simp only [List.length_append, flat_len]; have := Hm0.out; omega
          rw [et, eS] at hown
          rw [et] at hst0
          obtain ⟨b', -, hrd⟩ := RdAt.ofOwn hown eL.symm Hwf.out
          have HIs := Lib.hid (sIsHand_any _ _ b' wr hrd (by rw [eL]; omega))
          obtain ⟨op, oc, eo⟩ := own_shape hown
          subst eo
          have hW : ((((m0 + sumLen D.game.hands : Nat) : Int) == 52) && isHand (allS D.game)) = r := by rw [← HR2.out]; unfold wholeB; rw [eL]
          obtain ⟨x, hx⟩ : ∃ x, x = m0 + sumLen D.game.hands := ⟨_, rfl⟩
          rw [← hx] at HIs hW
          have hx2 : (m0 : Int) + (sumLen D.game.hands : Int) = (x : Int) := by omega
          rw [← hx]
          obtain ⟨qa, hqa⟩ : ∃ q, ((x : Int) == 52) = q := ⟨_, rfl⟩
          obtain ⟨qb, hqb⟩ : ∃ q, isHand (allS D.game) = q := ⟨_, rfl⟩
          rw [hqa, hqb] at hW
          rw [hqb] at HIs
          have HW2 := Lib.hid hW
          have hxb : x ≤ 4194304 := by omega
          clear hown hrd eL eS hx hW hqb et hst hst0 hx2
          have HIq := HIs
          cases qb with
          | false =>
            obtain rfl : false = r := by rw [← HW2.out]; cases qa <;> rfl
            go_wp2_with fail
            refine HIs.out.mono ?_
            rintro e w6 ⟨rfl, B6⟩
            have B7 := hB.trans (B6.mono hB.size)
            go_wp2_with fail
            go_ret
            exact ⟨rfl, B7⟩
          | true =>
            obtain rfl : qa = r := by rw [← HW2.out]; cases qa <;> rfl
            go_wp2_with fail
            refine HIs.out.mono ?_
            rintro e w6 ⟨rfl, B6⟩
            have B7 := hB.trans (B6.mono hB.size)
            go_wp2_with fail
            go_ret
            exact ⟨rfl, B7⟩
set_option maxRecDepth 100000 in
set_option maxHeartbeats 1000000 in
theorem nothingLost_any (v : Value) (D : MTable) (w : World) (h : RdTable w v D) (hf : D.Few) (r : Bool) (hr : lostB D = r) :
    Calls Try.prog 7 #[v] w fun e w' => e = .returned (.bool r) ∧ Below w.heap.size w w' := by
  obtain ⟨p4, p5, p8, p10, p15, p16, p19, p20, p21, p25, p26, c4, c5, c8, c10, c15, c16, c19, c20, c21, c25, c26, b8, b10, b25, hv, h0, h8x, h10x, h11, h25, h26⟩ := h
  obtain ⟨f0, f8x, f10x, f11, f25, f26, fs26⟩ := hf
  subst hv
  obtain ⟨o, ho⟩ : ∃ o, D.on = o := ⟨_, rfl⟩
  unfold lostB at hr
  rw [ho] at hr ⊢
  obtain ⟨W0, hW0⟩ : ∃ W0, W0 = w.alloc (.cells #[.int .i64 D.rules.players, .int .i64 D.rules.each, .bool D.rules.sameSuit, .bool D.rules.sameRank, .slice p4 D.rules.wild.length c4, .slice p5 D.rules.skip.length c5, .int .i64 D.rules.take, .int .i64 D.rules.limit, .slice p8 D.seals.length c8, .bool o, .slice p10 D.deck.length c10, .int .i64 D.game.rules.players, .int .i64 D.game.rules.each, .bool D.game.rules.sameSuit, .bool D.game.rules.sameRank, .slice p15 D.game.rules.wild.length c15, .slice p16 D.game.rules.skip.length c16, .int .i64 D.game.rules.take, .int .i64 D.game.rules.limit, .slice p19 D.game.hands.length c19, .slice p20 D.game.stock.length c20, .slice p21 D.game.heap.length c21, .int .i64 D.game.turn, .int .i64 D.game.moves, .int .i64 D.game.passes, .slice p25 D.record.length c25, .slice p26 D.sheet.length c26] 36) := ⟨_, rfl⟩
  have G1 : W0.heap[w.heap.size]? = some (.cells #[.int .i64 D.rules.players, .int .i64 D.rules.each, .bool D.rules.sameSuit, .bool D.rules.sameRank, .slice p4 D.rules.wild.length c4, .slice p5 D.rules.skip.length c5, .int .i64 D.rules.take, .int .i64 D.rules.limit, .slice p8 D.seals.length c8, .bool o, .slice p10 D.deck.length c10, .int .i64 D.game.rules.players, .int .i64 D.game.rules.each, .bool D.game.rules.sameSuit, .bool D.game.rules.sameRank, .slice p15 D.game.rules.wild.length c15, .slice p16 D.game.rules.skip.length c16, .int .i64 D.game.rules.take, .int .i64 D.game.rules.limit, .slice p19 D.game.hands.length c19, .slice p20 D.game.stock.length c20, .slice p21 D.game.heap.length c21, .int .i64 D.game.turn, .int .i64 D.game.moves, .int .i64 D.game.passes, .slice p25 D.record.length c25, .slice p26 D.sheet.length c26] 36 (0, 0)) := by rw [hW0]; exact heap_alloc_new _ _
  have BW0 : Below w.heap.size w W0 := by rw [hW0]; exact (Below.refl _ _).alloc (Nat.le_refl _) _
  have k9 : W0.cell? ⟨w.heap.size, 9, none⟩ = some (.bool o) := by rw [box_cell G1]; rfl
  have HL : (Instr.loadAt 34 (.pointer (some ⟨w.heap.size, 11, none⟩))).run Try.prog W0 = .ok (.agg #[.int .i64 D.game.rules.players, .int .i64 D.game.rules.each, .bool D.game.rules.sameSuit, .bool D.game.rules.sameRank, .slice p15 D.game.rules.wild.length c15, .slice p16 D.game.rules.skip.length c16, .int .i64 D.game.rules.take, .int .i64 D.game.rules.limit, .slice p19 D.game.hands.length c19, .slice p20 D.game.stock.length c20, .slice p21 D.game.heap.length c21, .int .i64 D.game.turn, .int .i64 D.game.moves, .int .i64 D.game.passes]) W0 := by
    have := run_loadAt_mid (P := Try.prog) W0 w.heap.size 11 34 [.int .i64 D.game.rules.players, .int .i64 D.game.rules.each, .bool D.game.rules.sameSuit, .bool D.game.rules.sameRank, .slice p15 D.game.rules.wild.length c15, .slice p16 D.game.rules.skip.length c16, .int .i64 D.game.rules.take, .int .i64 D.game.rules.limit, .slice p19 D.game.hands.length c19, .slice p20 D.game.stock.length c20, .slice p21 D.game.heap.length c21, .int .i64 D.game.turn, .int .i64 D.game.moves, .int .i64 D.game.passes] _ (fun j v hv => by
      rw [box_cell G1]
      match j, hv with
      | 0, hv | 1, hv | 2, hv | 3, hv | 4, hv | 5, hv | 6, hv | 7, hv | 8, hv | 9, hv | 10, hv | 11, hv | 12, hv | 13, hv => exact hv) Try.underlying34 rfl (by kernel_rfl)
    simpa using this
  have HA := Lib.hid (hasAll_any _ D.game W0 (h11.below BW0) f11)
  have HW0 := Lib.hid hW0
  clear hW0 h0 h8x h10x h11 h25 h26 f0 f8x f10x f11 f25 f26 fs26 G1
  rw [HW0.out] at HL k9 BW0
  have HA := Lib.hid (fun r hr => by have := HA.out r hr; rw [HW0.out] at this; exact this)
  cases o with
  | false =>
    obtain rfl : true = r := hr
    clear HL HA HW0
    go_enter Try.func7, Try.ntmps7
    go_wp2_with fail
    go_ret
    exact ⟨rfl, BW0⟩
  | true =>
    have HA2 := Lib.hid (HA.out r hr)
    clear ho hr HW0
    go_enter Try.func7, Try.ntmps7
    go_wp2_with fail
    refine HA2.out.mono ?_
    rintro e w1 ⟨rfl, B1⟩
    have B2 := BW0.trans (B1.mono BW0.size)
    go_wp2_with fail
    go_ret
    exact ⟨rfl, B2⟩
end Go.Proofs.Ytofnhndnloefhaa
