/-
  Games, the program's side: hasAllCards, firstWithoutCards, isAtEnd.
-/
import Derived.Test.YtmfammgdcdlceaaDoorGame0
import Derived.Test.YtmfammgdcdlceaaDoorCatAll
import Derived.Test.YtmfammgdcdlceaaDoorBits
import Derived.Deep.RegionHeld3
namespace Go.Proofs.YtmfammgdcdlceaaDoor
open Go.RowKit
set_option linter.unusedVariables false
set_option linter.unusedSimpArgs false

theorem RdAt.ofOwn {w : World} {B : Nat} {v : Value} {zs : List Int} {n : Nat} (h : w.ownsRow B 3 1 v n (zs.map (Value.int .i64))) (hn : n = zs.length) (hw : ∀ x ∈ zs, (Lit.int .i64 x).wf = true) : ∃ b, B ≤ b ∧ RdAt .i64 w v zs b := by
  subst hn
  obtain ⟨b, hb, hr⟩ := own_wr h hw
  exact ⟨b, hb, hr.rd⟩
theorem own_baseG {w : World} {B B' : Nat} {E : TypeId} {size n : Nat} {v : Value} {xs : List Value} (h : w.ownsRow B E size v n xs) (hb : B' ≤ B) : w.ownsRow B' E size v n xs := by
  obtain ⟨h1, h2⟩ := h
  refine ⟨h1, h2.imp id ?_⟩
  rintro ⟨g, cap, cur, e, hg, r⟩
  exact ⟨g, cap, cur, e, Nat.le_trans hb hg, r⟩
/-- Three slices laid side by side. -/
theorem rows_three {w : World} {g : Nat} {v0 v1 v2 : Value} {z0 z1 z2 : List Int} {b0 b1 b2 : Nat} {t : TypeId} (hg : w.heap[g]? = some (.cells #[v0, v1, v2] t (0, 0))) (h0 : RdAt .i64 w v0 z0 b0) (h1 : RdAt .i64 w v1 z1 b1) (h2 : RdAt .i64 w v2 z2 b2) :
    RdRows .i64 w (.slice (some ⟨g, 0, none⟩) 3 3) [z0, z1, z2] := by
  refine ⟨_, 3, rfl, ⟨Nat.le_refl _, by unfold maxLen; decide, fun e => by cases e⟩, .inr ⟨g, 0, rfl, fun j hj => ?_⟩⟩
  have hc : ∀ i, w.cell? ⟨g, i, none⟩ = #[v0, v1, v2][i]? := fun i => by simp [World.cell?, hg]
  match j, hj with
  | 0, _ => exact ⟨v0, b0, by rw [hc]; rfl, h0⟩
  | 1, _ => exact ⟨v1, b1, by rw [hc]; rfl, h1⟩
  | 2, _ => exact ⟨v2, b2, by rw [hc]; rfl, h2⟩
theorem flat_wf {w : World} {v : Value} {zss : List (List Int)} (h : RdRows .i64 w v zss) : ∀ x ∈ zss.flatten, (Lit.int .i64 x).wf = true := by
  intro x hx
  obtain ⟨zs, hz, hx⟩ := List.mem_flatten.1 hx
  obtain ⟨j, hj, rfl⟩ := List.getElem_of_mem hz
  obtain ⟨blk, off, cap', p, c, b, hv, hc, hr, -⟩ := h.row hj
  exact hr.wf x hx
set_option maxRecDepth 100000 in
theorem isWhole_any (v : Value) (zs : List Int) (b : Nat) (w : World) (h : RdAt .i64 w v zs b) (hl : zs.length ≤ 1099511627776) (r : Bool) (hr : wholeB zs = r) :
    Calls Tryd.prog 99 #[v] w fun e w' => e = .returned (.bool r) ∧ Below w.heap.size w w' := by
  have HI := Lib.hid (isHand_any v zs b w h hl)
  obtain ⟨a, cap, rfl, -⟩ := h
  unfold wholeB at hr
  obtain ⟨n, hn⟩ : ∃ n, n = zs.length := ⟨_, rfl⟩
  rw [← hn] at hr hl HI ⊢
  clear hn
  obtain ⟨q, hq⟩ : ∃ q, ((n : Int) == 52) = q := ⟨_, rfl⟩
  obtain ⟨p, hp⟩ : ∃ p, isHand zs = p := ⟨_, rfl⟩
  rw [hq, hp] at hr
  rw [hp] at HI
  have HR := Lib.hid hr
  clear hr hp
  cases q with
  | false =>
    obtain rfl : false = r := HR.out
    go_enter Tryd.func99, Tryd.ntmps99
    go_wp2_with fail
    go_ret
    exact ⟨rfl, Below.refl _ _⟩
  | true =>
    obtain rfl : p = r := HR.out
    go_enter Tryd.func99, Tryd.ntmps99
    go_wp2_with fail
    refine HI.out.mono ?_
    rintro e w1 ⟨rfl, B1⟩
    go_wp2_with fail
    go_ret
    exact ⟨rfl, B1⟩
set_option maxRecDepth 100000 in
set_option maxHeartbeats 400000 in
theorem hasAll_any (v : Value) (D : MGame) (w : World) (h : RdGame w v D) (hf : D.Few) (r : Bool) (hr : wholeB (allG D) = r) :
    Calls Tryd.prog 90 #[v] w fun e w' => e = .returned (.bool r) ∧ Below w.heap.size w w' := by
  obtain ⟨p4, p5, p8, p9, p10, c4, c5, c8, c9, c10, b9, b10, rfl, h0, h8, h9, h10, wf0, wf1, wf2⟩ := h
  obtain ⟨f0, f8, fs8, f9, f10⟩ := hf
  have hfl := flat_len D.hands
  have hwf := flat_wf h8
  have HC := Lib.hid (fun wx (hb : Below w.heap.size w wx) => catAll_any _ D.hands wx (h8.below hb) f8 (by omega))
  have HC2 : Hid (∀ wx, Below w.heap.size w wx → ∀ v1 n1, wx.ownsRow w.heap.size 3 1 v1 n1 (D.hands.flatten.map (Value.int .i64)) → n1 = sumLen D.hands → ∀ g t, wx.heap[g]? = some (.cells #[v1, .slice p9 D.stock.length c9, .slice p10 D.heap.length c10] t (0, 0)) → Calls Tryd.prog 100 #[.slice (some ⟨g, 0, none⟩) 3 3] wx fun e w' => ∃ v' b', e = .returned v' ∧ RdAt .i64 w' v' (allG D) b' ∧ Below wx.heap.size wx w') := Lib.hid (fun wx hb v1 n1 hown hn g t hg => by
    obtain ⟨b1, -, hr1⟩ := RdAt.ofOwn hown (by rw [hn, hfl]) hwf
    have hrows := rows_three hg hr1 (h9.below hb) (h10.below hb)
    refine (catAll_any _ _ wx hrows (by simp) (by simp [sumLen, List.length_flatten]; simp [sumLen] at fs8; omega)).mono ?_
    rintro e w' ⟨v', rfl, hown', B'⟩
    have hfx : [D.hands.flatten, D.stock, D.heap].flatten = allG D := by simp [allG]
    rw [hfx] at hown'
    obtain ⟨b', -, hr'⟩ := RdAt.ofOwn hown' (by rw [← hfx, flat_len]) (fun x hx => by
      unfold allG at hx
      rcases List.mem_append.1 hx with hx | hx
      · exact hwf x hx
      · rcases List.mem_append.1 hx with hx | hx
        · exact h9.wf x hx
        · exact h10.wf x hx)
    exact ⟨v', b', rfl, hr', B'⟩)
  have hla : (allG D).length ≤ 1099511627776 := by unfold allG; simp only [List.length_append]; omega
  obtain ⟨W0, hW0⟩ : ∃ W0, W0 = w.alloc (.cells #[.int .i64 D.rules.players, .int .i64 D.rules.each, .bool D.rules.sameSuit, .bool D.rules.sameRank, .slice p4 D.rules.wild.length c4, .slice p5 D.rules.skip.length c5, .int .i64 D.rules.take, .int .i64 D.rules.limit, .slice p8 D.hands.length c8, .slice p9 D.stock.length c9, .slice p10 D.heap.length c10, .int .i64 D.turn, .int .i64 D.moves, .int .i64 D.passes] 47) := ⟨_, rfl⟩
  have G0 : W0.heap[w.heap.size]? = some (.cells #[.int .i64 D.rules.players, .int .i64 D.rules.each, .bool D.rules.sameSuit, .bool D.rules.sameRank, .slice p4 D.rules.wild.length c4, .slice p5 D.rules.skip.length c5, .int .i64 D.rules.take, .int .i64 D.rules.limit, .slice p8 D.hands.length c8, .slice p9 D.stock.length c9, .slice p10 D.heap.length c10, .int .i64 D.turn, .int .i64 D.moves, .int .i64 D.passes] 47 (0, 0)) := by rw [hW0]; exact heap_alloc_new _ _
  have BW0 : Below w.heap.size w W0 := by rw [hW0]; exact (Below.refl _ _).alloc (Nat.le_refl _) _
  have lW0 : w.heap.size < W0.heap.size := by rw [hW0]; simp
  have HW0 := Lib.hid hW0
  have HG : Hid (∀ wx, Below W0.heap.size W0 wx → wx.cell? ⟨w.heap.size, 8, none⟩ = some (.slice p8 D.hands.length c8) ∧ wx.cell? ⟨w.heap.size, 9, none⟩ = some (.slice p9 D.stock.length c9) ∧ wx.cell? ⟨w.heap.size, 10, none⟩ = some (.slice p10 D.heap.length c10)) := Lib.hid (fun wx hx => by
    have G := (hx.block _ lW0).trans G0
    refine ⟨?_, ?_, ?_⟩ <;> rw [box_cell G] <;> rfl)
  have HB := Lib.hid BW0
  obtain ⟨k8, k9, k10⟩ := HG.out W0 (Below.refl _ _)
  have HD := Lib.hid (fun wx v b (hrd : RdAt .i64 wx v (allG D) b) => isWhole_any v (allG D) b wx hrd hla r hr)
  clear hW0 h0 h8 h9 h10 f0 f8 fs8 f9 f10 hfl hwf hla BW0 hr
  go_enter Tryd.func90, Tryd.ntmps90
  go_wp2_with fail
  rw [← HW0.out]
  go_region_held3 (fun w' => w'.cell? ⟨w.heap.size, 8, none⟩ = some (.slice p8 D.hands.length c8) ∧ w'.cell? ⟨w.heap.size, 9, none⟩ = some (.slice p9 D.stock.length c9) ∧ w'.cell? ⟨w.heap.size, 10, none⟩ = some (.slice p10 D.heap.length c10)) (go_keep) (first
    | (go_at_call 100; (with_reducible refine (HC.out _ HB.out.drew).mono ?_); rintro e wu0 ⟨v1, rfl, hown, Bu0⟩; obtain ⟨q1, d1, e1⟩ := own_shape hown; subst e1; have Ba := (Below.refl W0.heap.size W0).drew.trans Bu0; obtain ⟨x8, x9, x10⟩ := HG.out wu0 Ba; have HN := Lib.hid (HC2.out (wu0.alloc (.cells #[.slice q1 (sumLen D.hands) d1, .slice p9 D.stock.length c9, .slice p10 D.heap.length c10] 30)) ((HB.out.trans (Ba.mono HB.out.size)).alloc (HB.out.trans (Ba.mono HB.out.size)).size _) _ _ ((own_baseG hown HB.out.drew.size).alloc _) rfl _ _ (patNew _ _)))
    | (go_at_call 100; (with_reducible refine HN.out.mono ?_); rintro e wu1 ⟨v2, b2, rfl, hrd2, Bu1⟩; obtain ⟨q2, d2, e2, -⟩ := id hrd2; subst e2; have Bb := (Ba.alloc Ba.size _).trans (Bu1.mono (Ba.alloc Ba.size _).size); obtain ⟨y8, y9, y10⟩ := HG.out wu1 Bb)
    | (go_at_call 99; (with_reducible refine (HD.out _ _ _ hrd2).mono ?_); rintro e wu2 ⟨rfl, Bu2⟩; have Bc := Bb.trans (Bu2.mono Bb.size); obtain ⟨z8, z9, z10⟩ := HG.out wu2 Bc))
  all_goals
    have B3 := HB.out.trans (Bc.mono HB.out.size)
    clear k8 k9 k10 x8 x9 x10 y8 y9 y10 z8 z9 z10 hown hrd2
    go_wp2_with fail
    go_ret
    exact ⟨rfl, B3⟩
end Go.Proofs.YtmfammgdcdlceaaDoor
