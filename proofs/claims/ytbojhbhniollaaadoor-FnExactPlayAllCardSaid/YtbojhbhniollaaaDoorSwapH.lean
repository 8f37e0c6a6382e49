/-
  SwapHidden, both sides.
-/
import Derived.Test.YtbojhbhniollaaaDoorM7
import Derived.Test.YtbojhbhniollaaaDoorM8
import Derived.Test.YtbojhbhniollaaaDoorIsDealS
import Derived.IntWalk
import Derived.BigRegion
import Derived.Test.YtbojhbhniollaaaDoorEarly
namespace Go.Proofs.YtbojhbhniollaaaDoor
open Go.RowKit
set_option linter.unusedVariables false
set_option linter.unusedSimpArgs false

/-- There is a card i in the hand of a. -/
def hasAt (zss : List (List Int)) (a i : Int) : Bool := decide (0 ≤ a ∧ a ≤ (zss.length : Int) - 1) && decide (0 ≤ i ∧ i ≤ ((zss.getD a.toNat []).length : Int) - 1)
def swapOK (D : MDeal) (a b i k : Int) : Bool := isDeal D && decide (a ≠ b) && hasAt D.hands a i && hasAt D.hands b k
def swapRows (zss : List (List Int)) (a b i k : Nat) : List (List Int) := (zss.set a ((zss.getD a []).set i ((zss.getD b []).getD k 0))).set b ((zss.getD b []).set k ((zss.getD a []).getD i 0))
def swapD (D : MDeal) (a b i k : Int) : MDeal := if swapOK D a b i k then { D with hands := swapRows D.hands a.toNat b.toNat i.toNat k.toNat } else D
theorem sumLen_set (zss : List (List Int)) (j : Nat) (r : List Int) (h : r.length = (zss.getD j []).length) : sumLen (zss.set j r) = sumLen zss := by
  induction zss generalizing j with
  | nil => rfl
  | cons z zs ih =>
    cases j with
    | zero => show (List.map List.length (r :: zs)).sum = (List.map List.length (z :: zs)).sum; have h' : r.length = z.length := h; simp only [List.map_cons, List.sum_cons]; omega
    | succ j => have := ih j (by simpa using h); unfold sumLen at this; show (List.map List.length (z :: zs.set j r)).sum = (List.map List.length (z :: zs)).sum; simp only [List.map_cons, List.sum_cons]; omega
theorem swapRows_sum (zss : List (List Int)) (a b i k : Nat) (hab : a ≠ b) : sumLen (swapRows zss a b i k) = sumLen zss := by
  unfold swapRows
  rw [sumLen_set _ _ _ (by rw [List.length_set]; simp [List.getD, List.getElem?_set_ne hab]), sumLen_set _ _ _ (by rw [List.length_set])]
theorem swapD_few {D : MDeal} (a b i k : Int) (hf : D.Few) : (swapD D a b i k).Few := by
  unfold swapD
  by_cases h : swapOK D a b i k = true
  · rw [if_pos h]
    obtain ⟨f0, f1, f3, f4, f5⟩ := hf
    have h1 : a ≠ b ∧ 0 ≤ a ∧ 0 ≤ b := by
      unfold swapOK hasAt at h
      simp at h
      omega
    have h2 : a.toNat ≠ b.toNat := by omega
    exact ⟨by unfold swapRows; simpa using f0, by rw [swapRows_sum _ _ _ _ _ h2]; exact f1, f3, f4, f5⟩
  · rw [if_neg h]; exact hf
/-- A card is laid in the place of another, in a row of the call's own. -/
theorem OwnI.setAt {S : Nat → Prop} {w : World} {p : Option Addr} {c : Nat} {zs : List Int} (h : OwnI S w (.slice p zs.length c) zs) {i : Nat} (hi : i < zs.length) {x : Int} (hx : (Lit.int .i64 x).wf = true) :
    ∃ b off, p = some ⟨b, off, none⟩ ∧ S b ∧ (Value.slice p zs.length c).held = some b ∧ w.cell? ⟨b, off + i, none⟩ = some (.int .i64 zs[i]) ∧ w.frozen? ⟨b, off + i, none⟩ = false ∧ OwnI S (w.setCell ⟨b, off + i, none⟩ (.int .i64 x)) (.slice p zs.length c) (zs.set i x) := by
  have hwf : ∀ y ∈ zs.set i x, (Lit.int .i64 y).wf = true := fun y hy => by
    rcases List.mem_or_eq_of_mem_set hy with h1 | h1
    · exact h.1 y h1
    · rw [h1]; exact hx
  rcases h.2 with ⟨p', b, e, hw, hs⟩ | ⟨g, cap, e, ho, hS⟩
  · have hw' := hw
    obtain ⟨a, cap, e2, hcp, -, h4⟩ := hw
    rcases h4 with h4 | ⟨off, ha, hc, hf⟩
    · rw [h4] at hi; simp at hi
    · have hz : zs ≠ [] := fun e => by rw [e] at hi; simp at hi
      have e1 := Value.slice.inj e
      have e3 := Value.slice.inj e2
      obtain rfl : p = some ⟨b, off, none⟩ := by rw [e3.1, ha]
      obtain rfl : c = zs.length := e1.2.2
      have hh : (Value.slice (some ⟨b, off, none⟩) zs.length zs.length).held = some b := by
        rcases full_held rfl hw' with ⟨h1, -⟩ | ⟨-, h2⟩
        · exact absurd h1 hz
        · exact h2
      refine ⟨b, off, rfl, hs hz, hh, hc i hi, hf i hi, hwf, .inl ⟨some ⟨b, off, none⟩, b, by rw [List.length_set], ?_, fun _ => hs hz⟩⟩
      refine ⟨some ⟨b, off, none⟩, zs.length, by rw [List.length_set], ⟨by rw [List.length_set]; exact Nat.le_refl _, Nat.le_trans hcp.1 hcp.2.1, fun e => by cases e⟩, hwf, .inr ⟨off, rfl, fun j hj => ?_, fun j hj => ?_⟩⟩
      · by_cases e : j = i
        · subst e; rw [World.cell?_setCell_same _ _ _ (hc j hi)]; simp
        · rw [World.cell?_setCell_other w ⟨b, off + i, none⟩ ⟨b, off + j, none⟩ (.int .i64 x) (by intro e2; have := congrArg Addr.off e2; simp at this; omega), hc j (by simpa using hj)]
          simp [List.getElem_set_ne (Ne.symm e)]
      · rw [World.frozen?_setCell]; exact hf j (by simpa using hj)
  · have e1 := Value.slice.inj e
    obtain rfl := e1.1
    obtain rfl := e1.2.2
    have hc0 : w.cell? ⟨g, 0 + i, none⟩ = some (.int .i64 zs[i]) := by rw [Nat.zero_add, ho.cellAt i (by omega)]; simp [hi]
    have hs := ownsRow_set ho i hi (.int .i64 x)
    rw [← List.map_set] at hs
    refine ⟨g, 0, rfl, hS, rfl, hc0, by rw [Nat.zero_add]; exact ho.frozenAt i, hwf, .inr ⟨g, cap, by rw [List.length_set], ?_, hS⟩⟩
    rw [Nat.zero_add, List.length_set]; exact hs
theorem OwnR.setAt {S : Nat → Prop} {w : World} {v : Value} {zss : List (List Int)} (h : OwnR S w v zss) {j i : Nat} (hj : j < zss.length) (hi : i < zss[j].length) {x : Int} (hx : (Lit.int .i64 x).wf = true) :
    ∃ g c b off d, v = .slice (some ⟨g, 0, none⟩) zss.length c ∧ S b ∧ b ≠ g ∧ w.cell? ⟨g, j, none⟩ = some (.slice (some ⟨b, off, none⟩) zss[j].length d) ∧ w.cell? ⟨b, off + i, none⟩ = some (.int .i64 zss[j][i]) ∧ w.frozen? ⟨b, off + i, none⟩ = false ∧ ((Value.slice (some ⟨b, off, none⟩) zss[j].length d).held = some b ∧ ∀ m rm q, m < zss.length → m ≠ j → w.cell? ⟨g, m, none⟩ = some rm → rm.held = some q → q ≠ b) ∧ OwnR S (w.setCell ⟨b, off + i, none⟩ (.int .i64 x)) v (zss.set j (zss[j].set i x)) := by
  obtain ⟨g, c, r, hv, hg, hgl, hr, -, ho⟩ := h.row hj
  obtain ⟨xs, h1, h2, h3, h4⟩ := h
  obtain ⟨p, d, er⟩ := ho.shape
  subst er
  subst hv
  obtain ⟨r0, a1, a2⟩ := h3 j hj
  have hx0 : xs[j]? = some (.slice p zss[j].length d) := by rw [← h1.cellAt j (by omega)]; exact hr
  obtain rfl : r0 = .slice p zss[j].length d := Option.some.inj (a1.symm.trans hx0)
  obtain ⟨b, off, hp, hSb, hh, k1, k2, k3⟩ := a2.setAt hi hx
  subst hp
  have hbg : b ≠ g := fun e => hSb.2 (by rw [e]; rfl)
  have hother : ∀ q, q ≠ b → (w.setCell ⟨b, off + i, none⟩ (.int .i64 x)).heap[q]? = w.heap[q]? := fun q hq => Below.heap_setCell _ _ _ _ hq
  refine ⟨g, c, b, off, d, rfl, hSb.1, hbg, hr, k1, k2, ⟨hh, fun m rm q hm hne hrm hq e => ?_⟩, xs, ?_, h2, fun m hm => ?_, h4⟩
  · have hxm : xs[m]? = some rm := by rw [← h1.cellAt m (by omega)]; exact hrm
    exact h4 m j rm _ hne hxm hx0 q hq (by rw [hh, e])
  · rw [List.length_set]
    exact ownSame h1 (fun q hq => hother q (fun e => by have : g = q := Option.some.inj hq; omega))
  · have hm' : m < zss.length := by simpa using hm
    by_cases e : m = j
    · subst e
      refine ⟨_, hx0, ?_⟩
      rw [List.getElem_set_self]
      have := k3
      exact this
    · obtain ⟨rm, c1, c2⟩ := h3 m hm'
      refine ⟨rm, c1, ?_⟩
      rw [List.getElem_set_ne (Ne.symm e)]
      exact c2.keep (fun q hq => hother q (fun e2 => h4 m j rm _ e c1 hx0 q hq (by rw [hh, e2]))) (fun _ _ hS _ => hS)
/-- A card of a deal of the call's own is laid in the place of another. -/
theorem OwnDeal.setAt {S : Nat → Prop} {w : World} {q0 q3 q4 q5 : Option Addr} {d0 d3 d4 d5 n : Nat} {D : MDeal} (h : OwnDeal S w (.agg #[.slice q0 n d0, .int .i64 D.leader, .int .i64 D.trump, .slice q3 D.trick.length d3, .slice q4 D.won.length d4, .slice q5 D.points.length d5, .int .i64 D.left]) D) (hn : n = D.hands.length) {j i : Nat} (hj : j < D.hands.length) (hi : i < D.hands[j].length) {x : Int} (hx : (Lit.int .i64 x).wf = true) :
    ∃ g b off d, q0 = some ⟨g, 0, none⟩ ∧ S b ∧ b ≠ g ∧ w.cell? ⟨g, j, none⟩ = some (.slice (some ⟨b, off, none⟩) D.hands[j].length d) ∧ w.cell? ⟨b, off + i, none⟩ = some (.int .i64 D.hands[j][i]) ∧ w.frozen? ⟨b, off + i, none⟩ = false ∧ ((Value.slice (some ⟨b, off, none⟩) D.hands[j].length d).held = some b ∧ ∀ m rm q, m < D.hands.length → m ≠ j → w.cell? ⟨g, m, none⟩ = some rm → rm.held = some q → q ≠ b) ∧ OwnDeal S (w.setCell ⟨b, off + i, none⟩ (.int .i64 x)) (.agg #[.slice q0 n d0, .int .i64 D.leader, .int .i64 D.trump, .slice q3 D.trick.length d3, .slice q4 D.won.length d4, .slice q5 D.points.length d5, .int .i64 D.left]) { D with hands := D.hands.set j (D.hands[j].set i x) } := by
  subst hn
  obtain ⟨p0, p3, p4, p5, e0, e3, e4, e5, S0, S3, S4, S5, e, h0, h3, h4, h5, s0, s3, s4, s5, x1, x2, x3, x4, x5, x6, wf0, wf1, wf2⟩ := h
  simp at e
  obtain ⟨⟨rfl, rfl⟩, ⟨rfl, rfl⟩, ⟨rfl, rfl⟩, rfl, rfl⟩ := e
  obtain ⟨g, c, b, off, d, hv, hSb, hbg, k1, k2, k3, kh, k4⟩ := h0.setAt hj hi hx
  have ev := Value.slice.inj hv
  have t := touchCell w b (off + i) (.int .i64 x)
  refine ⟨g, b, off, d, ev.1, s0 b hSb, hbg, k1, k2, k3, kh, q0, q3, q4, q5, d0, d3, d4, d5, S0, S3, S4, S5, ?_, ?_, h3.touch t (fun y hy e => x1 b hSb (e ▸ hy)), h4.touch t (fun y hy e => x2 b hSb (e ▸ hy)), h5.touch t (fun y hy e => x3 b hSb (e ▸ hy)), s0, s3, s4, s5, x1, x2, x3, x4, x5, x6, wf0, wf1, wf2⟩
  · simp [List.length_set]
  · have e2 : ({ D with hands := D.hands.set j (D.hands[j].set i x) } : MDeal).hands.length = D.hands.length := List.length_set ..
    rw [e2]; exact k4
set_option maxRecDepth 100000 in
set_option maxHeartbeats 2000000 in
theorem hasCardAt_any (v : Value) (zss : List (List Int)) (a i : Int) (w : World) (h : RdRows .i64 w v zss) (f0 : zss.length ≤ 1048576) (f1 : sumLen zss ≤ 1048576) (r : Bool) (hr : hasAt zss a i = r) :
    Calls Tryd.prog 47 #[v, .int .i64 a, .int .i64 i] w fun e w' => e = .returned (.bool r) ∧ Below w.heap.size w w' := by
  obtain ⟨p0, c0, rfl, -⟩ := id h
  have B0 := Below.refl w.heap.size w
  have HI := Lib.hid (fun wx => inR_any a 0 ((zss.length : Int) - 1) wx _ rfl)
  by_cases ha : 0 ≤ a ∧ a ≤ (zss.length : Int) - 1
  · have hlt : a.toNat < zss.length := by omega
    obtain ⟨blk, off, cap, p, c, b, hv, hc, -⟩ := h.row hlt
    have hp := (Value.slice.inj hv).1
    subst hp
    clear hv
    have hl : zss[a.toNat].length ≤ 1048576 := Nat.le_trans (len_le_sum zss hlt) f1
    have hd : (zss.getD a.toNat []).length = zss[a.toNat].length := by simp [List.getD, hlt]
    have hR : hasAt zss a i = decide (0 ≤ i ∧ i ≤ (zss[a.toNat].length : Int) - 1) := by unfold hasAt; rw [hd, decide_eq_true ha]; rfl
    rw [hR] at hr
    rw [decide_eq_true ha] at HI
    obtain ⟨m, hm⟩ : ∃ m, m = zss[a.toNat].length := ⟨_, rfl⟩
    rw [← hm] at hr hl hc
    have HJ := Lib.hid (fun wx => inR_any i 0 ((m : Int) - 1) wx r hr.symm)
    obtain ⟨a0, a1⟩ := ha
    clear hm hr hR hd h f1
    generalize zss.length = n at *
    go_enter Tryd.func47, Tryd.ntmps47
    go_wp2_with fail
    refine (HI.out _).mono ?_
    rintro e _w ⟨rfl, rfl⟩
    go_wp2_with fail
    refine (HJ.out _).mono ?_
    rintro e _w ⟨rfl, rfl⟩
    go_wp2_with fail
    go_ret
    exact ⟨rfl, B0⟩
  · rw [decide_eq_false ha] at HI
    have hR : hasAt zss a i = false := by unfold hasAt; rw [decide_eq_false ha]; rfl
    obtain rfl : false = r := hR.symm.trans hr
    generalize zss.length = n at *
    clear hr hR h f1 ha
    go_enter Tryd.func47, Tryd.ntmps47
    go_wp2_with fail
    refine (HI.out _).mono ?_
    rintro e _w ⟨rfl, rfl⟩
    go_wp2_with fail
    go_ret
    exact ⟨rfl, B0⟩
theorem swap_no {D : MDeal} {a b i k : Int} (h : swapOK D a b i k = false) : swapD D a b i k = D := by unfold swapD; rw [h]; rfl
theorem hasAt_yes {zss : List (List Int)} {a i : Int} (h : hasAt zss a i = true) : ∃ (j m : Nat) (hj : j < zss.length), a = (j : Int) ∧ i = (m : Int) ∧ m < zss[j].length := by
  unfold hasAt at h
  simp only [Bool.and_eq_true, decide_eq_true_eq] at h
  obtain ⟨⟨h0, h1⟩, h2, h3⟩ := h
  have hlt : a.toNat < zss.length := by omega
  refine ⟨a.toNat, i.toNat, hlt, by omega, by omega, ?_⟩
  have hd : (zss.getD a.toNat []).length = zss[a.toNat].length := by simp [List.getD, hlt]
  rw [hd] at h3
  omega
set_option maxRecDepth 100000 in
set_option maxHeartbeats 4000000 in
theorem swapHidden_any (a0 a1 : Addr) (v : Value) (D : MDeal) (a b i k : Int) (w : World) (h : RdDeal w v D) (hf : D.Few) (hS : Sent a0 a1 w) :
    Calls Tryd.prog 18 #[v, .int .i64 a, .int .i64 b, .int .i64 i, .int .i64 k] w fun e w' => ∃ v', e = .returned (.tuple #[v', .bool (swapOK D a b i k)]) ∧ WrDeal (In w.heap.size w'.heap.size) w' v' (swapD D a b i k) ∧ Below w.heap.size w w' := by
  obtain ⟨p0, p3, p4, p5, c0, c3, c4, c5, ev⟩ := h.shape
  subst ev
  obtain ⟨W0, hW0⟩ : ∃ W, W = (w.alloc (.cells #[.slice p0 D.hands.length c0, .int .i64 D.leader, .int .i64 D.trump, .slice p3 D.trick.length c3, .slice p4 D.won.length c4, .slice p5 D.points.length c5, .int .i64 D.left] 31)).alloc (.cells #[.slice none 0 0, .int .i64 0, .int .i64 0, .slice none 0 0, .slice none 0 0, .slice none 0 0, .int .i64 0] 31) := ⟨_, rfl⟩
  have G0 : W0.heap[w.heap.size]? = some (.cells #[.slice p0 D.hands.length c0, .int .i64 D.leader, .int .i64 D.trump, .slice p3 D.trick.length c3, .slice p4 D.won.length c4, .slice p5 D.points.length c5, .int .i64 D.left] 31 (0, 0)) := by rw [hW0]; exact heap_alloc2_old _ _ _
  have G1 : W0.heap[w.heap.size + 1]? = some (.cells #[.slice none 0 0, .int .i64 0, .int .i64 0, .slice none 0 0, .slice none 0 0, .slice none 0 0, .int .i64 0] 31 (0, 0)) := by rw [hW0]; exact heap_alloc2_new _ _ _
  have hsz : W0.heap.size = w.heap.size + 2 := by rw [hW0]; simp
  have B0 : Below w.heap.size w W0 := by rw [hW0]; exact ((Below.refl _ _).alloc (Nat.le_refl _) _).alloc (by simp) _
  have hfw := hf
  obtain ⟨f0, fs0, -⟩ := hfw
  have hr0 : RdRows .i64 w (.slice p0 D.hands.length c0) D.hands := by
    obtain ⟨v0, v3, v4, v5, b3, b4, b5, e, h0, -⟩ := id h
    simp at e
    obtain ⟨rfl, -⟩ := e
    exact h0
  have Hsum : Hid (∀ j (hj : j < D.hands.length), D.hands[j].length ≤ 1048576 ∧ ∀ y ∈ D.hands[j], (Lit.int .i64 y).wf = true) := Lib.hid (fun j hj => ⟨Nat.le_trans (len_le_sum D.hands hj) fs0, by
    obtain ⟨blk, off, cap, p, c, b, hv, hc, hr, -⟩ := hr0.row hj
    exact hr.wf⟩)
  have HCp := Lib.hid (copyDeal_any _ D W0 (h.below B0) hf)
  have HI := Lib.hid (fun wx (hb : Below w.heap.size w wx) => isDeal_any a0 a1 _ D wx (h.below hb) hf (hS.below hb (Nat.le_refl _)) _ rfl)
  have HA := Lib.hid (fun wx (hb : Below w.heap.size w wx) => hasCardAt_any _ _ a i wx (hr0.below hb) f0 fs0 _ rfl)
  have HBk := Lib.hid (fun wx (hb : Below w.heap.size w wx) => hasCardAt_any _ _ b k wx (hr0.below hb) f0 fs0 _ rfl)
  have HW := Lib.hid hW0
  have HG := Lib.hid (And.intro G0 (And.intro G1 (And.intro hsz B0)))
  have Hsz := Lib.hid hsz
  have F0 := Lib.hid f0
  clear h hf hS f0 fs0 hr0 hW0 G0 G1 hsz B0
  go_enter Tryd.func18, Tryd.ntmps18
  go_upto_region 1 with fail
  rw [← HW.out]
  obtain ⟨G0, G1, hsz, B0⟩ := HG.out
  refine wp_region_lit ?_
  refine wpList_load_row rfl 31 _ rfl w.heap.size rfl 31 _ _ _ G0 Tryd.underlying31 rfl (by kernel_rfl) ?_
  clear G0 G1 hsz B0
  go_wp2_with fail
  refine HCp.out.mono ?_
  rintro e w1 ⟨v1, rfl, own, B1⟩
  obtain ⟨q0, q3, q4, q5, d0, d3, d4, d5, S0, S3, S4, S5, ev, ho⟩ := id own
  subst ev
  obtain ⟨X, hX⟩ : ∃ X, X = w1.alloc (.cells #[.slice q0 D.hands.length d0, .int .i64 D.leader, .int .i64 D.trump, .slice q3 D.trick.length d3, .slice q4 D.won.length d4, .slice q5 D.points.length d5, .int .i64 D.left] 31) := ⟨_, rfl⟩
  have HX := Lib.hid hX
  have bX : Below w1.heap.size w1 X := by rw [hX]; exact (Below.refl _ _).alloc (Nat.le_refl _) _
  have gX : X.heap[w1.heap.size]? = some (.cells #[.slice q0 D.hands.length d0, .int .i64 D.leader, .int .i64 D.trump, .slice q3 D.trick.length d3, .slice q4 D.won.length d4, .slice q5 D.points.length d5, .int .i64 D.left] 31 (0, 0)) := by rw [hX]; exact heap_alloc_new _ _
  have HGX : Hid (∀ wx, Below X.heap.size X wx → wx.heap[w.heap.size]? = some (.cells #[.slice p0 D.hands.length c0, .int .i64 D.leader, .int .i64 D.trump, .slice p3 D.trick.length c3, .slice p4 D.won.length c4, .slice p5 D.points.length c5, .int .i64 D.left] 31 (0, 0)) ∧ wx.heap[w.heap.size + 1]? = some (.cells #[.slice none 0 0, .int .i64 0, .int .i64 0, .slice none 0 0, .slice none 0 0, .slice none 0 0, .int .i64 0] 31 (0, 0)) ∧ wx.heap[w1.heap.size]? = some (.cells #[.slice q0 D.hands.length d0, .int .i64 D.leader, .int .i64 D.trump, .slice q3 D.trick.length d3, .slice q4 D.won.length d4, .slice q5 D.points.length d5, .int .i64 D.left] 31 (0, 0)) ∧ Below w.heap.size w wx ∧ OwnDeal (In W0.heap.size w1.heap.size) wx (.agg #[.slice q0 D.hands.length d0, .int .i64 D.leader, .int .i64 D.trump, .slice q3 D.trick.length d3, .slice q4 D.won.length d4, .slice q5 D.points.length d5, .int .i64 D.left]) D) := by
    obtain ⟨G0, G1, hsz, B0⟩ := HG.out
    have s1 := B1.size
    have sX := bX.size
    have gl := (Array.getElem?_eq_some_iff.1 gX).1
    refine Lib.hid (fun wx hb => ⟨?_, ?_, (hb.block _ gl).trans gX, ?_, (own.below bX).below hb⟩)
    · rw [hb.block _ (by omega), bX.block _ (by omega), B1.block _ (by omega)]; exact G0
    · rw [hb.block _ (by omega), bX.block _ (by omega), B1.block _ (by omega)]; exact G1
    · exact ((B0.trans (B1.mono B0.size)).trans (bX.mono (Nat.le_trans B0.size s1))).trans (hb.mono (Nat.le_trans (Nat.le_trans B0.size s1) sX))
  clear ho own bX gX hX B1
  go_upto_region 2 with fail
  rw [← HX.out]
  obtain ⟨g0, g1, gr, bw, ow⟩ := HGX.out X (Below.refl _ _)
  refine wp_region_lit ?_
  refine wpList_load_row rfl 31 _ rfl w.heap.size rfl 31 _ _ _ g0 Tryd.underlying31 rfl (by kernel_rfl) ?_
  clear g0 g1 gr ow
  go_wp2_with fail
  refine (HI.out _ bw).mono ?_
  rintro e w2 ⟨rfl, B2⟩
  clear bw HI HCp
  cases hd : isDeal D with
  | false =>
    have hok : swapOK D a b i k = false := by unfold swapOK; rw [hd]; rfl
    have HOK := Lib.hid hok
    have HE := Lib.hid (swap_no hok)
    obtain ⟨g0, g1, gr, bw, ow⟩ := HGX.out w2 B2
    clear hd hok g0 B2
    have N := Lib.hid (And.intro (setRow_heap w2 (w.heap.size + 1) _ #[.slice q0 D.hands.length d0, .int .i64 D.leader, .int .i64 D.trump, .slice q3 D.trick.length d3, .slice q4 D.won.length d4, .slice q5 D.points.length d5, .int .i64 D.left] _ _ g1) (below_setRow bw (Nat.le_succ _) #[.slice q0 D.hands.length d0, .int .i64 D.leader, .int .i64 D.trump, .slice q3 D.trick.length d3, .slice q4 D.won.length d4, .slice q5 D.points.length d5, .int .i64 D.left]))
    have O := Lib.hid (ow.touch (touchRow w2 (w.heap.size + 1) #[.slice q0 D.hands.length d0, .int .i64 D.leader, .int .i64 D.trump, .slice q3 D.trick.length d3, .slice q4 D.won.length d4, .slice q5 D.points.length d5, .int .i64 D.left]) (fun y hy e => by have := hy.1; have := Hsz.out; omega))
    have hsR : Hid (w1.heap.size ≤ (w2.setRow (w.heap.size + 1) #[.slice q0 D.hands.length d0, .int .i64 D.leader, .int .i64 D.trump, .slice q3 D.trick.length d3, .slice q4 D.won.length d4, .slice q5 D.points.length d5, .int .i64 D.left]).heap.size) := Lib.hid (by have := (Array.getElem?_eq_some_iff.1 gr).1; simp [World.setRow]; omega)
    clear bw ow
    go_upto_region 3 with fail
    refine wp_region_lit ?_
    refine wpList_load_row rfl 31 _ rfl w1.heap.size rfl 31 _ _ _ gr Tryd.underlying31 rfl (by kernel_rfl) ?_
    clear gr
    refine wpList_store_row rfl 31 _ _ rfl (w.heap.size + 1) #[.slice q0 D.hands.length d0, .int .i64 D.leader, .int .i64 D.trump, .slice q3 D.trick.length d3, .slice q4 D.won.length d4, .slice q5 D.points.length d5, .int .i64 D.left] rfl rfl 31 _ g1 (by kernel_rfl) rfl (by simp [Value.oneCell']) ?_
    clear g1
    go_wp2_with fail
    refine bodyPost_ret (results_row_tmp rfl _ _ (w.heap.size + 1) _ _ _ _ rfl N.out.1 Tryd.underlying31 rfl (by kernel_rfl)) rfl ?_
    rw [HOK.out, HE.out]
    exact ⟨_, rfl, (O.out.mono (fun y hy => ⟨by have := hy.1; have := Hsz.out; omega, by have := hy.2; have := hsR.out; omega⟩)).wr, N.out.2⟩
  | true =>
    by_cases he : a = b
    · have hbe : (a == b) = true := by simpa using he
      have hok : swapOK D a b i k = false := by unfold swapOK; rw [decide_eq_false (fun h => h he)]; simp
      have HOK := Lib.hid hok
      have HE := Lib.hid (swap_no hok)
      obtain ⟨g0, g1, gr, bw, ow⟩ := HGX.out w2 B2
      clear hd hok g0 B2
      have N := Lib.hid (And.intro (setRow_heap w2 (w.heap.size + 1) _ #[.slice q0 D.hands.length d0, .int .i64 D.leader, .int .i64 D.trump, .slice q3 D.trick.length d3, .slice q4 D.won.length d4, .slice q5 D.points.length d5, .int .i64 D.left] _ _ g1) (below_setRow bw (Nat.le_succ _) #[.slice q0 D.hands.length d0, .int .i64 D.leader, .int .i64 D.trump, .slice q3 D.trick.length d3, .slice q4 D.won.length d4, .slice q5 D.points.length d5, .int .i64 D.left]))
      have O := Lib.hid (ow.touch (touchRow w2 (w.heap.size + 1) #[.slice q0 D.hands.length d0, .int .i64 D.leader, .int .i64 D.trump, .slice q3 D.trick.length d3, .slice q4 D.won.length d4, .slice q5 D.points.length d5, .int .i64 D.left]) (fun y hy e => by have := hy.1; have := Hsz.out; omega))
      have hsR : Hid (w1.heap.size ≤ (w2.setRow (w.heap.size + 1) #[.slice q0 D.hands.length d0, .int .i64 D.leader, .int .i64 D.trump, .slice q3 D.trick.length d3, .slice q4 D.won.length d4, .slice q5 D.points.length d5, .int .i64 D.left]).heap.size) := Lib.hid (by have := (Array.getElem?_eq_some_iff.1 gr).1; simp [World.setRow]; omega)
      clear bw ow
      go_upto_region 3 with fail
      refine wp_region_lit ?_
      refine wpList_load_row rfl 31 _ rfl w1.heap.size rfl 31 _ _ _ gr Tryd.underlying31 rfl (by kernel_rfl) ?_
      clear gr
      refine wpList_store_row rfl 31 _ _ rfl (w.heap.size + 1) #[.slice q0 D.hands.length d0, .int .i64 D.leader, .int .i64 D.trump, .slice q3 D.trick.length d3, .slice q4 D.won.length d4, .slice q5 D.points.length d5, .int .i64 D.left] rfl rfl 31 _ g1 (by kernel_rfl) rfl (by simp [Value.oneCell']) ?_
      clear g1
      go_wp2_with fail
      refine bodyPost_ret (results_row_tmp rfl _ _ (w.heap.size + 1) _ _ _ _ rfl N.out.1 Tryd.underlying31 rfl (by kernel_rfl)) rfl ?_
      rw [HOK.out, HE.out]
      exact ⟨_, rfl, (O.out.mono (fun y hy => ⟨by have := hy.1; have := Hsz.out; omega, by have := hy.2; have := hsR.out; omega⟩)).wr, N.out.2⟩
    · have hbe : (a == b) = false := by simpa using he
      obtain ⟨g0, g1, gr, bw, ow⟩ := HGX.out w2 B2
      have z0 := box_cell g0 0
      simp at z0
      clear g0 g1 gr ow
      have Hd := Lib.hid hd
      clear hd
      go_wp2_with fail
      refine (HA.out _ bw).mono ?_
      rintro e w3 ⟨rfl, B3⟩
      have B23 := B2.trans (B3.mono B2.size)
      clear bw B2 B3 z0 HA
      cases ha : hasAt D.hands a i with
      | false =>
        have hok : swapOK D a b i k = false := by unfold swapOK; rw [ha]; simp
        have HOK := Lib.hid hok
        have HE := Lib.hid (swap_no hok)
        obtain ⟨g0, g1, gr, bw, ow⟩ := HGX.out w3 B23
        clear ha hok g0 B23
        have N := Lib.hid (And.intro (setRow_heap w3 (w.heap.size + 1) _ #[.slice q0 D.hands.length d0, .int .i64 D.leader, .int .i64 D.trump, .slice q3 D.trick.length d3, .slice q4 D.won.length d4, .slice q5 D.points.length d5, .int .i64 D.left] _ _ g1) (below_setRow bw (Nat.le_succ _) #[.slice q0 D.hands.length d0, .int .i64 D.leader, .int .i64 D.trump, .slice q3 D.trick.length d3, .slice q4 D.won.length d4, .slice q5 D.points.length d5, .int .i64 D.left]))
        have O := Lib.hid (ow.touch (touchRow w3 (w.heap.size + 1) #[.slice q0 D.hands.length d0, .int .i64 D.leader, .int .i64 D.trump, .slice q3 D.trick.length d3, .slice q4 D.won.length d4, .slice q5 D.points.length d5, .int .i64 D.left]) (fun y hy e => by have := hy.1; have := Hsz.out; omega))
        have hsR : Hid (w1.heap.size ≤ (w3.setRow (w.heap.size + 1) #[.slice q0 D.hands.length d0, .int .i64 D.leader, .int .i64 D.trump, .slice q3 D.trick.length d3, .slice q4 D.won.length d4, .slice q5 D.points.length d5, .int .i64 D.left]).heap.size) := Lib.hid (by have := (Array.getElem?_eq_some_iff.1 gr).1; simp [World.setRow]; omega)
        clear bw ow
        go_upto_region 3 with fail
        refine wp_region_lit ?_
        refine wpList_load_row rfl 31 _ rfl w1.heap.size rfl 31 _ _ _ gr Tryd.underlying31 rfl (by kernel_rfl) ?_
        clear gr
        refine wpList_store_row rfl 31 _ _ rfl (w.heap.size + 1) #[.slice q0 D.hands.length d0, .int .i64 D.leader, .int .i64 D.trump, .slice q3 D.trick.length d3, .slice q4 D.won.length d4, .slice q5 D.points.length d5, .int .i64 D.left] rfl rfl 31 _ g1 (by kernel_rfl) rfl (by simp [Value.oneCell']) ?_
        clear g1
        go_wp2_with fail
        refine bodyPost_ret (results_row_tmp rfl _ _ (w.heap.size + 1) _ _ _ _ rfl N.out.1 Tryd.underlying31 rfl (by kernel_rfl)) rfl ?_
        rw [HOK.out, HE.out]
        exact ⟨_, rfl, (O.out.mono (fun y hy => ⟨by have := hy.1; have := Hsz.out; omega, by have := hy.2; have := hsR.out; omega⟩)).wr, N.out.2⟩
      | true =>
        obtain ⟨g0, g1, gr, bw, ow⟩ := HGX.out w3 B23
        have z0 := box_cell g0 0
        simp at z0
        clear g0 g1 gr ow
        have Ha := Lib.hid ha
        clear ha
        go_wp2_with fail
        refine (HBk.out _ bw).mono ?_
        rintro e w4 ⟨rfl, B4⟩
        have B24 := B23.trans (B4.mono B23.size)
        clear bw B23 B4 z0 HBk
        cases hb : hasAt D.hands b k with
        | false =>
          have hok : swapOK D a b i k = false := by unfold swapOK; rw [hb]; simp
          have HOK := Lib.hid hok
          have HE := Lib.hid (swap_no hok)
          obtain ⟨g0, g1, gr, bw, ow⟩ := HGX.out w4 B24
          clear hb hok g0 B24
          have N := Lib.hid (And.intro (setRow_heap w4 (w.heap.size + 1) _ #[.slice q0 D.hands.length d0, .int .i64 D.leader, .int .i64 D.trump, .slice q3 D.trick.length d3, .slice q4 D.won.length d4, .slice q5 D.points.length d5, .int .i64 D.left] _ _ g1) (below_setRow bw (Nat.le_succ _) #[.slice q0 D.hands.length d0, .int .i64 D.leader, .int .i64 D.trump, .slice q3 D.trick.length d3, .slice q4 D.won.length d4, .slice q5 D.points.length d5, .int .i64 D.left]))
          have O := Lib.hid (ow.touch (touchRow w4 (w.heap.size + 1) #[.slice q0 D.hands.length d0, .int .i64 D.leader, .int .i64 D.trump, .slice q3 D.trick.length d3, .slice q4 D.won.length d4, .slice q5 D.points.length d5, .int .i64 D.left]) (fun y hy e => by have := hy.1; have := Hsz.out; omega))
          have hsR : Hid (w1.heap.size ≤ (w4.setRow (w.heap.size + 1) #[.slice q0 D.hands.length d0, .int .i64 D.leader, .int .i64 D.trump, .slice q3 D.trick.length d3, .slice q4 D.won.length d4, .slice q5 D.points.length d5, .int .i64 D.left]).heap.size) := Lib.hid (by have := (Array.getElem?_eq_some_iff.1 gr).1; simp [World.setRow]; omega)
          clear bw ow
          go_upto_region 3 with fail
          refine wp_region_lit ?_
          refine wpList_load_row rfl 31 _ rfl w1.heap.size rfl 31 _ _ _ gr Tryd.underlying31 rfl (by kernel_rfl) ?_
          clear gr
          refine wpList_store_row rfl 31 _ _ rfl (w.heap.size + 1) #[.slice q0 D.hands.length d0, .int .i64 D.leader, .int .i64 D.trump, .slice q3 D.trick.length d3, .slice q4 D.won.length d4, .slice q5 D.points.length d5, .int .i64 D.left] rfl rfl 31 _ g1 (by kernel_rfl) rfl (by simp [Value.oneCell']) ?_
          clear g1
          go_wp2_with fail
          refine bodyPost_ret (results_row_tmp rfl _ _ (w.heap.size + 1) _ _ _ _ rfl N.out.1 Tryd.underlying31 rfl (by kernel_rfl)) rfl ?_
          rw [HOK.out, HE.out]
          exact ⟨_, rfl, (O.out.mono (fun y hy => ⟨by have := hy.1; have := Hsz.out; omega, by have := hy.2; have := hsR.out; omega⟩)).wr, N.out.2⟩
        | true =>
          obtain ⟨ja, mi, hja, rfl, rfl, hmi⟩ := hasAt_yes Ha.out
          obtain ⟨jb, mk, hjb, rfl, rfl, hmk⟩ := hasAt_yes hb
          have hne : ja ≠ jb := fun e => he (by rw [e])
          have HOK : Hid (swapOK D ja jb mi mk = true) := Lib.hid (by unfold swapOK; rw [Hd.out, Ha.out, hb, decide_eq_true he]; rfl)
          obtain ⟨na, fa⟩ := Hsum.out ja hja
          obtain ⟨nb, fb⟩ := Hsum.out jb hjb
          have wa := fa D.hands[ja][mi] (List.getElem_mem _)
          have wb := fb D.hands[jb][mk] (List.getElem_mem _)
          obtain ⟨g0, g1, gr, bw, ow⟩ := HGX.out w4 B24
          obtain ⟨g, ba, oa, da, eq0, -, -, ka, xa', -, ⟨-, hap⟩, -⟩ := ow.setAt rfl hja hmi (x := D.hands[jb][mk]) wb
          obtain ⟨g', bb, ob, db, eq1, -, -, kb, xb', -, ⟨hhb, -⟩, -⟩ := ow.setAt rfl hjb hmk (x := D.hands[ja][mi]) wa
          obtain rfl : g = g' := by have := eq0.symm.trans eq1; simpa using this
          clear eq1
          subst eq0
          have nab : bb ≠ ba := hap jb _ bb hjb hne.symm kb hhb
          have zr := box_cell gr 0
          simp at zr
          obtain ⟨n, hn⟩ : ∃ n, n = D.hands.length := ⟨_, rfl⟩
          obtain ⟨xb, hxb⟩ : ∃ x, x = D.hands[jb][mk] := ⟨_, rfl⟩
          obtain ⟨xa, hxa⟩ : ∃ x, x = D.hands[ja][mi] := ⟨_, rfl⟩
          obtain ⟨la, hla⟩ : ∃ l, l = D.hands[ja].length := ⟨_, rfl⟩
          obtain ⟨lb, hlb⟩ : ∃ l, l = D.hands[jb].length := ⟨_, rfl⟩
          have HC : Hid (∀ wx, Below w4.heap.size w4 wx → wx.cell? ⟨w1.heap.size, 0, none⟩ = some (.slice (some ⟨g, 0, none⟩) n d0) ∧ wx.cell? ⟨g, ja, none⟩ = some (.slice (some ⟨ba, oa, none⟩) la da) ∧ wx.cell? ⟨g, jb, none⟩ = some (.slice (some ⟨bb, ob, none⟩) lb db) ∧ wx.cell? ⟨ba, oa + mi, none⟩ = some (.int .i64 xa) ∧ wx.cell? ⟨bb, ob + mk, none⟩ = some (.int .i64 xb)) := Lib.hid (fun wx hb => by
            rw [hn, hxb, hxa, hla, hlb]
            refine ⟨?_, ?_, ?_, ?_, ?_⟩
            · exact (hb.cell (World.block_lt_of_cell? _ _ zr)).trans zr
            · exact (hb.cell (World.block_lt_of_cell? _ _ ka)).trans ka
            · exact (hb.cell (World.block_lt_of_cell? _ _ kb)).trans kb
            · exact (hb.cell (World.block_lt_of_cell? _ _ xa')).trans xa'
            · exact (hb.cell (World.block_lt_of_cell? _ _ xb')).trans xb')
          have HE : Hid (swapD D ja jb mi mk = { D with hands := (D.hands.set ja (D.hands[ja].set mi D.hands[jb][mk])).set jb (D.hands[jb].set mk D.hands[ja][mi]) }) := Lib.hid (by
            unfold swapD
            rw [if_pos HOK.out]
            unfold swapRows
            simp [List.getD, hja, hjb, hmi, hmk])
          have HOW := Lib.hid (And.intro g1 (And.intro gr (And.intro bw ow)))
          have Hw := Lib.hid (And.intro wa wb)
          have Hx := Lib.hid (And.intro hn (And.intro hxa (And.intro hxb (And.intro hla hlb))))
          have Hn2 := Lib.hid (And.intro hne nab)
          have ja0 : ja < n := by omega
          have jb0 : jb < n := by omega
          have mi0 : mi < la := by omega
          have mk0 : mk < lb := by omega
          have nl : n ≤ 1048576 := by rw [hn]; exact F0.out
          have al : la ≤ 1048576 := by rw [hla]; exact na
          have bl : lb ≤ 1048576 := by rw [hlb]; exact nb
          clear hn hxa hxb hla hlb wa wb g0 g1 gr bw ow zr ka kb xa' xb' hap hhb nab hne he na nb fa fb B24 hb Hd Ha HX HGX HG HW Hsum
          go_upto_region 4 with fail
          clear hbe
          refine wp_region_early (oe := ?oe) 11 51 [4] (fun _ => .int .i64 (mk : Int)) (.int .i64 (mk : Int)) [(0, some 40, .is (.pointer (some ⟨w1.heap.size, 0, none⟩))), (1, some 41, .is (.slice (some ⟨g, 0, none⟩) n d0)), (2, some 42, .is (.int .i64 (ja : Int))), (3, some 43, .is (.pointer (some ⟨g, ja, none⟩))), (4, some 44, .is (.slice (some ⟨ba, oa, none⟩) la da)), (5, some 45, .is (.int .i64 (mi : Int))), (6, some 46, .is (.pointer (some ⟨w1.heap.size, 0, none⟩))), (7, some 47, .is (.slice (some ⟨g, 0, none⟩) n d0)), (8, some 48, .is (.int .i64 (jb : Int))), (9, some 49, .is (.pointer (some ⟨g, jb, none⟩))), (10, some 50, .is (.slice (some ⟨bb, ob, none⟩) lb db)), (12, some 52, .is (.pointer (some ⟨w1.heap.size, 0, none⟩))), (13, some 53, .is (.slice (some ⟨g, 0, none⟩) n d0)), (14, some 54, .is (.int .i64 (jb : Int))), (15, some 55, .is (.pointer (some ⟨g, jb, none⟩))), (16, some 56, .is (.slice (some ⟨bb, ob, none⟩) lb db)), (17, some 57, .is (.int .i64 (mk : Int))), (18, some 58, .is (.pointer (some ⟨bb, ob + mk, none⟩))), (19, some 59, .is (.int .i64 xb)), (20, some 60, .is (.pointer (some ⟨w1.heap.size, 0, none⟩))), (21, some 61, .is (.slice (some ⟨g, 0, none⟩) n d0)), (22, some 62, .is (.int .i64 (ja : Int))), (23, some 63, .is (.pointer (some ⟨g, ja, none⟩))), (24, some 64, .is (.slice (some ⟨ba, oa, none⟩) la da)), (25, some 65, .is (.int .i64 (mi : Int))), (26, some 66, .is (.pointer (some ⟨ba, oa + mi, none⟩))), (27, some 67, .is (.int .i64 xa))] 4 (by kernel_rfl) ?he (by kernel_rfl) (by kernel_rfl) (by intro s hs; obtain rfl : s = 4 := (by simpa using hs); rfl) ?hop (by kernel_rfl) (by kernel_rfl) (by kernel_rfl) (by kernel_rfl) (L := #[true, true, true, true, true, true, true, true, true, true, true, true, true, true, true, true, true, true, true, true, true, true, true, true, true, true, true, true, false, false, false, false]) (by kernel_rfl) ?steps ?fin
          case he => simp only [List.getElem?_toArray, List.getElem?_cons_succ, List.getElem?_cons_zero]; rfl
          case hop =>
            intro K a w hs hK
            refine hop_of (oe := ?oe2) ?h1 ?h2 ?h3 ?h4 hK
            case h1 => simp only [List.getElem?_toArray, List.getElem?_cons_succ, List.getElem?_cons_zero]; rfl
            case h2 => rfl
            case h3 => rfl
            case h4 => exact (exec_move 4 rfl).trans (by rw [hs 4 (by simp)])
          case steps =>
            refine StepsT.cons [] (by simp only [List.getElem?_toArray, List.getElem?_cons_succ, List.getElem?_cons_zero]; rfl) (by kernel_rfl) (by rfl) (fun wx val iv hB hV K hK => ?_) ?_
            · clear hV; simp only [putT, List.foldl_cons, List.foldl_nil, Made.val, Act.put, List.setIfInBounds_toArray, List.set_cons_zero, List.set_cons_succ]; go_simp; exact hK.out _ _ rfl (Below.refl _ _)
            refine StepsT.cons [(0, some 40, .is (.pointer (some ⟨w1.heap.size, 0, none⟩)))] (by simp only [List.getElem?_toArray, List.getElem?_cons_succ, List.getElem?_cons_zero]; rfl) (by kernel_rfl) (by rfl) (fun wx val iv hB hV K hK => ?_) ?_
            · (obtain ⟨k0, k1, k2, k3, k4⟩ := HC.out wx hB); clear hV; simp only [putT, List.foldl_cons, List.foldl_nil, Made.val, Act.put, List.setIfInBounds_toArray, List.set_cons_zero, List.set_cons_succ]; go_simp; exact hK.out _ _ rfl (Below.refl _ _)
            refine StepsT.cons [] (by simp only [List.getElem?_toArray, List.getElem?_cons_succ, List.getElem?_cons_zero]; rfl) (by kernel_rfl) (by rfl) (fun wx val iv hB hV K hK => ?_) ?_
            · clear hV; simp only [putT, List.foldl_cons, List.foldl_nil, Made.val, Act.put, List.setIfInBounds_toArray, List.set_cons_zero, List.set_cons_succ]; go_simp; exact hK.out _ _ rfl (Below.refl _ _)
            refine StepsT.cons [(1, some 41, .is (.slice (some ⟨g, 0, none⟩) n d0)), (2, some 42, .is (.int .i64 (ja : Int)))] (by simp only [List.getElem?_toArray, List.getElem?_cons_succ, List.getElem?_cons_zero]; rfl) (by kernel_rfl) (by rfl) (fun wx val iv hB hV K hK => ?_) ?_
            · (obtain ⟨k0, k1, k2, k3, k4⟩ := HC.out wx hB); clear hV; simp only [putT, List.foldl_cons, List.foldl_nil, Made.val, Act.put, List.setIfInBounds_toArray, List.set_cons_zero, List.set_cons_succ]; go_simp; exact hK.out _ _ rfl (Below.refl _ _)
            refine StepsT.cons [(3, some 43, .is (.pointer (some ⟨g, ja, none⟩)))] (by simp only [List.getElem?_toArray, List.getElem?_cons_succ, List.getElem?_cons_zero]; rfl) (by kernel_rfl) (by rfl) (fun wx val iv hB hV K hK => ?_) ?_
            · (obtain ⟨k0, k1, k2, k3, k4⟩ := HC.out wx hB); clear hV; simp only [putT, List.foldl_cons, List.foldl_nil, Made.val, Act.put, List.setIfInBounds_toArray, List.set_cons_zero, List.set_cons_succ]; go_simp; exact hK.out _ _ rfl (Below.refl _ _)
            refine StepsT.cons [] (by simp only [List.getElem?_toArray, List.getElem?_cons_succ, List.getElem?_cons_zero]; rfl) (by kernel_rfl) (by rfl) (fun wx val iv hB hV K hK => ?_) ?_
            · clear hV; simp only [putT, List.foldl_cons, List.foldl_nil, Made.val, Act.put, List.setIfInBounds_toArray, List.set_cons_zero, List.set_cons_succ]; go_simp; exact hK.out _ _ rfl (Below.refl _ _)
            refine StepsT.cons [] (by simp only [List.getElem?_toArray, List.getElem?_cons_succ, List.getElem?_cons_zero]; rfl) (by kernel_rfl) (by rfl) (fun wx val iv hB hV K hK => ?_) ?_
            · clear hV; simp only [putT, List.foldl_cons, List.foldl_nil, Made.val, Act.put, List.setIfInBounds_toArray, List.set_cons_zero, List.set_cons_succ]; go_simp; exact hK.out _ _ rfl (Below.refl _ _)
            refine StepsT.cons [(6, some 46, .is (.pointer (some ⟨w1.heap.size, 0, none⟩)))] (by simp only [List.getElem?_toArray, List.getElem?_cons_succ, List.getElem?_cons_zero]; rfl) (by kernel_rfl) (by rfl) (fun wx val iv hB hV K hK => ?_) ?_
            · (obtain ⟨k0, k1, k2, k3, k4⟩ := HC.out wx hB); clear hV; simp only [putT, List.foldl_cons, List.foldl_nil, Made.val, Act.put, List.setIfInBounds_toArray, List.set_cons_zero, List.set_cons_succ]; go_simp; exact hK.out _ _ rfl (Below.refl _ _)
            refine StepsT.cons [] (by simp only [List.getElem?_toArray, List.getElem?_cons_succ, List.getElem?_cons_zero]; rfl) (by kernel_rfl) (by rfl) (fun wx val iv hB hV K hK => ?_) ?_
            · clear hV; simp only [putT, List.foldl_cons, List.foldl_nil, Made.val, Act.put, List.setIfInBounds_toArray, List.set_cons_zero, List.set_cons_succ]; go_simp; exact hK.out _ _ rfl (Below.refl _ _)
            refine StepsT.cons [(7, some 47, .is (.slice (some ⟨g, 0, none⟩) n d0)), (8, some 48, .is (.int .i64 (jb : Int)))] (by simp only [List.getElem?_toArray, List.getElem?_cons_succ, List.getElem?_cons_zero]; rfl) (by kernel_rfl) (by rfl) (fun wx val iv hB hV K hK => ?_) ?_
            · (obtain ⟨k0, k1, k2, k3, k4⟩ := HC.out wx hB); clear hV; simp only [putT, List.foldl_cons, List.foldl_nil, Made.val, Act.put, List.setIfInBounds_toArray, List.set_cons_zero, List.set_cons_succ]; go_simp; exact hK.out _ _ rfl (Below.refl _ _)
            refine StepsT.cons [(9, some 49, .is (.pointer (some ⟨g, jb, none⟩)))] (by simp only [List.getElem?_toArray, List.getElem?_cons_succ, List.getElem?_cons_zero]; rfl) (by kernel_rfl) (by rfl) (fun wx val iv hB hV K hK => ?_) ?_
            · (obtain ⟨k0, k1, k2, k3, k4⟩ := HC.out wx hB); clear hV; simp only [putT, List.foldl_cons, List.foldl_nil, Made.val, Act.put, List.setIfInBounds_toArray, List.set_cons_zero, List.set_cons_succ]; go_simp; exact hK.out _ _ rfl (Below.refl _ _)
            refine StepsT.cons [] (by simp only [List.getElem?_toArray, List.getElem?_cons_succ, List.getElem?_cons_zero]; rfl) (by kernel_rfl) (by rfl) (fun wx val iv hB hV K hK => ?_) ?_
            · clear hV; simp only [putT, List.foldl_cons, List.foldl_nil, Made.val, Act.put, List.setIfInBounds_toArray, List.set_cons_zero, List.set_cons_succ]; go_simp; exact hK.out _ _ rfl (Below.refl _ _)
            refine StepsT.cons [(12, some 52, .is (.pointer (some ⟨w1.heap.size, 0, none⟩)))] (by simp only [List.getElem?_toArray, List.getElem?_cons_succ, List.getElem?_cons_zero]; rfl) (by kernel_rfl) (by rfl) (fun wx val iv hB hV K hK => ?_) ?_
            · (obtain ⟨k0, k1, k2, k3, k4⟩ := HC.out wx hB); clear hV; simp only [putT, List.foldl_cons, List.foldl_nil, Made.val, Act.put, List.setIfInBounds_toArray, List.set_cons_zero, List.set_cons_succ]; go_simp; exact hK.out _ _ rfl (Below.refl _ _)
            refine StepsT.cons [] (by simp only [List.getElem?_toArray, List.getElem?_cons_succ, List.getElem?_cons_zero]; rfl) (by kernel_rfl) (by rfl) (fun wx val iv hB hV K hK => ?_) ?_
            · clear hV; simp only [putT, List.foldl_cons, List.foldl_nil, Made.val, Act.put, List.setIfInBounds_toArray, List.set_cons_zero, List.set_cons_succ]; go_simp; exact hK.out _ _ rfl (Below.refl _ _)
            refine StepsT.cons [(13, some 53, .is (.slice (some ⟨g, 0, none⟩) n d0)), (14, some 54, .is (.int .i64 (jb : Int)))] (by simp only [List.getElem?_toArray, List.getElem?_cons_succ, List.getElem?_cons_zero]; rfl) (by kernel_rfl) (by rfl) (fun wx val iv hB hV K hK => ?_) ?_
            · (obtain ⟨k0, k1, k2, k3, k4⟩ := HC.out wx hB); clear hV; simp only [putT, List.foldl_cons, List.foldl_nil, Made.val, Act.put, List.setIfInBounds_toArray, List.set_cons_zero, List.set_cons_succ]; go_simp; exact hK.out _ _ rfl (Below.refl _ _)
            refine StepsT.cons [(15, some 55, .is (.pointer (some ⟨g, jb, none⟩)))] (by simp only [List.getElem?_toArray, List.getElem?_cons_succ, List.getElem?_cons_zero]; rfl) (by kernel_rfl) (by rfl) (fun wx val iv hB hV K hK => ?_) ?_
            · (obtain ⟨k0, k1, k2, k3, k4⟩ := HC.out wx hB); clear hV; simp only [putT, List.foldl_cons, List.foldl_nil, Made.val, Act.put, List.setIfInBounds_toArray, List.set_cons_zero, List.set_cons_succ]; go_simp; exact hK.out _ _ rfl (Below.refl _ _)
            refine StepsT.cons [] (by simp only [List.getElem?_toArray, List.getElem?_cons_succ, List.getElem?_cons_zero]; rfl) (by kernel_rfl) (by rfl) (fun wx val iv hB hV K hK => ?_) ?_
            · clear hV; simp only [putT, List.foldl_cons, List.foldl_nil, Made.val, Act.put, List.setIfInBounds_toArray, List.set_cons_zero, List.set_cons_succ]; go_simp; exact hK.out _ _ rfl (Below.refl _ _)
            refine StepsT.cons [(16, some 56, .is (.slice (some ⟨bb, ob, none⟩) lb db)), (17, some 57, .is (.int .i64 (mk : Int)))] (by simp only [List.getElem?_toArray, List.getElem?_cons_succ, List.getElem?_cons_zero]; rfl) (by kernel_rfl) (by rfl) (fun wx val iv hB hV K hK => ?_) ?_
            · (obtain ⟨k0, k1, k2, k3, k4⟩ := HC.out wx hB); clear hV; simp only [putT, List.foldl_cons, List.foldl_nil, Made.val, Act.put, List.setIfInBounds_toArray, List.set_cons_zero, List.set_cons_succ]; go_simp; exact hK.out _ _ rfl (Below.refl _ _)
            refine StepsT.cons [(18, some 58, .is (.pointer (some ⟨bb, ob + mk, none⟩)))] (by simp only [List.getElem?_toArray, List.getElem?_cons_succ, List.getElem?_cons_zero]; rfl) (by kernel_rfl) (by rfl) (fun wx val iv hB hV K hK => ?_) ?_
            · (obtain ⟨k0, k1, k2, k3, k4⟩ := HC.out wx hB); clear hV; simp only [putT, List.foldl_cons, List.foldl_nil, Made.val, Act.put, List.setIfInBounds_toArray, List.set_cons_zero, List.set_cons_succ]; go_simp; exact hK.out _ _ rfl (Below.refl _ _)
            refine StepsT.cons [] (by simp only [List.getElem?_toArray, List.getElem?_cons_succ, List.getElem?_cons_zero]; rfl) (by kernel_rfl) (by rfl) (fun wx val iv hB hV K hK => ?_) ?_
            · clear hV; simp only [putT, List.foldl_cons, List.foldl_nil, Made.val, Act.put, List.setIfInBounds_toArray, List.set_cons_zero, List.set_cons_succ]; go_simp; exact hK.out _ _ rfl (Below.refl _ _)
            refine StepsT.cons [(20, some 60, .is (.pointer (some ⟨w1.heap.size, 0, none⟩)))] (by simp only [List.getElem?_toArray, List.getElem?_cons_succ, List.getElem?_cons_zero]; rfl) (by kernel_rfl) (by rfl) (fun wx val iv hB hV K hK => ?_) ?_
            · (obtain ⟨k0, k1, k2, k3, k4⟩ := HC.out wx hB); clear hV; simp only [putT, List.foldl_cons, List.foldl_nil, Made.val, Act.put, List.setIfInBounds_toArray, List.set_cons_zero, List.set_cons_succ]; go_simp; exact hK.out _ _ rfl (Below.refl _ _)
            refine StepsT.cons [] (by simp only [List.getElem?_toArray, List.getElem?_cons_succ, List.getElem?_cons_zero]; rfl) (by kernel_rfl) (by rfl) (fun wx val iv hB hV K hK => ?_) ?_
            · clear hV; simp only [putT, List.foldl_cons, List.foldl_nil, Made.val, Act.put, List.setIfInBounds_toArray, List.set_cons_zero, List.set_cons_succ]; go_simp; exact hK.out _ _ rfl (Below.refl _ _)
            refine StepsT.cons [(21, some 61, .is (.slice (some ⟨g, 0, none⟩) n d0)), (22, some 62, .is (.int .i64 (ja : Int)))] (by simp only [List.getElem?_toArray, List.getElem?_cons_succ, List.getElem?_cons_zero]; rfl) (by kernel_rfl) (by rfl) (fun wx val iv hB hV K hK => ?_) ?_
            · (obtain ⟨k0, k1, k2, k3, k4⟩ := HC.out wx hB); clear hV; simp only [putT, List.foldl_cons, List.foldl_nil, Made.val, Act.put, List.setIfInBounds_toArray, List.set_cons_zero, List.set_cons_succ]; go_simp; exact hK.out _ _ rfl (Below.refl _ _)
            refine StepsT.cons [(23, some 63, .is (.pointer (some ⟨g, ja, none⟩)))] (by simp only [List.getElem?_toArray, List.getElem?_cons_succ, List.getElem?_cons_zero]; rfl) (by kernel_rfl) (by rfl) (fun wx val iv hB hV K hK => ?_) ?_
            · (obtain ⟨k0, k1, k2, k3, k4⟩ := HC.out wx hB); clear hV; simp only [putT, List.foldl_cons, List.foldl_nil, Made.val, Act.put, List.setIfInBounds_toArray, List.set_cons_zero, List.set_cons_succ]; go_simp; exact hK.out _ _ rfl (Below.refl _ _)
            refine StepsT.cons [] (by simp only [List.getElem?_toArray, List.getElem?_cons_succ, List.getElem?_cons_zero]; rfl) (by kernel_rfl) (by rfl) (fun wx val iv hB hV K hK => ?_) ?_
            · clear hV; simp only [putT, List.foldl_cons, List.foldl_nil, Made.val, Act.put, List.setIfInBounds_toArray, List.set_cons_zero, List.set_cons_succ]; go_simp; exact hK.out _ _ rfl (Below.refl _ _)
            refine StepsT.cons [(24, some 64, .is (.slice (some ⟨ba, oa, none⟩) la da)), (25, some 65, .is (.int .i64 (mi : Int)))] (by simp only [List.getElem?_toArray, List.getElem?_cons_succ, List.getElem?_cons_zero]; rfl) (by kernel_rfl) (by rfl) (fun wx val iv hB hV K hK => ?_) ?_
            · (obtain ⟨k0, k1, k2, k3, k4⟩ := HC.out wx hB); clear hV; simp only [putT, List.foldl_cons, List.foldl_nil, Made.val, Act.put, List.setIfInBounds_toArray, List.set_cons_zero, List.set_cons_succ]; go_simp; exact hK.out _ _ rfl (Below.refl _ _)
            refine StepsT.cons [(26, some 66, .is (.pointer (some ⟨ba, oa + mi, none⟩)))] (by simp only [List.getElem?_toArray, List.getElem?_cons_succ, List.getElem?_cons_zero]; rfl) (by kernel_rfl) (by rfl) (fun wx val iv hB hV K hK => ?_) ?_
            · (obtain ⟨k0, k1, k2, k3, k4⟩ := HC.out wx hB); clear hV; simp only [putT, List.foldl_cons, List.foldl_nil, Made.val, Act.put, List.setIfInBounds_toArray, List.set_cons_zero, List.set_cons_succ]; go_simp; exact hK.out _ _ rfl (Below.refl _ _)
            exact StepsT.nil
          case fin =>
            intro wx val iv BX hV hD
            have owx := (HOW.out.2.2.2).below BX
            obtain ⟨g1, gr, bw, -⟩ := HOW.out
            obtain ⟨wa, wb⟩ := Hw.out
            obtain ⟨hn, hxa, hxb, hla, hlb⟩ := Hx.out
            obtain ⟨hne, nab⟩ := Hn2.out
            obtain ⟨k0, k1, k2, k3, k4⟩ := HC.out wx BX
            obtain ⟨g', ba', oa1, da1, eq1, sba, nga, ka, -, fza, -, own1⟩ := owx.setAt rfl hja hmi (x := D.hands[jb][mk]) wb
            obtain rfl : g = g' := by simpa using eq1
            clear eq1
            have e1 := Option.some.inj (ka.symm.trans (k1.trans (by rw [hla])))
            obtain ⟨rfl, rfl⟩ : ba' = ba ∧ oa1 = oa := by have := (Value.slice.inj e1).1; simp at this; exact this
            clear e1 ka
            have hjb1 : jb < (D.hands.set ja (D.hands[ja].set mi D.hands[jb][mk])).length := by rw [List.length_set]; exact hjb
            have eb : (D.hands.set ja (D.hands[ja].set mi D.hands[jb][mk]))[jb] = D.hands[jb] := List.getElem_set_ne hne _
            obtain ⟨X1, hX1⟩ : ∃ W, W = wx.setCell ⟨ba', oa1 + mi, none⟩ (.int .i64 D.hands[jb][mk]) := ⟨_, rfl⟩
            rw [← hX1] at own1
            obtain ⟨g2, bb', ob1, db', eq2, sbb, ngb, kb', -, fzb, -, own2⟩ := OwnDeal.setAt (D := { D with hands := D.hands.set ja (D.hands[ja].set mi D.hands[jb][mk]) }) own1 (by show _ = (D.hands.set ja (D.hands[ja].set mi D.hands[jb][mk])).length; rw [List.length_set]) hjb1 (i := mk) (by show mk < ((D.hands.set ja (D.hands[ja].set mi D.hands[jb][mk]))[jb]).length; rw [eb]; exact hmk) (x := D.hands[ja][mi]) wa
            obtain rfl : g = g2 := by simpa using eq2
            clear eq2
            have kb2 : X1.cell? ⟨g, jb, none⟩ = some (.slice (some ⟨bb, ob, none⟩) lb db) := by rw [hX1]; exact (World.cell?_setCell_far _ _ _ _ (fun e => nga e)).trans k2
            have e1 := Option.some.inj (kb'.symm.trans kb2)
            obtain ⟨rfl, rfl⟩ : bb' = bb ∧ ob1 = ob := by have := (Value.slice.inj e1).1; simp at this; exact this
            clear e1 kb' kb2
            have zy : X1.cell? ⟨bb', ob1 + mk, none⟩ = some (.int .i64 xb) := by rw [hX1]; exact (World.cell?_setCell_far _ _ _ _ (fun e => nab e.symm)).trans k4
            have own3 : OwnDeal (In W0.heap.size w1.heap.size) (X1.setCell ⟨bb', ob1 + mk, none⟩ (.int .i64 xa)) (.agg #[.slice (some ⟨g, 0, none⟩) D.hands.length d0, .int .i64 D.leader, .int .i64 D.trump, .slice q3 D.trick.length d3, .slice q4 D.won.length d4, .slice q5 D.points.length d5, .int .i64 D.left]) (swapD D ja jb mi mk) := by rw [HE.out, hxa]; simp only [eb] at own2; exact own2
            rw [← hxb] at hX1
            obtain ⟨X2, hX2⟩ : ∃ W, W = X1.setCell ⟨bb', ob1 + mk, none⟩ (.int .i64 xa) := ⟨_, rfl⟩
            rw [← hX2] at own3
            have gr2 : X2.heap[w1.heap.size]? = some (.cells #[.slice (some ⟨g, 0, none⟩) D.hands.length d0, .int .i64 D.leader, .int .i64 D.trump, .slice q3 D.trick.length d3, .slice q4 D.won.length d4, .slice q5 D.points.length d5, .int .i64 D.left] 31 (0, 0)) := by
              rw [hX2, Below.heap_setCell _ _ _ _ (show w1.heap.size ≠ bb' by have := sbb.2; omega), hX1, Below.heap_setCell _ _ _ _ (show w1.heap.size ≠ ba' by have := sba.2; omega), BX.block _ (Array.getElem?_eq_some_iff.1 gr).1]; exact gr
            have g12 : X2.heap[w.heap.size + 1]? = some (.cells #[.slice none 0 0, .int .i64 0, .int .i64 0, .slice none 0 0, .slice none 0 0, .slice none 0 0, .int .i64 0] 31 (0, 0)) := by
              rw [hX2, Below.heap_setCell _ _ _ _ (show w.heap.size + 1 ≠ bb' by have := sbb.1; have := Hsz.out; omega), hX1, Below.heap_setCell _ _ _ _ (show w.heap.size + 1 ≠ ba' by have := sba.1; have := Hsz.out; omega), BX.block _ (Array.getElem?_eq_some_iff.1 g1).1]; exact g1
            have bw2 : Below w.heap.size w X2 := by
              rw [hX2, hX1]; exact ((bw.trans (BX.mono bw.size)).setCell (show w.heap.size ≤ ba' by have := sba.1; have := Hsz.out; omega) _).setCell (show w.heap.size ≤ bb' by have := sbb.1; have := Hsz.out; omega) _
            have HF := Lib.hid (And.intro gr2 (And.intro g12 (And.intro bw2 own3)))
            have HX1 := Lib.hid hX1
            have HX2 := Lib.hid hX2
            have HZ := Lib.hid (And.intro zy fzb)
            clear gr2 g12 bw2 own3 own2 own1 hX1 hX2 eb hjb1 sba sbb nga ngb owx g1 gr bw wa wb hn hxa hxb hla hlb hne nab k0 k1 k2 k4 zy fzb hV hD BX
            simp only [putT, List.foldl_cons, List.foldl_nil, Made.val, Act.put, List.setIfInBounds_toArray, List.set_cons_zero, List.set_cons_succ]
            refine wpAny_one (i := 28) (by kernel_rfl) (by simp only [List.getElem?_toArray, List.getElem?_cons_succ, List.getElem?_cons_zero]; rfl) (fun K hK => ?_)
            go_simp
            refine hK.out _ _ ?_
            clear hK K
            refine wpAny_one (i := 29) (by kernel_rfl) (by simp only [List.getElem?_toArray, List.getElem?_cons_succ, List.getElem?_cons_zero]; rfl) (fun K hK => ?_)
            go_simp
            refine hK.out _ _ ?_
            clear hK K fza k3
            rw [← HX1.out]
            obtain ⟨zy, fzb⟩ := HZ.out
            refine wpAny_one (i := 30) (by kernel_rfl) (by simp only [List.getElem?_toArray, List.getElem?_cons_succ, List.getElem?_cons_zero]; rfl) (fun K hK => ?_)
            go_simp
            refine hK.out _ _ ?_
            clear hK K
            refine wpAny_one (i := 31) (by kernel_rfl) (by simp only [List.getElem?_toArray, List.getElem?_cons_succ, List.getElem?_cons_zero]; rfl) (fun K hK => ?_)
            go_simp
            refine hK.out _ _ ?_
            clear hK K zy fzb
            rw [← HX2.out]
            refine wpAny_end (by kernel_rfl) ⟨rfl, ?_⟩
            obtain ⟨gr, g1, bw, ow⟩ := HF.out
            clear HF HX1 HX2 HZ
            have N := Lib.hid (And.intro (setRow_heap X2 (w.heap.size + 1) _ #[.slice (some ⟨g, 0, none⟩) D.hands.length d0, .int .i64 D.leader, .int .i64 D.trump, .slice q3 D.trick.length d3, .slice q4 D.won.length d4, .slice q5 D.points.length d5, .int .i64 D.left] _ _ g1) (below_setRow bw (Nat.le_succ _) #[.slice (some ⟨g, 0, none⟩) D.hands.length d0, .int .i64 D.leader, .int .i64 D.trump, .slice q3 D.trick.length d3, .slice q4 D.won.length d4, .slice q5 D.points.length d5, .int .i64 D.left]))
            have O := Lib.hid (ow.touch (touchRow X2 (w.heap.size + 1) #[.slice (some ⟨g, 0, none⟩) D.hands.length d0, .int .i64 D.leader, .int .i64 D.trump, .slice q3 D.trick.length d3, .slice q4 D.won.length d4, .slice q5 D.points.length d5, .int .i64 D.left]) (fun y hy e => by have := hy.1; have := Hsz.out; omega))
            have hsR : Hid (w1.heap.size ≤ (X2.setRow (w.heap.size + 1) #[.slice (some ⟨g, 0, none⟩) D.hands.length d0, .int .i64 D.leader, .int .i64 D.trump, .slice q3 D.trick.length d3, .slice q4 D.won.length d4, .slice q5 D.points.length d5, .int .i64 D.left]).heap.size) := Lib.hid (by have := (Array.getElem?_eq_some_iff.1 gr).1; simp [World.setRow]; omega)
            clear bw ow
            go_upto_region 5 with fail
            refine wp_region_lit ?_
            refine wpList_load_row rfl 31 _ rfl w1.heap.size rfl 31 _ _ _ gr Tryd.underlying31 rfl (by kernel_rfl) ?_
            clear gr
            refine wpList_store_row rfl 31 _ _ rfl (w.heap.size + 1) #[.slice (some ⟨g, 0, none⟩) D.hands.length d0, .int .i64 D.leader, .int .i64 D.trump, .slice q3 D.trick.length d3, .slice q4 D.won.length d4, .slice q5 D.points.length d5, .int .i64 D.left] rfl rfl 31 _ g1 (by kernel_rfl) rfl (by simp [Value.oneCell']) ?_
            clear g1
            go_wp2_with fail
            refine bodyPost_ret (results_row_tmp rfl _ _ (w.heap.size + 1) _ _ _ _ rfl N.out.1 Tryd.underlying31 rfl (by kernel_rfl)) rfl ?_
            rw [HOK.out]
            exact ⟨_, rfl, (O.out.mono (fun y hy => ⟨by have := hy.1; have := Hsz.out; omega, by have := hy.2; have := hsR.out; omega⟩)).wr, N.out.2⟩
theorem swap_no' {D : MDeal} {a b i k : Int} (h : swapOK D a b i k = false) : swapD D a b i k = D := by unfold swapD; rw [h]; rfl
set_option maxRecDepth 100000 in
set_option maxHeartbeats 4000000 in
theorem sSwapHidden_any (v : Value) (D : MDeal) (a b i k : Int) (w : World) (h : RdDeal w v D) (hf : D.Few) :
    Calls Tryd.prog 17 #[v, .int .i64 a, .int .i64 b, .int .i64 i, .int .i64 k] w fun e w' => ∃ v', e = .returned (.tuple #[v', .bool (swapOK D a b i k)]) ∧ WrDeal (In w.heap.size w'.heap.size) w' v' (swapD D a b i k) ∧ Below w.heap.size w w' := by
  obtain ⟨p0, p3, p4, p5, c0, c3, c4, c5, ev⟩ := h.shape
  subst ev
  obtain ⟨W0, hW0⟩ : ∃ W, W = (w.alloc (.cells #[.slice p0 D.hands.length c0, .int .i64 D.leader, .int .i64 D.trump, .slice p3 D.trick.length c3, .slice p4 D.won.length c4, .slice p5 D.points.length c5, .int .i64 D.left] 31)).alloc (.cells #[.slice none 0 0, .int .i64 0, .int .i64 0, .slice none 0 0, .slice none 0 0, .slice none 0 0, .int .i64 0] 31) := ⟨_, rfl⟩
  have G0 : W0.heap[w.heap.size]? = some (.cells #[.slice p0 D.hands.length c0, .int .i64 D.leader, .int .i64 D.trump, .slice p3 D.trick.length c3, .slice p4 D.won.length c4, .slice p5 D.points.length c5, .int .i64 D.left] 31 (0, 0)) := by rw [hW0]; exact heap_alloc2_old _ _ _
  have G1 : W0.heap[w.heap.size + 1]? = some (.cells #[.slice none 0 0, .int .i64 0, .int .i64 0, .slice none 0 0, .slice none 0 0, .slice none 0 0, .int .i64 0] 31 (0, 0)) := by rw [hW0]; exact heap_alloc2_new _ _ _
  have hsz : W0.heap.size = w.heap.size + 2 := by rw [hW0]; simp
  have B0 : Below w.heap.size w W0 := by rw [hW0]; exact ((Below.refl _ _).alloc (Nat.le_refl _) _).alloc (by simp) _
  have hfw := hf
  obtain ⟨f0, fs0, -⟩ := hfw
  have hr0 : RdRows .i64 w (.slice p0 D.hands.length c0) D.hands := by
    obtain ⟨v0, v3, v4, v5, b3, b4, b5, e, h0, -⟩ := id h
    simp at e
    obtain ⟨rfl, -⟩ := e
    exact h0
  have Hsum : Hid (∀ j (hj : j < D.hands.length), D.hands[j].length ≤ 1048576 ∧ ∀ y ∈ D.hands[j], (Lit.int .i64 y).wf = true) := Lib.hid (fun j hj => ⟨Nat.le_trans (len_le_sum D.hands hj) fs0, by
    obtain ⟨blk, off, cap, p, c, b, hv, hc, hr, -⟩ := hr0.row hj
    exact hr.wf⟩)
  have HCp := Lib.hid (sl12Copy_any _ D W0 (h.below B0) hf)
  have HI := Lib.hid (fun wx (hb : Below w.heap.size w wx) => sIsDeal_any _ D wx (h.below hb) hf _ rfl)
  have HRow := Lib.hid (fun wx (hb : Below w.heap.size w wx) => hr0.below hb)
  have HW := Lib.hid hW0
  have HG := Lib.hid (And.intro G0 (And.intro G1 (And.intro hsz B0)))
  have Hsz := Lib.hid hsz
  have F0 := Lib.hid f0
  clear h hf f0 fs0 hr0 hW0 G0 G1 hsz B0
  go_enter Tryd.func17, Tryd.ntmps17
  go_upto_region 1 with fail
  rw [← HW.out]
  obtain ⟨G0, G1, hsz, B0⟩ := HG.out
  refine wp_region_lit ?_
  refine wpList_load_row rfl 31 _ rfl w.heap.size rfl 31 _ _ _ G0 Tryd.underlying31 rfl (by kernel_rfl) ?_
  clear G0 G1 hsz B0
  go_wp2_with fail
  refine HCp.out.mono ?_
  rintro e w1 ⟨v1, rfl, own, B1⟩
  obtain ⟨q0, q3, q4, q5, d0, d3, d4, d5, S0, S3, S4, S5, ev, ho⟩ := id own
  subst ev
  obtain ⟨X, hX⟩ : ∃ X, X = w1.alloc (.cells #[.slice q0 D.hands.length d0, .int .i64 D.leader, .int .i64 D.trump, .slice q3 D.trick.length d3, .slice q4 D.won.length d4, .slice q5 D.points.length d5, .int .i64 D.left] 31) := ⟨_, rfl⟩
  have HX := Lib.hid hX
  have bX : Below w1.heap.size w1 X := by rw [hX]; exact (Below.refl _ _).alloc (Nat.le_refl _) _
  have gX : X.heap[w1.heap.size]? = some (.cells #[.slice q0 D.hands.length d0, .int .i64 D.leader, .int .i64 D.trump, .slice q3 D.trick.length d3, .slice q4 D.won.length d4, .slice q5 D.points.length d5, .int .i64 D.left] 31 (0, 0)) := by rw [hX]; exact heap_alloc_new _ _
  have HGX : Hid (∀ wx, Below X.heap.size X wx → wx.heap[w.heap.size]? = some (.cells #[.slice p0 D.hands.length c0, .int .i64 D.leader, .int .i64 D.trump, .slice p3 D.trick.length c3, .slice p4 D.won.length c4, .slice p5 D.points.length c5, .int .i64 D.left] 31 (0, 0)) ∧ wx.heap[w.heap.size + 1]? = some (.cells #[.slice none 0 0, .int .i64 0, .int .i64 0, .slice none 0 0, .slice none 0 0, .slice none 0 0, .int .i64 0] 31 (0, 0)) ∧ wx.heap[w1.heap.size]? = some (.cells #[.slice q0 D.hands.length d0, .int .i64 D.leader, .int .i64 D.trump, .slice q3 D.trick.length d3, .slice q4 D.won.length d4, .slice q5 D.points.length d5, .int .i64 D.left] 31 (0, 0)) ∧ Below w.heap.size w wx ∧ OwnDeal (In W0.heap.size w1.heap.size) wx (.agg #[.slice q0 D.hands.length d0, .int .i64 D.leader, .int .i64 D.trump, .slice q3 D.trick.length d3, .slice q4 D.won.length d4, .slice q5 D.points.length d5, .int .i64 D.left]) D) := by
    obtain ⟨G0, G1, hsz, B0⟩ := HG.out
    have s1 := B1.size
    have sX := bX.size
    have gl := (Array.getElem?_eq_some_iff.1 gX).1
    refine Lib.hid (fun wx hb => ⟨?_, ?_, (hb.block _ gl).trans gX, ?_, (own.below bX).below hb⟩)
    · rw [hb.block _ (by omega), bX.block _ (by omega), B1.block _ (by omega)]; exact G0
    · rw [hb.block _ (by omega), bX.block _ (by omega), B1.block _ (by omega)]; exact G1
    · exact ((B0.trans (B1.mono B0.size)).trans (bX.mono (Nat.le_trans B0.size s1))).trans (hb.mono (Nat.le_trans (Nat.le_trans B0.size s1) sX))
  clear ho own bX gX hX B1
  go_upto_region 2 with fail
  rw [← HX.out]
  obtain ⟨g0, g1, gr, bw, ow⟩ := HGX.out X (Below.refl _ _)
  have z0 := box_cell g0 0
  simp at z0
  have z0h := Lib.hid z0
  go_upto_region 3 with fail
  clear z0
  refine wp_region_lit ?_
  refine wpList_load_row rfl 31 _ rfl w.heap.size rfl 31 _ _ _ g0 Tryd.underlying31 rfl (by kernel_rfl) ?_
  clear g0 g1 gr ow
  go_wp2_with fail
  refine (HI.out _ bw).mono ?_
  rintro e w2 ⟨rfl, B2⟩
  clear bw HI HCp
  cases hd : isDeal D with
  | false =>
    have hok : swapOK D a b i k = false := by unfold swapOK; rw [hd]; rfl
    have HOK := Lib.hid hok
    have HE := Lib.hid (swap_no' hok)
    obtain ⟨g0, g1, gr, bw, ow⟩ := HGX.out w2 B2
    clear hd hok g0 B2
    have N := Lib.hid (And.intro (setRow_heap w2 (w.heap.size + 1) _ #[.slice q0 D.hands.length d0, .int .i64 D.leader, .int .i64 D.trump, .slice q3 D.trick.length d3, .slice q4 D.won.length d4, .slice q5 D.points.length d5, .int .i64 D.left] _ _ g1) (below_setRow bw (Nat.le_succ _) #[.slice q0 D.hands.length d0, .int .i64 D.leader, .int .i64 D.trump, .slice q3 D.trick.length d3, .slice q4 D.won.length d4, .slice q5 D.points.length d5, .int .i64 D.left]))
    have O := Lib.hid (ow.touch (touchRow w2 (w.heap.size + 1) #[.slice q0 D.hands.length d0, .int .i64 D.leader, .int .i64 D.trump, .slice q3 D.trick.length d3, .slice q4 D.won.length d4, .slice q5 D.points.length d5, .int .i64 D.left]) (fun y hy e => by have := hy.1; have := Hsz.out; omega))
    have hsR : Hid (w1.heap.size ≤ (w2.setRow (w.heap.size + 1) #[.slice q0 D.hands.length d0, .int .i64 D.leader, .int .i64 D.trump, .slice q3 D.trick.length d3, .slice q4 D.won.length d4, .slice q5 D.points.length d5, .int .i64 D.left]).heap.size) := Lib.hid (by have := (Array.getElem?_eq_some_iff.1 gr).1; simp [World.setRow]; omega)
    clear bw ow
    go_upto_region 4 with fail
    refine wp_region_lit ?_
    refine wpList_load_row rfl 31 _ rfl w1.heap.size rfl 31 _ _ _ gr Tryd.underlying31 rfl (by kernel_rfl) ?_
    clear gr
    refine wpList_store_row rfl 31 _ _ rfl (w.heap.size + 1) #[.slice q0 D.hands.length d0, .int .i64 D.leader, .int .i64 D.trump, .slice q3 D.trick.length d3, .slice q4 D.won.length d4, .slice q5 D.points.length d5, .int .i64 D.left] rfl rfl 31 _ g1 (by kernel_rfl) rfl (by simp [Value.oneCell']) ?_
    clear g1
    go_wp2_with fail
    refine bodyPost_ret (results_row_tmp rfl _ _ (w.heap.size + 1) _ _ _ _ rfl N.out.1 Tryd.underlying31 rfl (by kernel_rfl)) rfl ?_
    rw [HOK.out, HE.out]
    exact ⟨_, rfl, (O.out.mono (fun y hy => ⟨by have := hy.1; have := Hsz.out; omega, by have := hy.2; have := hsR.out; omega⟩)).wr, N.out.2⟩
  | true =>
    have f0' := F0.out
    have hwa : IntKind.i64.wrap ((D.hands.length : Int) - 1) = (D.hands.length : Int) - 1 := by rw [IntKind.wrap_i64]; have := F0.out; omega
    by_cases ha : 0 ≤ a ∧ a ≤ (D.hands.length : Int) - 1
    · have hb2 := (HGX.out w2 B2).2.2.2.1
      obtain ⟨ja, rfl⟩ : ∃ n : Nat, a = n := ⟨a.toNat, by omega⟩
      have hja : ja < D.hands.length := by omega
      have HJ := Lib.hid (fun wx => inM_any (ja : Int) 0 ((D.hands.length : Int) - 1) wx true (decide_eq_true ha).symm)
      clear ha hb2
      go_wp2_with fail
      refine (HJ.out _).mono ?_
      rintro e _w ⟨rfl, rfl⟩
      clear HJ
      by_cases hb : 0 ≤ b ∧ b ≤ (D.hands.length : Int) - 1
      rotate_left
      · have hok : swapOK D ja b i k = false := by unfold swapOK; rw [show hasAt D.hands b k = false by unfold hasAt; rw [decide_eq_false hb]; rfl]; simp
        have HOK := Lib.hid hok
        have HE := Lib.hid (swap_no' hok)
        have HJ := Lib.hid (fun wx => inM_any b 0 ((D.hands.length : Int) - 1) wx false (decide_eq_false hb).symm)
        obtain ⟨g0, g1, gr, bw, ow⟩ := HGX.out w2 B2
        clear hd hok g0 B2 hb
        go_wp2_with fail
        refine (HJ.out _).mono ?_
        rintro e _w ⟨rfl, rfl⟩
        have N := Lib.hid (And.intro (setRow_heap w2 (w.heap.size + 1) _ #[.slice q0 D.hands.length d0, .int .i64 D.leader, .int .i64 D.trump, .slice q3 D.trick.length d3, .slice q4 D.won.length d4, .slice q5 D.points.length d5, .int .i64 D.left] _ _ g1) (below_setRow bw (Nat.le_succ _) #[.slice q0 D.hands.length d0, .int .i64 D.leader, .int .i64 D.trump, .slice q3 D.trick.length d3, .slice q4 D.won.length d4, .slice q5 D.points.length d5, .int .i64 D.left]))
        have O := Lib.hid (ow.touch (touchRow w2 (w.heap.size + 1) #[.slice q0 D.hands.length d0, .int .i64 D.leader, .int .i64 D.trump, .slice q3 D.trick.length d3, .slice q4 D.won.length d4, .slice q5 D.points.length d5, .int .i64 D.left]) (fun y hy e => by have := hy.1; have := Hsz.out; omega))
        have hsR : Hid (w1.heap.size ≤ (w2.setRow (w.heap.size + 1) #[.slice q0 D.hands.length d0, .int .i64 D.leader, .int .i64 D.trump, .slice q3 D.trick.length d3, .slice q4 D.won.length d4, .slice q5 D.points.length d5, .int .i64 D.left]).heap.size) := Lib.hid (by have := (Array.getElem?_eq_some_iff.1 gr).1; simp [World.setRow]; omega)
        clear bw ow
        go_upto_region 4 with fail
        refine wp_region_lit ?_
        refine wpList_load_row rfl 31 _ rfl w1.heap.size rfl 31 _ _ _ gr Tryd.underlying31 rfl (by kernel_rfl) ?_
        clear gr
        refine wpList_store_row rfl 31 _ _ rfl (w.heap.size + 1) #[.slice q0 D.hands.length d0, .int .i64 D.leader, .int .i64 D.trump, .slice q3 D.trick.length d3, .slice q4 D.won.length d4, .slice q5 D.points.length d5, .int .i64 D.left] rfl rfl 31 _ g1 (by kernel_rfl) rfl (by simp [Value.oneCell']) ?_
        clear g1
        go_wp2_with fail
        refine bodyPost_ret (results_row_tmp rfl _ _ (w.heap.size + 1) _ _ _ _ rfl N.out.1 Tryd.underlying31 rfl (by kernel_rfl)) rfl ?_
        rw [HOK.out, HE.out]
        exact ⟨_, rfl, (O.out.mono (fun y hy => ⟨by have := hy.1; have := Hsz.out; omega, by have := hy.2; have := hsR.out; omega⟩)).wr, N.out.2⟩
      obtain ⟨jb, rfl⟩ : ∃ n : Nat, b = n := ⟨b.toNat, by omega⟩
      have hjb : jb < D.hands.length := by omega
      have HJ := Lib.hid (fun wx => inM_any (jb : Int) 0 ((D.hands.length : Int) - 1) wx true (decide_eq_true hb).symm)
      clear hb
      go_wp2_with fail
      refine (HJ.out _).mono ?_
      rintro e _w ⟨rfl, rfl⟩
      clear HJ
      by_cases he : ja = jb
      · subst he
        have hbe : ((ja : Int) == (ja : Int)) = true := by simp
        have hok : swapOK D ja ja i k = false := by unfold swapOK; simp
        have HOK := Lib.hid hok
        have HE := Lib.hid (swap_no' hok)
        obtain ⟨g0, g1, gr, bw, ow⟩ := HGX.out w2 B2
        clear hd hok g0 B2
        have N := Lib.hid (And.intro (setRow_heap w2 (w.heap.size + 1) _ #[.slice q0 D.hands.length d0, .int .i64 D.leader, .int .i64 D.trump, .slice q3 D.trick.length d3, .slice q4 D.won.length d4, .slice q5 D.points.length d5, .int .i64 D.left] _ _ g1) (below_setRow bw (Nat.le_succ _) #[.slice q0 D.hands.length d0, .int .i64 D.leader, .int .i64 D.trump, .slice q3 D.trick.length d3, .slice q4 D.won.length d4, .slice q5 D.points.length d5, .int .i64 D.left]))
        have O := Lib.hid (ow.touch (touchRow w2 (w.heap.size + 1) #[.slice q0 D.hands.length d0, .int .i64 D.leader, .int .i64 D.trump, .slice q3 D.trick.length d3, .slice q4 D.won.length d4, .slice q5 D.points.length d5, .int .i64 D.left]) (fun y hy e => by have := hy.1; have := Hsz.out; omega))
        have hsR : Hid (w1.heap.size ≤ (w2.setRow (w.heap.size + 1) #[.slice q0 D.hands.length d0, .int .i64 D.leader, .int .i64 D.trump, .slice q3 D.trick.length d3, .slice q4 D.won.length d4, .slice q5 D.points.length d5, .int .i64 D.left]).heap.size) := Lib.hid (by have := (Array.getElem?_eq_some_iff.1 gr).1; simp [World.setRow]; omega)
        clear bw ow
        go_upto_region 4 with fail
        refine wp_region_lit ?_
        refine wpList_load_row rfl 31 _ rfl w1.heap.size rfl 31 _ _ _ gr Tryd.underlying31 rfl (by kernel_rfl) ?_
        clear gr
        refine wpList_store_row rfl 31 _ _ rfl (w.heap.size + 1) #[.slice q0 D.hands.length d0, .int .i64 D.leader, .int .i64 D.trump, .slice q3 D.trick.length d3, .slice q4 D.won.length d4, .slice q5 D.points.length d5, .int .i64 D.left] rfl rfl 31 _ g1 (by kernel_rfl) rfl (by simp [Value.oneCell']) ?_
        clear g1
        go_wp2_with fail
        refine bodyPost_ret (results_row_tmp rfl _ _ (w.heap.size + 1) _ _ _ _ rfl N.out.1 Tryd.underlying31 rfl (by kernel_rfl)) rfl ?_
        rw [HOK.out, HE.out]
        exact ⟨_, rfl, (O.out.mono (fun y hy => ⟨by have := hy.1; have := Hsz.out; omega, by have := hy.2; have := hsR.out; omega⟩)).wr, N.out.2⟩
      have hbe : ((ja : Int) == (jb : Int)) = false := beq_eq_false_iff_ne.2 (by omega)
      obtain ⟨g0, g1, gr, bw, ow⟩ := HGX.out w2 B2
      have z0 := box_cell g0 0
      simp at z0
      obtain ⟨blk, off, capA, pa, ea, ra, hv, ca, rda, -⟩ := (HRow.out w2 bw).row hja
      have hp := (Value.slice.inj hv).1
      subst hp
      obtain ⟨blk', off', capB, pb, eb, rb, hv', cb, rdb, -⟩ := (HRow.out w2 bw).row hjb
      have hp := (Value.slice.inj hv').1
      simp at hp
      obtain ⟨rfl, rfl⟩ := hp
      clear hv hv' g0 g1 gr bw ow
      have na := (Hsum.out ja hja).1
      have nb := (Hsum.out jb hjb).1
      have hda : (D.hands.getD (ja : Int).toNat []).length = D.hands[ja].length := by simp [List.getD, hja]
      have hdb : (D.hands.getD (jb : Int).toNat []).length = D.hands[jb].length := by simp [List.getD, hjb]
      by_cases hi : 0 ≤ i ∧ i ≤ (D.hands[ja].length : Int) - 1
      rotate_left
      · have hok : swapOK D ja jb i k = false := by unfold swapOK; rw [show hasAt D.hands ja i = false by unfold hasAt; rw [hda, decide_eq_false hi]; simp]; simp
        have HOK := Lib.hid hok
        have HE := Lib.hid (swap_no' hok)
        have HJ := Lib.hid (fun wx => inM_any i 0 ((D.hands[ja].length : Int) - 1) wx false (decide_eq_false hi).symm)
        obtain ⟨g0, g1, gr, bw, ow⟩ := HGX.out w2 B2
        clear hd hok g0 B2 hi rda rdb hda hdb
        generalize D.hands[ja].length = la at *
        go_wp2_with fail
        refine (HJ.out _).mono ?_
        rintro e _w ⟨rfl, rfl⟩
        clear z0 ca cb
        have N := Lib.hid (And.intro (setRow_heap w2 (w.heap.size + 1) _ #[.slice q0 D.hands.length d0, .int .i64 D.leader, .int .i64 D.trump, .slice q3 D.trick.length d3, .slice q4 D.won.length d4, .slice q5 D.points.length d5, .int .i64 D.left] _ _ g1) (below_setRow bw (Nat.le_succ _) #[.slice q0 D.hands.length d0, .int .i64 D.leader, .int .i64 D.trump, .slice q3 D.trick.length d3, .slice q4 D.won.length d4, .slice q5 D.points.length d5, .int .i64 D.left]))
        have O := Lib.hid (ow.touch (touchRow w2 (w.heap.size + 1) #[.slice q0 D.hands.length d0, .int .i64 D.leader, .int .i64 D.trump, .slice q3 D.trick.length d3, .slice q4 D.won.length d4, .slice q5 D.points.length d5, .int .i64 D.left]) (fun y hy e => by have := hy.1; have := Hsz.out; omega))
        have hsR : Hid (w1.heap.size ≤ (w2.setRow (w.heap.size + 1) #[.slice q0 D.hands.length d0, .int .i64 D.leader, .int .i64 D.trump, .slice q3 D.trick.length d3, .slice q4 D.won.length d4, .slice q5 D.points.length d5, .int .i64 D.left]).heap.size) := Lib.hid (by have := (Array.getElem?_eq_some_iff.1 gr).1; simp [World.setRow]; omega)
        clear bw ow
        go_upto_region 4 with fail
        refine wp_region_lit ?_
        refine wpList_load_row rfl 31 _ rfl w1.heap.size rfl 31 _ _ _ gr Tryd.underlying31 rfl (by kernel_rfl) ?_
        clear gr
        refine wpList_store_row rfl 31 _ _ rfl (w.heap.size + 1) #[.slice q0 D.hands.length d0, .int .i64 D.leader, .int .i64 D.trump, .slice q3 D.trick.length d3, .slice q4 D.won.length d4, .slice q5 D.points.length d5, .int .i64 D.left] rfl rfl 31 _ g1 (by kernel_rfl) rfl (by simp [Value.oneCell']) ?_
        clear g1
        go_wp2_with fail
        refine bodyPost_ret (results_row_tmp rfl _ _ (w.heap.size + 1) _ _ _ _ rfl N.out.1 Tryd.underlying31 rfl (by kernel_rfl)) rfl ?_
        rw [HOK.out, HE.out]
        exact ⟨_, rfl, (O.out.mono (fun y hy => ⟨by have := hy.1; have := Hsz.out; omega, by have := hy.2; have := hsR.out; omega⟩)).wr, N.out.2⟩
      obtain ⟨mi, rfl⟩ : ∃ n : Nat, i = n := ⟨i.toNat, by omega⟩
      have hmi : mi < D.hands[ja].length := by omega
      have HJ := Lib.hid (fun wx => inM_any (mi : Int) 0 ((D.hands[ja].length : Int) - 1) wx true (decide_eq_true hi).symm)
      have Hrd := Lib.hid (And.intro rda (And.intro rdb (And.intro hda hdb)))
      have Hd := Lib.hid hd
      clear rda rdb hda hdb hd hi
      obtain ⟨la, hla⟩ : ∃ l, l = D.hands[ja].length := ⟨_, rfl⟩
      obtain ⟨lb, hlb⟩ : ∃ l, l = D.hands[jb].length := ⟨_, rfl⟩
      rw [← hla] at na HJ ca
      rw [← hlb] at nb cb
      have Hl := Lib.hid (And.intro hla (And.intro hlb hmi))
      clear hla hlb hmi
      go_wp2_with fail
      refine (HJ.out _).mono ?_
      rintro e _w ⟨rfl, rfl⟩
      clear HJ
      by_cases hk : 0 ≤ k ∧ k ≤ (lb : Int) - 1
      rotate_left
      · have hok : swapOK D ja jb mi k = false := by
          obtain ⟨hla, hlb, -⟩ := Hl.out
          obtain ⟨-, -, -, hdb⟩ := Hrd.out
          unfold swapOK; rw [show hasAt D.hands jb k = false by unfold hasAt; rw [hdb, ← hlb, decide_eq_false hk]; simp]; simp
        have HOK := Lib.hid hok
        have HE := Lib.hid (swap_no' hok)
        have HJ := Lib.hid (fun wx => inM_any k 0 ((lb : Int) - 1) wx false (decide_eq_false hk).symm)
        obtain ⟨g0, g1, gr, bw, ow⟩ := HGX.out w2 B2
        clear hok g0 B2 hk
        go_wp2_with fail
        refine (HJ.out _).mono ?_
        rintro e _w ⟨rfl, rfl⟩
        clear z0 ca cb
        have N := Lib.hid (And.intro (setRow_heap w2 (w.heap.size + 1) _ #[.slice q0 D.hands.length d0, .int .i64 D.leader, .int .i64 D.trump, .slice q3 D.trick.length d3, .slice q4 D.won.length d4, .slice q5 D.points.length d5, .int .i64 D.left] _ _ g1) (below_setRow bw (Nat.le_succ _) #[.slice q0 D.hands.length d0, .int .i64 D.leader, .int .i64 D.trump, .slice q3 D.trick.length d3, .slice q4 D.won.length d4, .slice q5 D.points.length d5, .int .i64 D.left]))
        have O := Lib.hid (ow.touch (touchRow w2 (w.heap.size + 1) #[.slice q0 D.hands.length d0, .int .i64 D.leader, .int .i64 D.trump, .slice q3 D.trick.length d3, .slice q4 D.won.length d4, .slice q5 D.points.length d5, .int .i64 D.left]) (fun y hy e => by have := hy.1; have := Hsz.out; omega))
        have hsR : Hid (w1.heap.size ≤ (w2.setRow (w.heap.size + 1) #[.slice q0 D.hands.length d0, .int .i64 D.leader, .int .i64 D.trump, .slice q3 D.trick.length d3, .slice q4 D.won.length d4, .slice q5 D.points.length d5, .int .i64 D.left]).heap.size) := Lib.hid (by have := (Array.getElem?_eq_some_iff.1 gr).1; simp [World.setRow]; omega)
        clear bw ow
        go_upto_region 4 with fail
        refine wp_region_lit ?_
        refine wpList_load_row rfl 31 _ rfl w1.heap.size rfl 31 _ _ _ gr Tryd.underlying31 rfl (by kernel_rfl) ?_
        clear gr
        refine wpList_store_row rfl 31 _ _ rfl (w.heap.size + 1) #[.slice q0 D.hands.length d0, .int .i64 D.leader, .int .i64 D.trump, .slice q3 D.trick.length d3, .slice q4 D.won.length d4, .slice q5 D.points.length d5, .int .i64 D.left] rfl rfl 31 _ g1 (by kernel_rfl) rfl (by simp [Value.oneCell']) ?_
        clear g1
        go_wp2_with fail
        refine bodyPost_ret (results_row_tmp rfl _ _ (w.heap.size + 1) _ _ _ _ rfl N.out.1 Tryd.underlying31 rfl (by kernel_rfl)) rfl ?_
        rw [HOK.out, HE.out]
        exact ⟨_, rfl, (O.out.mono (fun y hy => ⟨by have := hy.1; have := Hsz.out; omega, by have := hy.2; have := hsR.out; omega⟩)).wr, N.out.2⟩
      obtain ⟨mk, rfl⟩ : ∃ n : Nat, k = n := ⟨k.toNat, by omega⟩
      have hmk0 : mk < lb := by omega
      have HJ := Lib.hid (fun wx => inM_any (mk : Int) 0 ((lb : Int) - 1) wx true (decide_eq_true hk).symm)
      clear hk
      go_wp2_with fail
      refine (HJ.out _).mono ?_
      rintro e _w ⟨rfl, rfl⟩
      clear HJ
      obtain ⟨hla, hlb, hmi⟩ := Hl.out
      have hmk : mk < D.hands[jb].length := by omega
      obtain ⟨rda, rdb, hda, hdb⟩ := Hrd.out
      have wa : (Lit.int .i64 (D.hands[ja][mi])).wf = true := rda.wf _ (List.getElem_mem _)
      have wb : (Lit.int .i64 (D.hands[jb][mk])).wf = true := rdb.wf _ (List.getElem_mem _)
      have HOK : Hid (swapOK D ja jb mi mk = true) := Lib.hid (by
        unfold swapOK hasAt
        rw [Hd.out, hda, hdb, decide_eq_true (show (ja : Int) ≠ (jb : Int) by omega), decide_eq_true (show 0 ≤ (ja : Int) ∧ (ja : Int) ≤ (D.hands.length : Int) - 1 by omega), decide_eq_true (show 0 ≤ (jb : Int) ∧ (jb : Int) ≤ (D.hands.length : Int) - 1 by omega), decide_eq_true (show 0 ≤ (mi : Int) ∧ (mi : Int) ≤ (D.hands[ja].length : Int) - 1 by omega), decide_eq_true (show 0 ≤ (mk : Int) ∧ (mk : Int) ≤ (D.hands[jb].length : Int) - 1 by omega)]
        rfl)
      have HE : Hid (swapD D ja jb mi mk = { D with hands := (D.hands.set ja (D.hands[ja].set mi D.hands[jb][mk])).set jb (D.hands[jb].set mk D.hands[ja][mi]) }) := Lib.hid (by
        unfold swapD
        rw [if_pos HOK.out]
        unfold swapRows
        simp [List.getD, hja, hjb, hmi, hmk])
      obtain ⟨g0, g1, gr, bw, ow⟩ := HGX.out w2 B2
      obtain ⟨oa', hpa, hca⟩ : ∃ o, pa = some ⟨ra, o, none⟩ ∧ w2.cell? ⟨ra, o + mi, none⟩ = some (.int .i64 D.hands[ja][mi]) := by
        obtain ⟨a', cap', e', -, -, hq⟩ := rda
        rcases hq with hq | ⟨o, ho, hc⟩
        · rw [hq] at hmi; simp at hmi
        · exact ⟨o, ((Value.slice.inj e').1).trans ho, hc mi hmi⟩
      obtain ⟨ob', hpb, hcb⟩ : ∃ o, pb = some ⟨rb, o, none⟩ ∧ w2.cell? ⟨rb, o + mk, none⟩ = some (.int .i64 D.hands[jb][mk]) := by
        obtain ⟨a', cap', e', -, -, hq⟩ := rdb
        rcases hq with hq | ⟨o, ho, hc⟩
        · rw [hq] at hmk; simp at hmk
        · exact ⟨o, ((Value.slice.inj e').1).trans ho, hc mk hmk⟩
      subst hpa hpb
      obtain ⟨g, ba, oa, da, eq0, sba, nga, ka, xa', fza, -, -⟩ := ow.setAt rfl hja hmi (x := D.hands[jb][mk]) wb
      subst eq0
      have zr := box_cell gr 0
      simp at zr
      have Hc0 := Lib.hid (And.intro z0 (And.intro ca (And.intro cb (And.intro hca hcb))))
      rw [← hla] at ka
      obtain ⟨n, hn⟩ : ∃ n, n = D.hands.length := ⟨_, rfl⟩
      obtain ⟨xb, hxb⟩ : ∃ x, x = D.hands[jb][mk] := ⟨_, rfl⟩
      obtain ⟨xa, hxa⟩ : ∃ x, x = D.hands[ja][mi] := ⟨_, rfl⟩
      have HO : Hid (∀ wx, Below w2.heap.size w2 wx → wx.cell? ⟨w.heap.size, 0, none⟩ = some (.slice (some ⟨blk, off, none⟩) n c0) ∧ wx.cell? ⟨blk, off + ja, none⟩ = some (.slice (some ⟨ra, oa', none⟩) la ea) ∧ wx.cell? ⟨ra, oa' + mi, none⟩ = some (.int .i64 xa)) := Lib.hid (fun wx hb => by
        rw [hn, hxa]
        refine ⟨?_, ?_, ?_⟩
        · exact (hb.cell (World.block_lt_of_cell? _ _ z0)).trans z0
        · exact (hb.cell (World.block_lt_of_cell? _ _ ca)).trans ca
        · exact (hb.cell (World.block_lt_of_cell? _ _ hca)).trans hca)
      have HC : Hid (∀ wx, Below w2.heap.size w2 wx → wx.cell? ⟨w.heap.size, 0, none⟩ = some (.slice (some ⟨blk, off, none⟩) n c0) ∧ wx.cell? ⟨w1.heap.size, 0, none⟩ = some (.slice (some ⟨g, 0, none⟩) n d0) ∧ wx.cell? ⟨g, ja, none⟩ = some (.slice (some ⟨ba, oa, none⟩) la da) ∧ wx.cell? ⟨blk, off + jb, none⟩ = some (.slice (some ⟨rb, ob', none⟩) lb eb) ∧ wx.cell? ⟨rb, ob' + mk, none⟩ = some (.int .i64 xb)) := Lib.hid (fun wx hb => by
        rw [hn, hxb]
        refine ⟨?_, ?_, ?_, ?_, ?_⟩
        · exact (hb.cell (World.block_lt_of_cell? _ _ z0)).trans z0
        · exact (hb.cell (World.block_lt_of_cell? _ _ zr)).trans zr
        · exact (hb.cell (World.block_lt_of_cell? _ _ ka)).trans ka
        · exact (hb.cell (World.block_lt_of_cell? _ _ cb)).trans cb
        · exact (hb.cell (World.block_lt_of_cell? _ _ hcb)).trans hcb)
      have HOW := Lib.hid (And.intro g1 (And.intro gr (And.intro bw ow)))
      have Hw := Lib.hid (And.intro wa wb)
      have Hj := Lib.hid (And.intro hja (And.intro hjb (And.intro hmi hmk)))
      have Hhe := Lib.hid he
      have Hx := Lib.hid (And.intro hn (And.intro hxa (And.intro hxb (And.intro hla hlb))))
      have ja0 : ja < n := by omega
      have jb0 : jb < n := by omega
      have mi0 : mi < la := by omega
      clear hn hxa hxb hla hlb rda rdb hda hdb wa wb g0 g1 gr bw ow xa' fza z0 ca cb hca hcb zr ka sba nga he hwa
      go_upto_region 5 with fail
      clear hbe
      refine wp_region_table [(0, some 66, .is (.pointer (some ⟨w1.heap.size, 0, none⟩))), (1, some 67, .is (.slice (some ⟨g, 0, none⟩) n d0)), (2, some 68, .is (.int .i64 (ja : Int))), (3, some 69, .is (.pointer (some ⟨g, ja, none⟩))), (4, some 70, .is (.slice (some ⟨ba, oa, none⟩) la da)), (5, some 71, .is (.int .i64 (mi : Int))), (6, some 72, .is (.pointer (some ⟨w.heap.size, 0, none⟩))), (7, some 73, .is (.slice (some ⟨blk, off, none⟩) n c0)), (8, some 74, .is (.int .i64 (jb : Int))), (9, some 75, .is (.pointer (some ⟨blk, off + jb, none⟩))), (10, some 76, .is (.slice (some ⟨rb, ob', none⟩) lb eb)), (11, some 77, .is (.int .i64 (mk : Int))), (12, some 78, .is (.pointer (some ⟨rb, ob' + mk, none⟩))), (13, some 79, .is (.int .i64 xb))] 2 (by kernel_rfl) (by kernel_rfl) (by kernel_rfl) (by kernel_rfl) (by kernel_rfl) (L := #[true, true, true, true, true, true, true, true, true, true, true, true, true, true, false, false]) (by kernel_rfl) ?steps ?fin
      case steps =>
        refine StepsT.cons [] (by simp only [List.getElem?_toArray, List.getElem?_cons_succ, List.getElem?_cons_zero]; rfl) (by kernel_rfl) (by rfl) (fun wx val iv hB hV K hK => ?_) ?_
        · clear hV; simp only [putT, List.foldl_cons, List.foldl_nil, Made.val, Act.put, List.setIfInBounds_toArray, List.set_cons_zero, List.set_cons_succ]; go_simp; exact hK.out _ _ rfl (Below.refl _ _)
        refine StepsT.cons [(0, some 66, .is (.pointer (some ⟨w1.heap.size, 0, none⟩)))] (by simp only [List.getElem?_toArray, List.getElem?_cons_succ, List.getElem?_cons_zero]; rfl) (by kernel_rfl) (by rfl) (fun wx val iv hB hV K hK => ?_) ?_
        · (obtain ⟨k0, k1, k2, k3, k4⟩ := HC.out wx hB); clear hV; simp only [putT, List.foldl_cons, List.foldl_nil, Made.val, Act.put, List.setIfInBounds_toArray, List.set_cons_zero, List.set_cons_succ]; go_simp; exact hK.out _ _ rfl (Below.refl _ _)
        refine StepsT.cons [] (by simp only [List.getElem?_toArray, List.getElem?_cons_succ, List.getElem?_cons_zero]; rfl) (by kernel_rfl) (by rfl) (fun wx val iv hB hV K hK => ?_) ?_
        · clear hV; simp only [putT, List.foldl_cons, List.foldl_nil, Made.val, Act.put, List.setIfInBounds_toArray, List.set_cons_zero, List.set_cons_succ]; go_simp; exact hK.out _ _ rfl (Below.refl _ _)
        refine StepsT.cons [(1, some 67, .is (.slice (some ⟨g, 0, none⟩) n d0)), (2, some 68, .is (.int .i64 (ja : Int)))] (by simp only [List.getElem?_toArray, List.getElem?_cons_succ, List.getElem?_cons_zero]; rfl) (by kernel_rfl) (by rfl) (fun wx val iv hB hV K hK => ?_) ?_
        · (obtain ⟨k0, k1, k2, k3, k4⟩ := HC.out wx hB); clear hV; simp only [putT, List.foldl_cons, List.foldl_nil, Made.val, Act.put, List.setIfInBounds_toArray, List.set_cons_zero, List.set_cons_succ]; go_simp; exact hK.out _ _ rfl (Below.refl _ _)
        refine StepsT.cons [(3, some 69, .is (.pointer (some ⟨g, ja, none⟩)))] (by simp only [List.getElem?_toArray, List.getElem?_cons_succ, List.getElem?_cons_zero]; rfl) (by kernel_rfl) (by rfl) (fun wx val iv hB hV K hK => ?_) ?_
        · (obtain ⟨k0, k1, k2, k3, k4⟩ := HC.out wx hB); clear hV; simp only [putT, List.foldl_cons, List.foldl_nil, Made.val, Act.put, List.setIfInBounds_toArray, List.set_cons_zero, List.set_cons_succ]; go_simp; exact hK.out _ _ rfl (Below.refl _ _)
        refine StepsT.cons [] (by simp only [List.getElem?_toArray, List.getElem?_cons_succ, List.getElem?_cons_zero]; rfl) (by kernel_rfl) (by rfl) (fun wx val iv hB hV K hK => ?_) ?_
        · clear hV; simp only [putT, List.foldl_cons, List.foldl_nil, Made.val, Act.put, List.setIfInBounds_toArray, List.set_cons_zero, List.set_cons_succ]; go_simp; exact hK.out _ _ rfl (Below.refl _ _)
        refine StepsT.cons [] (by simp only [List.getElem?_toArray, List.getElem?_cons_succ, List.getElem?_cons_zero]; rfl) (by kernel_rfl) (by rfl) (fun wx val iv hB hV K hK => ?_) ?_
        · clear hV; simp only [putT, List.foldl_cons, List.foldl_nil, Made.val, Act.put, List.setIfInBounds_toArray, List.set_cons_zero, List.set_cons_succ]; go_simp; exact hK.out _ _ rfl (Below.refl _ _)
        refine StepsT.cons [(6, some 72, .is (.pointer (some ⟨w.heap.size, 0, none⟩)))] (by simp only [List.getElem?_toArray, List.getElem?_cons_succ, List.getElem?_cons_zero]; rfl) (by kernel_rfl) (by rfl) (fun wx val iv hB hV K hK => ?_) ?_
        · (obtain ⟨k0, k1, k2, k3, k4⟩ := HC.out wx hB); clear hV; simp only [putT, List.foldl_cons, List.foldl_nil, Made.val, Act.put, List.setIfInBounds_toArray, List.set_cons_zero, List.set_cons_succ]; go_simp; exact hK.out _ _ rfl (Below.refl _ _)
        refine StepsT.cons [] (by simp only [List.getElem?_toArray, List.getElem?_cons_succ, List.getElem?_cons_zero]; rfl) (by kernel_rfl) (by rfl) (fun wx val iv hB hV K hK => ?_) ?_
        · clear hV; simp only [putT, List.foldl_cons, List.foldl_nil, Made.val, Act.put, List.setIfInBounds_toArray, List.set_cons_zero, List.set_cons_succ]; go_simp; exact hK.out _ _ rfl (Below.refl _ _)
        refine StepsT.cons [(7, some 73, .is (.slice (some ⟨blk, off, none⟩) n c0)), (8, some 74, .is (.int .i64 (jb : Int)))] (by simp only [List.getElem?_toArray, List.getElem?_cons_succ, List.getElem?_cons_zero]; rfl) (by kernel_rfl) (by rfl) (fun wx val iv hB hV K hK => ?_) ?_
        · (obtain ⟨k0, k1, k2, k3, k4⟩ := HC.out wx hB); clear hV; simp only [putT, List.foldl_cons, List.foldl_nil, Made.val, Act.put, List.setIfInBounds_toArray, List.set_cons_zero, List.set_cons_succ]; go_simp; exact hK.out _ _ rfl (Below.refl _ _)
        refine StepsT.cons [(9, some 75, .is (.pointer (some ⟨blk, off + jb, none⟩)))] (by simp only [List.getElem?_toArray, List.getElem?_cons_succ, List.getElem?_cons_zero]; rfl) (by kernel_rfl) (by rfl) (fun wx val iv hB hV K hK => ?_) ?_
        · (obtain ⟨k0, k1, k2, k3, k4⟩ := HC.out wx hB); clear hV; simp only [putT, List.foldl_cons, List.foldl_nil, Made.val, Act.put, List.setIfInBounds_toArray, List.set_cons_zero, List.set_cons_succ]; go_simp; exact hK.out _ _ rfl (Below.refl _ _)
        refine StepsT.cons [] (by simp only [List.getElem?_toArray, List.getElem?_cons_succ, List.getElem?_cons_zero]; rfl) (by kernel_rfl) (by rfl) (fun wx val iv hB hV K hK => ?_) ?_
        · clear hV; simp only [putT, List.foldl_cons, List.foldl_nil, Made.val, Act.put, List.setIfInBounds_toArray, List.set_cons_zero, List.set_cons_succ]; go_simp; exact hK.out _ _ rfl (Below.refl _ _)
        refine StepsT.cons [(10, some 76, .is (.slice (some ⟨rb, ob', none⟩) lb eb)), (11, some 77, .is (.int .i64 (mk : Int)))] (by simp only [List.getElem?_toArray, List.getElem?_cons_succ, List.getElem?_cons_zero]; rfl) (by kernel_rfl) (by rfl) (fun wx val iv hB hV K hK => ?_) ?_
        · (obtain ⟨k0, k1, k2, k3, k4⟩ := HC.out wx hB); clear hV; simp only [putT, List.foldl_cons, List.foldl_nil, Made.val, Act.put, List.setIfInBounds_toArray, List.set_cons_zero, List.set_cons_succ]; go_simp; exact hK.out _ _ rfl (Below.refl _ _)
        refine StepsT.cons [(12, some 78, .is (.pointer (some ⟨rb, ob' + mk, none⟩)))] (by simp only [List.getElem?_toArray, List.getElem?_cons_succ, List.getElem?_cons_zero]; rfl) (by kernel_rfl) (by rfl) (fun wx val iv hB hV K hK => ?_) ?_
        · (obtain ⟨k0, k1, k2, k3, k4⟩ := HC.out wx hB); clear hV; simp only [putT, List.foldl_cons, List.foldl_nil, Made.val, Act.put, List.setIfInBounds_toArray, List.set_cons_zero, List.set_cons_succ]; go_simp; exact hK.out _ _ rfl (Below.refl _ _)
        exact StepsT.nil
      case fin =>
        intro wx val iv BX hV hD
        obtain ⟨k0, k1, k2, k3, k4⟩ := HC.out wx BX
        obtain ⟨g1, gr, bw, ow⟩ := HOW.out
        obtain ⟨wa, wb⟩ := Hw.out
        obtain ⟨hja, hjb, hmi, hmk⟩ := Hj.out
        obtain ⟨hn, hxa, hxb, hla, hlb⟩ := Hx.out
        have owx := ow.below BX
        obtain ⟨g', ba', oa1, da1, eq1, sba, nga, ka, xa', fza, -, own1⟩ := owx.setAt rfl hja hmi (x := D.hands[jb][mk]) wb
        obtain rfl : g = g' := by simpa using eq1
        clear eq1
        have e1 := Option.some.inj (ka.symm.trans (k2.trans (by rw [hla])))
        obtain ⟨rfl, rfl⟩ : ba' = ba ∧ oa1 = oa := by have := (Value.slice.inj e1).1; simp at this; exact this
        rw [← hxb] at own1
        rw [← hxa] at xa'
        have HX1 := Lib.hid own1
        have Hsb := Lib.hid sba
        clear e1 ka owx own1 ow bw g1 gr wa wb hn hxa hxb hla hlb hV hD k0 k1 k2 k3 k4 nga sba
        simp only [putT, List.foldl_cons, List.foldl_nil, Made.val, Act.put, List.setIfInBounds_toArray, List.set_cons_zero, List.set_cons_succ]
        refine wpAny_one (i := 14) (by kernel_rfl) (by simp only [List.getElem?_toArray, List.getElem?_cons_succ, List.getElem?_cons_zero]; rfl) (fun K hK => ?_)
        go_simp
        refine hK.out _ _ ?_
        clear hK K
        refine wpAny_one (i := 15) (by kernel_rfl) (by simp only [List.getElem?_toArray, List.getElem?_cons_succ, List.getElem?_cons_zero]; rfl) (fun K hK => ?_)
        go_simp
        refine hK.out _ _ ?_
        clear hK K xa' fza
        refine wpAny_end (by kernel_rfl) ?_
        obtain ⟨X1, hX1⟩ : ∃ W, W = wx.setCell ⟨ba', oa1 + mi, none⟩ (.int .i64 xb) := ⟨_, rfl⟩
        rw [← hX1] at HX1 ⊢
        have HX1c := Lib.hid hX1
        clear hX1
        have bw1 : Below w.heap.size w X1 := by
          obtain ⟨g1, gr, bw, ow⟩ := HOW.out
          rw [HX1c.out]
          exact (bw.trans (BX.mono bw.size)).setCell (show w.heap.size ≤ ba' by have := Hsb.out.1; have := Hsz.out; omega) _
        have gA : X1.heap[w.heap.size]? = some (.cells #[.slice (some ⟨blk, off, none⟩) D.hands.length c0, .int .i64 D.leader, .int .i64 D.trump, .slice p3 D.trick.length c3, .slice p4 D.won.length c4, .slice p5 D.points.length c5, .int .i64 D.left] 31 (0, 0)) := by
          obtain ⟨g0, -⟩ := HGX.out w2 B2
          rw [HX1c.out, Below.heap_setCell _ _ _ _ (show w.heap.size ≠ ba' by have := Hsb.out.1; have := Hsz.out; omega), BX.block _ (Array.getElem?_eq_some_iff.1 g0).1]; exact g0
        have gB : X1.heap[w.heap.size + 1]? = some (.cells #[.slice none 0 0, .int .i64 0, .int .i64 0, .slice none 0 0, .slice none 0 0, .slice none 0 0, .int .i64 0] 31 (0, 0)) := by
          obtain ⟨g1, gr, bw, ow⟩ := HOW.out
          rw [HX1c.out, Below.heap_setCell _ _ _ _ (show w.heap.size + 1 ≠ ba' by have := Hsb.out.1; have := Hsz.out; omega), BX.block _ (Array.getElem?_eq_some_iff.1 g1).1]; exact g1
        have gC : X1.heap[w1.heap.size]? = some (.cells #[.slice (some ⟨g, 0, none⟩) D.hands.length d0, .int .i64 D.leader, .int .i64 D.trump, .slice q3 D.trick.length d3, .slice q4 D.won.length d4, .slice q5 D.points.length d5, .int .i64 D.left] 31 (0, 0)) := by
          obtain ⟨g1, gr, bw, ow⟩ := HOW.out
          rw [HX1c.out, Below.heap_setCell _ _ _ _ (show w1.heap.size ≠ ba' by have := Hsb.out.2; omega), BX.block _ (Array.getElem?_eq_some_iff.1 gr).1]; exact gr
        obtain ⟨hja, hjb, hmi, hmk⟩ := Hj.out
        obtain ⟨wa, wb⟩ := Hw.out
        obtain ⟨hn, hxa, hxb, hla, hlb⟩ := Hx.out
        have he := Hhe.out
        have z0 := box_cell gA 0
        have zr := box_cell gC 0
        simp at z0 zr
        obtain ⟨blk2, off2, capA2, pa2, ea2, ra2, hv2, ca2, rda2, -⟩ := (HRow.out X1 bw1).row hja
        have hp2 := (Value.slice.inj hv2).1
        simp at hp2
        obtain ⟨rfl, rfl⟩ := hp2
        obtain ⟨oa2, hpa2, hca2⟩ : ∃ o, pa2 = some ⟨ra2, o, none⟩ ∧ X1.cell? ⟨ra2, o + mi, none⟩ = some (.int .i64 D.hands[ja][mi]) := by
          obtain ⟨a', cap', e', -, -, hq⟩ := rda2
          rcases hq with hq | ⟨o, ho, hc⟩
          · rw [hq] at hmi; simp at hmi
          · exact ⟨o, ((Value.slice.inj e').1).trans ho, hc mi hmi⟩
        subst hpa2
        have hjb1 : jb < (D.hands.set ja (D.hands[ja].set mi xb)).length := by rw [List.length_set]; exact hjb
        have eb : (D.hands.set ja (D.hands[ja].set mi xb))[jb] = D.hands[jb] := List.getElem_set_ne he _
        have hmk1 : mk < ((D.hands.set ja (D.hands[ja].set mi xb))[jb]).length := by rw [eb]; exact hmk
        have hln1 : D.hands.length = (D.hands.set ja (D.hands[ja].set mi xb)).length := by rw [List.length_set]
        have HXo := HX1.out
        obtain ⟨gg, bb, ob, db, eqg, sbb, ngb, kb, -, -, -, -⟩ := OwnDeal.setAt (D := { D with hands := D.hands.set ja (D.hands[ja].set mi xb) }) HXo hln1 hjb1 (i := mk) hmk1 (x := D.hands[ja][mi]) wa
        obtain rfl : g = gg := by simpa using eqg
        clear eqg
        have kb1 : X1.cell? ⟨g, jb, none⟩ = some (.slice (some ⟨bb, ob, none⟩) lb db) := by rw [kb, hlb]; show some (Value.slice _ ((D.hands.set ja (D.hands[ja].set mi xb))[jb]).length db) = _; rw [eb]
        have HC6 : Hid (∀ wx, Below X1.heap.size X1 wx → wx.cell? ⟨w.heap.size, 0, none⟩ = some (.slice (some ⟨blk, off, none⟩) n c0) ∧ wx.cell? ⟨w1.heap.size, 0, none⟩ = some (.slice (some ⟨g, 0, none⟩) n d0) ∧ wx.cell? ⟨g, jb, none⟩ = some (.slice (some ⟨bb, ob, none⟩) lb db) ∧ wx.cell? ⟨blk, off + ja, none⟩ = some (.slice (some ⟨ra2, oa2, none⟩) la ea2) ∧ wx.cell? ⟨ra2, oa2 + mi, none⟩ = some (.int .i64 xa)) := Lib.hid (fun wx hb => by
          rw [hn, hxa, hla]
          refine ⟨?_, ?_, ?_, ?_, ?_⟩
          · exact (hb.cell (World.block_lt_of_cell? _ _ z0)).trans z0
          · exact (hb.cell (World.block_lt_of_cell? _ _ zr)).trans zr
          · exact (hb.cell (World.block_lt_of_cell? _ _ kb1)).trans kb1
          · exact (hb.cell (World.block_lt_of_cell? _ _ ca2)).trans ca2
          · exact (hb.cell (World.block_lt_of_cell? _ _ hca2)).trans hca2)
        have HB6 := Lib.hid (And.intro gB (And.intro gC bw1))
        have Hj6 := Lib.hid (And.intro hmk1 (And.intro hln1 eb))
        have mk0 : mk < lb := by rw [hlb]; exact hmk
        clear hn hxa hxb hla hlb z0 zr ca2 rda2 hv2 hca2 wa wb he HXo kb kb1 sbb ngb eb hmk1 hln1 gA gB gC bw1 BX hmk0
        go_upto_region 6 with fail
        refine wp_region_table [(0, some 81, .is (.pointer (some ⟨w1.heap.size, 0, none⟩))), (1, some 82, .is (.slice (some ⟨g, 0, none⟩) n d0)), (2, some 83, .is (.int .i64 (jb : Int))), (3, some 84, .is (.pointer (some ⟨g, jb, none⟩))), (4, some 85, .is (.slice (some ⟨bb, ob, none⟩) lb db)), (5, some 86, .is (.int .i64 (mk : Int))), (6, some 87, .is (.pointer (some ⟨w.heap.size, 0, none⟩))), (7, some 88, .is (.slice (some ⟨blk, off, none⟩) n c0)), (8, some 89, .is (.int .i64 (ja : Int))), (9, some 90, .is (.pointer (some ⟨blk, off + ja, none⟩))), (10, some 91, .is (.slice (some ⟨ra2, oa2, none⟩) la ea2)), (11, some 92, .is (.int .i64 (mi : Int))), (12, some 93, .is (.pointer (some ⟨ra2, oa2 + mi, none⟩))), (13, some 94, .is (.int .i64 xa))] 2 (by kernel_rfl) (by kernel_rfl) (by kernel_rfl) (by kernel_rfl) (by kernel_rfl) (L := #[true, true, true, true, true, true, true, true, true, true, true, true, true, true, false, false]) (by kernel_rfl) ?steps ?fin
        case steps =>
          refine StepsT.cons [] (by simp only [List.getElem?_toArray, List.getElem?_cons_succ, List.getElem?_cons_zero]; rfl) (by kernel_rfl) (by rfl) (fun wx val iv hB hV K hK => ?_) ?_
          · clear hV; simp only [putT, List.foldl_cons, List.foldl_nil, Made.val, Act.put, List.setIfInBounds_toArray, List.set_cons_zero, List.set_cons_succ]; go_simp; exact hK.out _ _ rfl (Below.refl _ _)
          refine StepsT.cons [(0, some 81, .is (.pointer (some ⟨w1.heap.size, 0, none⟩)))] (by simp only [List.getElem?_toArray, List.getElem?_cons_succ, List.getElem?_cons_zero]; rfl) (by kernel_rfl) (by rfl) (fun wx val iv hB hV K hK => ?_) ?_
          · (obtain ⟨k0, k1, k2, k3, k4⟩ := HC6.out wx hB); clear hV; simp only [putT, List.foldl_cons, List.foldl_nil, Made.val, Act.put, List.setIfInBounds_toArray, List.set_cons_zero, List.set_cons_succ]; go_simp; exact hK.out _ _ rfl (Below.refl _ _)
          refine StepsT.cons [] (by simp only [List.getElem?_toArray, List.getElem?_cons_succ, List.getElem?_cons_zero]; rfl) (by kernel_rfl) (by rfl) (fun wx val iv hB hV K hK => ?_) ?_
          · clear hV; simp only [putT, List.foldl_cons, List.foldl_nil, Made.val, Act.put, List.setIfInBounds_toArray, List.set_cons_zero, List.set_cons_succ]; go_simp; exact hK.out _ _ rfl (Below.refl _ _)
          refine StepsT.cons [(1, some 82, .is (.slice (some ⟨g, 0, none⟩) n d0)), (2, some 83, .is (.int .i64 (jb : Int)))] (by simp only [List.getElem?_toArray, List.getElem?_cons_succ, List.getElem?_cons_zero]; rfl) (by kernel_rfl) (by rfl) (fun wx val iv hB hV K hK => ?_) ?_
          · (obtain ⟨k0, k1, k2, k3, k4⟩ := HC6.out wx hB); clear hV; simp only [putT, List.foldl_cons, List.foldl_nil, Made.val, Act.put, List.setIfInBounds_toArray, List.set_cons_zero, List.set_cons_succ]; go_simp; exact hK.out _ _ rfl (Below.refl _ _)
          refine StepsT.cons [(3, some 84, .is (.pointer (some ⟨g, jb, none⟩)))] (by simp only [List.getElem?_toArray, List.getElem?_cons_succ, List.getElem?_cons_zero]; rfl) (by kernel_rfl) (by rfl) (fun wx val iv hB hV K hK => ?_) ?_
          · (obtain ⟨k0, k1, k2, k3, k4⟩ := HC6.out wx hB); clear hV; simp only [putT, List.foldl_cons, List.foldl_nil, Made.val, Act.put, List.setIfInBounds_toArray, List.set_cons_zero, List.set_cons_succ]; go_simp; exact hK.out _ _ rfl (Below.refl _ _)
          refine StepsT.cons [] (by simp only [List.getElem?_toArray, List.getElem?_cons_succ, List.getElem?_cons_zero]; rfl) (by kernel_rfl) (by rfl) (fun wx val iv hB hV K hK => ?_) ?_
          · clear hV; simp only [putT, List.foldl_cons, List.foldl_nil, Made.val, Act.put, List.setIfInBounds_toArray, List.set_cons_zero, List.set_cons_succ]; go_simp; exact hK.out _ _ rfl (Below.refl _ _)
          refine StepsT.cons [] (by simp only [List.getElem?_toArray, List.getElem?_cons_succ, List.getElem?_cons_zero]; rfl) (by kernel_rfl) (by rfl) (fun wx val iv hB hV K hK => ?_) ?_
          · clear hV; simp only [putT, List.foldl_cons, List.foldl_nil, Made.val, Act.put, List.setIfInBounds_toArray, List.set_cons_zero, List.set_cons_succ]; go_simp; exact hK.out _ _ rfl (Below.refl _ _)
          refine StepsT.cons [(6, some 87, .is (.pointer (some ⟨w.heap.size, 0, none⟩)))] (by simp only [List.getElem?_toArray, List.getElem?_cons_succ, List.getElem?_cons_zero]; rfl) (by kernel_rfl) (by rfl) (fun wx val iv hB hV K hK => ?_) ?_
          · (obtain ⟨k0, k1, k2, k3, k4⟩ := HC6.out wx hB); clear hV; simp only [putT, List.foldl_cons, List.foldl_nil, Made.val, Act.put, List.setIfInBounds_toArray, List.set_cons_zero, List.set_cons_succ]; go_simp; exact hK.out _ _ rfl (Below.refl _ _)
          refine StepsT.cons [] (by simp only [List.getElem?_toArray, List.getElem?_cons_succ, List.getElem?_cons_zero]; rfl) (by kernel_rfl) (by rfl) (fun wx val iv hB hV K hK => ?_) ?_
          · clear hV; simp only [putT, List.foldl_cons, List.foldl_nil, Made.val, Act.put, List.setIfInBounds_toArray, List.set_cons_zero, List.set_cons_succ]; go_simp; exact hK.out _ _ rfl (Below.refl _ _)
          refine StepsT.cons [(7, some 88, .is (.slice (some ⟨blk, off, none⟩) n c0)), (8, some 89, .is (.int .i64 (ja : Int)))] (by simp only [List.getElem?_toArray, List.getElem?_cons_succ, List.getElem?_cons_zero]; rfl) (by kernel_rfl) (by rfl) (fun wx val iv hB hV K hK => ?_) ?_
          · (obtain ⟨k0, k1, k2, k3, k4⟩ := HC6.out wx hB); clear hV; simp only [putT, List.foldl_cons, List.foldl_nil, Made.val, Act.put, List.setIfInBounds_toArray, List.set_cons_zero, List.set_cons_succ]; go_simp; exact hK.out _ _ rfl (Below.refl _ _)
          refine StepsT.cons [(9, some 90, .is (.pointer (some ⟨blk, off + ja, none⟩)))] (by simp only [List.getElem?_toArray, List.getElem?_cons_succ, List.getElem?_cons_zero]; rfl) (by kernel_rfl) (by rfl) (fun wx val iv hB hV K hK => ?_) ?_
          · (obtain ⟨k0, k1, k2, k3, k4⟩ := HC6.out wx hB); clear hV; simp only [putT, List.foldl_cons, List.foldl_nil, Made.val, Act.put, List.setIfInBounds_toArray, List.set_cons_zero, List.set_cons_succ]; go_simp; exact hK.out _ _ rfl (Below.refl _ _)
          refine StepsT.cons [] (by simp only [List.getElem?_toArray, List.getElem?_cons_succ, List.getElem?_cons_zero]; rfl) (by kernel_rfl) (by rfl) (fun wx val iv hB hV K hK => ?_) ?_
          · clear hV; simp only [putT, List.foldl_cons, List.foldl_nil, Made.val, Act.put, List.setIfInBounds_toArray, List.set_cons_zero, List.set_cons_succ]; go_simp; exact hK.out _ _ rfl (Below.refl _ _)
          refine StepsT.cons [(10, some 91, .is (.slice (some ⟨ra2, oa2, none⟩) la ea2)), (11, some 92, .is (.int .i64 (mi : Int)))] (by simp only [List.getElem?_toArray, List.getElem?_cons_succ, List.getElem?_cons_zero]; rfl) (by kernel_rfl) (by rfl) (fun wx val iv hB hV K hK => ?_) ?_
          · (obtain ⟨k0, k1, k2, k3, k4⟩ := HC6.out wx hB); clear hV; simp only [putT, List.foldl_cons, List.foldl_nil, Made.val, Act.put, List.setIfInBounds_toArray, List.set_cons_zero, List.set_cons_succ]; go_simp; exact hK.out _ _ rfl (Below.refl _ _)
          refine StepsT.cons [(12, some 93, .is (.pointer (some ⟨ra2, oa2 + mi, none⟩)))] (by simp only [List.getElem?_toArray, List.getElem?_cons_succ, List.getElem?_cons_zero]; rfl) (by kernel_rfl) (by rfl) (fun wx val iv hB hV K hK => ?_) ?_
          · (obtain ⟨k0, k1, k2, k3, k4⟩ := HC6.out wx hB); clear hV; simp only [putT, List.foldl_cons, List.foldl_nil, Made.val, Act.put, List.setIfInBounds_toArray, List.set_cons_zero, List.set_cons_succ]; go_simp; exact hK.out _ _ rfl (Below.refl _ _)
          exact StepsT.nil
        case fin =>
          intro wx val iv BX hV hD
          have owx := HX1.out.below BX
          obtain ⟨hmk1, hln1, eb⟩ := Hj6.out
          obtain ⟨wa, wb⟩ := Hw.out
          obtain ⟨hn, hxa, hxb, hla, hlb⟩ := Hx.out
          obtain ⟨k0, k1, k2, k3, k4⟩ := HC6.out wx BX
          obtain ⟨g', bb', ob1, db1, eq1, sbb, ngb, kb, xb', fzb, -, own2⟩ := OwnDeal.setAt (D := { D with hands := D.hands.set ja (D.hands[ja].set mi xb) }) owx hln1 hjb1 (i := mk) hmk1 (x := D.hands[ja][mi]) wa
          obtain rfl : g = g' := by simpa using eq1
          clear eq1
          have e1 := Option.some.inj (kb.symm.trans k2)
          obtain ⟨rfl, rfl⟩ : bb' = bb ∧ ob1 = ob := by have := (Value.slice.inj e1).1; simp at this; exact this
          have own3 : OwnDeal (In W0.heap.size w1.heap.size) (wx.setCell ⟨bb', ob1 + mk, none⟩ (.int .i64 xa)) (.agg #[.slice (some ⟨g, 0, none⟩) D.hands.length d0, .int .i64 D.leader, .int .i64 D.trump, .slice q3 D.trick.length d3, .slice q4 D.won.length d4, .slice q5 D.points.length d5, .int .i64 D.left]) (swapD D ja jb mi mk) := by
            rw [HE.out, hxa, ← hxb]; simp only [eb] at own2; exact own2
          have HX2 := Lib.hid own3
          have Hsb2 := Lib.hid sbb
          have xb2 : wx.cell? ⟨bb', ob1 + mk, none⟩ = some (.int .i64 xb) := xb'.trans (congrArg (fun z => some (Value.int .i64 z)) ((show (D.hands.set ja (D.hands[ja].set mi xb))[jb][mk] = D.hands[jb][mk] by simp only [eb]).trans hxb.symm))
          clear e1 kb owx own2 own3 wa wb hn hxa hxb hla hlb hV hD k0 k1 k2 k3 k4 ngb sbb hmk1 hln1 eb xb'
          simp only [putT, List.foldl_cons, List.foldl_nil, Made.val, Act.put, List.setIfInBounds_toArray, List.set_cons_zero, List.set_cons_succ]
          refine wpAny_one (i := 14) (by kernel_rfl) (by simp only [List.getElem?_toArray, List.getElem?_cons_succ, List.getElem?_cons_zero]; rfl) (fun K hK => ?_)
          go_simp
          refine hK.out _ _ ?_
          clear hK K
          refine wpAny_one (i := 15) (by kernel_rfl) (by simp only [List.getElem?_toArray, List.getElem?_cons_succ, List.getElem?_cons_zero]; rfl) (fun K hK => ?_)
          go_simp
          refine hK.out _ _ ?_
          clear hK K xb2 fzb
          refine wpAny_end (by kernel_rfl) ?_
          obtain ⟨X2, hX2⟩ : ∃ W, W = wx.setCell ⟨bb', ob1 + mk, none⟩ (.int .i64 xa) := ⟨_, rfl⟩
          rw [← hX2] at HX2 ⊢
          obtain ⟨gB, gC, bw1⟩ := HB6.out
          have sb := Hsb2.out
          have g1 : X2.heap[w.heap.size + 1]? = some (.cells #[.slice none 0 0, .int .i64 0, .int .i64 0, .slice none 0 0, .slice none 0 0, .slice none 0 0, .int .i64 0] 31 (0, 0)) := by
            rw [hX2, Below.heap_setCell _ _ _ _ (show w.heap.size + 1 ≠ bb' by have := sb.1; have := Hsz.out; omega), BX.block _ (Array.getElem?_eq_some_iff.1 gB).1]; exact gB
          have gr : X2.heap[w1.heap.size]? = some (.cells #[.slice (some ⟨g, 0, none⟩) D.hands.length d0, .int .i64 D.leader, .int .i64 D.trump, .slice q3 D.trick.length d3, .slice q4 D.won.length d4, .slice q5 D.points.length d5, .int .i64 D.left] 31 (0, 0)) := by
            rw [hX2, Below.heap_setCell _ _ _ _ (show w1.heap.size ≠ bb' by have := sb.2; omega), BX.block _ (Array.getElem?_eq_some_iff.1 gC).1]; exact gC
          have bw : Below w.heap.size w X2 := by
            rw [hX2]
            exact (bw1.trans (BX.mono bw1.size)).setCell (show w.heap.size ≤ bb' by have := sb.1; have := Hsz.out; omega) _
          have ow := HX2.out
          clear hX2 gB gC bw1 sb BX
          have N := Lib.hid (And.intro (setRow_heap X2 (w.heap.size + 1) _ #[.slice (some ⟨g, 0, none⟩) D.hands.length d0, .int .i64 D.leader, .int .i64 D.trump, .slice q3 D.trick.length d3, .slice q4 D.won.length d4, .slice q5 D.points.length d5, .int .i64 D.left] _ _ g1) (below_setRow bw (Nat.le_succ _) #[.slice (some ⟨g, 0, none⟩) D.hands.length d0, .int .i64 D.leader, .int .i64 D.trump, .slice q3 D.trick.length d3, .slice q4 D.won.length d4, .slice q5 D.points.length d5, .int .i64 D.left]))
          have O := Lib.hid (ow.touch (touchRow X2 (w.heap.size + 1) #[.slice (some ⟨g, 0, none⟩) D.hands.length d0, .int .i64 D.leader, .int .i64 D.trump, .slice q3 D.trick.length d3, .slice q4 D.won.length d4, .slice q5 D.points.length d5, .int .i64 D.left]) (fun y hy e => by have := hy.1; have := Hsz.out; omega))
          have hsR : Hid (w1.heap.size ≤ (X2.setRow (w.heap.size + 1) #[.slice (some ⟨g, 0, none⟩) D.hands.length d0, .int .i64 D.leader, .int .i64 D.trump, .slice q3 D.trick.length d3, .slice q4 D.won.length d4, .slice q5 D.points.length d5, .int .i64 D.left]).heap.size) := Lib.hid (by have := (Array.getElem?_eq_some_iff.1 gr).1; simp [World.setRow]; omega)
          clear bw ow
          go_upto_region 7 with fail
          refine wp_region_lit ?_
          refine wpList_load_row rfl 31 _ rfl w1.heap.size rfl 31 _ _ _ gr Tryd.underlying31 rfl (by kernel_rfl) ?_
          clear gr
          refine wpList_store_row rfl 31 _ _ rfl (w.heap.size + 1) #[.slice (some ⟨g, 0, none⟩) D.hands.length d0, .int .i64 D.leader, .int .i64 D.trump, .slice q3 D.trick.length d3, .slice q4 D.won.length d4, .slice q5 D.points.length d5, .int .i64 D.left] rfl rfl 31 _ g1 (by kernel_rfl) rfl (by simp [Value.oneCell']) ?_
          clear g1
          go_wp2_with fail
          refine bodyPost_ret (results_row_tmp rfl _ _ (w.heap.size + 1) _ _ _ _ rfl N.out.1 Tryd.underlying31 rfl (by kernel_rfl)) rfl ?_
          rw [HOK.out]
          exact ⟨_, rfl, (O.out.mono (fun y hy => ⟨by have := hy.1; have := Hsz.out; omega, by have := hy.2; have := hsR.out; omega⟩)).wr, N.out.2⟩

    · have hok : swapOK D a b i k = false := by unfold swapOK hasAt; rw [decide_eq_false ha]; simp
      have HOK := Lib.hid hok
      have HE := Lib.hid (swap_no' hok)
      have HJ := Lib.hid (fun wx => inM_any a 0 ((D.hands.length : Int) - 1) wx false (decide_eq_false ha).symm)
      obtain ⟨g0, g1, gr, bw, ow⟩ := HGX.out w2 B2
      clear hd hok g0 B2 ha
      go_wp2_with fail
      refine (HJ.out _).mono ?_
      rintro e _w ⟨rfl, rfl⟩
      have N := Lib.hid (And.intro (setRow_heap w2 (w.heap.size + 1) _ #[.slice q0 D.hands.length d0, .int .i64 D.leader, .int .i64 D.trump, .slice q3 D.trick.length d3, .slice q4 D.won.length d4, .slice q5 D.points.length d5, .int .i64 D.left] _ _ g1) (below_setRow bw (Nat.le_succ _) #[.slice q0 D.hands.length d0, .int .i64 D.leader, .int .i64 D.trump, .slice q3 D.trick.length d3, .slice q4 D.won.length d4, .slice q5 D.points.length d5, .int .i64 D.left]))
      have O := Lib.hid (ow.touch (touchRow w2 (w.heap.size + 1) #[.slice q0 D.hands.length d0, .int .i64 D.leader, .int .i64 D.trump, .slice q3 D.trick.length d3, .slice q4 D.won.length d4, .slice q5 D.points.length d5, .int .i64 D.left]) (fun y hy e => by have := hy.1; have := Hsz.out; omega))
      have hsR : Hid (w1.heap.size ≤ (w2.setRow (w.heap.size + 1) #[.slice q0 D.hands.length d0, .int .i64 D.leader, .int .i64 D.trump, .slice q3 D.trick.length d3, .slice q4 D.won.length d4, .slice q5 D.points.length d5, .int .i64 D.left]).heap.size) := Lib.hid (by have := (Array.getElem?_eq_some_iff.1 gr).1; simp [World.setRow]; omega)
      clear bw ow
      go_upto_region 4 with fail
      refine wp_region_lit ?_
      refine wpList_load_row rfl 31 _ rfl w1.heap.size rfl 31 _ _ _ gr Tryd.underlying31 rfl (by kernel_rfl) ?_
      clear gr
      refine wpList_store_row rfl 31 _ _ rfl (w.heap.size + 1) #[.slice q0 D.hands.length d0, .int .i64 D.leader, .int .i64 D.trump, .slice q3 D.trick.length d3, .slice q4 D.won.length d4, .slice q5 D.points.length d5, .int .i64 D.left] rfl rfl 31 _ g1 (by kernel_rfl) rfl (by simp [Value.oneCell']) ?_
      clear g1
      go_wp2_with fail
      refine bodyPost_ret (results_row_tmp rfl _ _ (w.heap.size + 1) _ _ _ _ rfl N.out.1 Tryd.underlying31 rfl (by kernel_rfl)) rfl ?_
      rw [HOK.out, HE.out]
      exact ⟨_, rfl, (O.out.mono (fun y hy => ⟨by have := hy.1; have := Hsz.out; omega, by have := hy.2; have := hsR.out; omega⟩)).wr, N.out.2⟩
end Go.Proofs.YtbojhbhniollaaaDoor
