/-
  IsDeal, the program's side.
-/
import Derived.Test.YtbojhbhniollaaaDoorLeft
import Derived.Test.YtbojhbhniollaaaDoorCatR
import Derived.Test.YtbojhbhniollaaaDoorApart
namespace Go.Proofs.YtbojhbhniollaaaDoor
open Go.RowKit

def shape1 (D : MDeal) : Prop := (2 ≤ (D.hands.length : Int) ∧ (D.hands.length : Int) ≤ 4) ∧ D.won.length = D.hands.length ∧ D.points.length = D.hands.length
def shape2 (D : MDeal) : Prop := (0 ≤ D.leader ∧ D.leader ≤ (D.hands.length : Int) - 1) ∧ (-1 ≤ D.trump ∧ D.trump ≤ 3) ∧ (0 ≤ D.left ∧ D.left ≤ 26) ∧ D.trick.length < D.hands.length
instance (D : MDeal) : Decidable (shape1 D) := by unfold shape1; infer_instance
instance (D : MDeal) : Decidable (shape2 D) := by unfold shape2; infer_instance
def isDeal (D : MDeal) : Bool := decide (shape1 D) && decide (shape2 D) && apart (D.hands ++ [D.trick]) && leftOK D
theorem isDeal_no1 {D : MDeal} (h : ¬ shape1 D) : isDeal D = false := by unfold isDeal; rw [decide_eq_false h]; rfl
theorem isDeal_no2 {D : MDeal} (h : ¬ shape2 D) : isDeal D = false := by unfold isDeal; rw [decide_eq_false h, Bool.and_false]; rfl
theorem isDeal_no3 {D : MDeal} (h : apart (D.hands ++ [D.trick]) = false) : isDeal D = false := by unfold isDeal; rw [h, Bool.and_false]; rfl
theorem isDeal_yes {D : MDeal} (h1 : shape1 D) (h2 : shape2 D) (h3 : apart (D.hands ++ [D.trick]) = true) : isDeal D = leftOK D := by unfold isDeal; rw [decide_eq_true h1, decide_eq_true h2, h3]; rfl

/-- The rows of a slice of slices as values. -/
theorem RdRows.vals {w : World} {v : Value} {zss : List (List Int)} (h : RdRows .i64 w v zss) : ∃ us : List Value, us.length = zss.length ∧ RdVals w v us ∧ (∀ u ∈ us, u.oneCell' = true) ∧ ∀ j (hj : j < zss.length), ∃ (r : Value) (b : Nat), us[j]? = some r ∧ RdAt .i64 w r zss[j] b := by
  obtain ⟨a, cap, rfl, hc, h3⟩ := h
  rcases h3 with rfl | ⟨blk, off, rfl, h5⟩
  · exact ⟨[], rfl, ⟨a, cap, rfl, hc, .inl rfl⟩, by simp, fun j hj => by simp at hj⟩
  · obtain ⟨us, hus⟩ : ∃ us, us = (List.range zss.length).map (fun j => (w.cell? ⟨blk, off + j, none⟩).getD undef) := ⟨_, rfl⟩
    have hl : us.length = zss.length := by rw [hus]; simp
    have hg : ∀ j (hj : j < us.length), w.cell? ⟨blk, off + j, none⟩ = some us[j] := by
      intro j hj
      obtain ⟨r, b, hc', -⟩ := h5 j (by omega)
      simp only [hus, List.getElem_map, List.getElem_range, hc']; rfl
    refine ⟨us, hl, ⟨_, cap, by rw [hl], by rw [hl]; exact hc, .inr ⟨blk, off, rfl, hg⟩⟩, ?_, fun j hj => ?_⟩
    · intro u hu
      obtain ⟨j, hj, rfl⟩ := List.getElem_of_mem hu
      obtain ⟨r, b, hc', p, c, e, -⟩ := h5 j (by omega)
      have := (hg j hj).symm.trans hc'
      rw [Option.some.inj this, e]; rfl
    · obtain ⟨r, b, hc', hr⟩ := h5 j hj
      refine ⟨r, b, ?_, hr⟩
      rw [List.getElem?_eq_getElem (by omega)]
      exact (hg j (by omega)).symm.trans hc'
theorem rows_of_own {w : World} {B : Nat} {E : TypeId} {v : Value} {us : List Value} {zss : List (List Int)} (h : w.ownsRow B E 1 v zss.length us) (hr : ∀ j (hj : j < zss.length), ∃ (r : Value) (b : Nat), us[j]? = some r ∧ RdAt .i64 w r zss[j] b) : RdRows .i64 w v zss := by
  rcases h.2 with ⟨rfl, h0⟩ | ⟨g, cap, cur, rfl, -, hh, hnc, hcm, -, htk⟩
  · obtain rfl := List.length_eq_zero_iff.1 h0
    exact ⟨none, 0, rfl, ⟨Nat.le_refl _, Nat.zero_le _, fun _ => rfl⟩, .inl rfl⟩
  · refine ⟨_, cap, rfl, ⟨hnc, hcm, fun e => by cases e⟩, .inr ⟨g, 0, rfl, fun j hj => ?_⟩⟩
    obtain ⟨r, b, h1, h2⟩ := hr j hj
    refine ⟨r, b, ?_, h2⟩
    rw [← htk, List.getElem?_take_of_lt (by omega), Array.getElem?_toList] at h1
    rw [Nat.zero_add]
    simp only [World.cell?, hh]; exact h1

set_option linter.unusedVariables false in
set_option maxRecDepth 100000 in
set_option maxHeartbeats 2000000 in
theorem isDeal_any (a0 a1 : Addr) (v : Value) (D : MDeal) (w : World) (h : RdDeal w v D) (hf : D.Few) (hS : Sent a0 a1 w) (r : Bool) (hr : isDeal D = r) :
    Calls Tryd.prog 37 #[v] w fun e w' => e = .returned (.bool r) ∧ Below w.heap.size w w' := by
  have hD := h
  obtain ⟨v0, v3, v4, v5, b3, b4, b5, rfl, h0, h3, h4, h5, wf1, wf2, wf6⟩ := h
  obtain ⟨p0, c0, e0, -⟩ := id h0
  obtain ⟨p3, c3, e3, -⟩ := id h3
  obtain ⟨p4, c4, e4, -⟩ := id h4
  obtain ⟨p5, c5, e5, -⟩ := id h5
  subst e0 e3 e4 e5
  have Hr := Lib.hid hr
  have B0 := fun o => (Below.refl w.heap.size w).alloc (Nat.le_refl _) o
  have HD := Lib.hid hD
  have HS := Lib.hid hS
  have H0 := Lib.hid h0
  have H3 := Lib.hid h3
  have bl := bounds_i64 wf1
  have bt := bounds_i64 wf2
  have be := bounds_i64 wf6
  have Hf := Lib.hid hf
  obtain ⟨f0, fs0, f3, f4, f5⟩ := hf
  have Hno1 := Lib.hid (isDeal_no1 (D := D))
  have Hno2 := Lib.hid (isDeal_no2 (D := D))
  unfold shape1 at Hno1
  unfold shape2 at Hno2
  obtain ⟨n, hn⟩ : ∃ n, D.hands.length = n := ⟨_, rfl⟩
  obtain ⟨m, hm⟩ : ∃ m, D.trick.length = m := ⟨_, rfl⟩
  obtain ⟨nw, hnw⟩ : ∃ nw, D.won.length = nw := ⟨_, rfl⟩
  obtain ⟨np, hnp⟩ : ∃ np, D.points.length = np := ⟨_, rfl⟩
  obtain ⟨l, hl⟩ : ∃ l, D.leader = l := ⟨_, rfl⟩
  obtain ⟨t, ht⟩ : ∃ t, D.trump = t := ⟨_, rfl⟩
  obtain ⟨L, hL⟩ : ∃ L, D.left = L := ⟨_, rfl⟩
  have Hn := Lib.hid hn
  have Hm := Lib.hid hm
  have Hw := Lib.hid hnw
  have Hp := Lib.hid hnp
  have Hl := Lib.hid hl
  have Ht := Lib.hid ht
  have HL := Lib.hid hL
  rw [hn, hm, hl, ht, hL] at Hno2
  rw [hn, hnw, hnp] at Hno1
  rw [hn, hm, hnw, hnp, hl, ht, hL] at HD
  rw [hn] at f0 H0
  rw [hm] at f3 H3
  rw [hnw] at f4
  rw [hnp] at f5
  rw [hl] at bl
  rw [ht] at bt
  rw [hL] at be
  rw [hn, hm, hnw, hnp, hl, ht, hL]
  clear hD h0 h3 h4 h5 wf1 wf2 wf6 hn hm hnw hnp hl ht hL hS hr
  have hw1 : IntKind.i64.wrap ((n : Int) - 1) = (n : Int) - 1 := IntWalk.i64_in _ (by omega)
  have HN1 := Lib.hid (fun wx => inR_any (n : Int) 2 4 wx _ rfl)
  have HN2 := Lib.hid (fun wx => inR_any l 0 ((n : Int) - 1) wx _ rfl)
  have HN3 := Lib.hid (fun wx => inR_any t (-1) 3 wx _ rfl)
  have HN4 := Lib.hid (fun wx => inR_any L 0 26 wx _ rfl)
  by_cases g1 : 2 ≤ (n : Int) ∧ (n : Int) ≤ 4
  · rw [decide_eq_true g1] at HN1
    have g1a := g1.1
    have g1b := g1.2
    by_cases g2 : nw = n
    · subst g2
      by_cases g3 : np = nw
      · subst g3
        by_cases g4 : 0 ≤ l ∧ l ≤ (np : Int) - 1
        · rw [decide_eq_true g4] at HN2
          by_cases g5 : -1 ≤ t ∧ t ≤ 3
          · rw [decide_eq_true g5] at HN3
            by_cases g6 : 0 ≤ L ∧ L ≤ 26
            · rw [decide_eq_true g6] at HN4
              by_cases g7 : m < np
              · have g7a : ¬ (np : Int) ≤ (m : Int) := by omega
                have hu := RdRows.vals H0.out
                obtain ⟨us, hul, hv0, hone, hrows⟩ := hu
                obtain ⟨W0, hW0⟩ : ∃ W0, w.alloc (.cells #[.slice p0 np c0, .int .i64 l, .int .i64 t, .slice p3 m c3, .slice p4 np c4, .slice p5 np c5, .int .i64 L] 31) = W0 := ⟨_, rfl⟩
                have hb0 : W0.heap[w.heap.size]? = some (.cells #[.slice p0 np c0, .int .i64 l, .int .i64 t, .slice p3 m c3, .slice p4 np c4, .slice p5 np c5, .int .i64 L] 31 (0, 0)) := by rw [← hW0]; exact heap_alloc_new w _
                have hz0 : W0.heap.size = w.heap.size + 1 := by rw [← hW0]; simp
                obtain ⟨W1, hW1⟩ : ∃ W1, W0.alloc (.cells #[.slice p3 m c3] 23) = W1 := ⟨_, rfl⟩
                have hb1 : W1.heap[w.heap.size + 1]? = some (.cells #[.slice p3 m c3] 23 (0, 0)) := by rw [← hW1, ← hz0]; exact heap_alloc_new W0 _
                have hB1 : Below W0.heap.size W0 W1 := by rw [← hW1]; exact (Below.refl _ _).alloc (Nat.le_refl _) _
                have hz1 : W1.heap.size = w.heap.size + 1 + 1 := by rw [← hW1]; simp [hz0]
                obtain ⟨W2, hW2⟩ : ∃ W2, W1.alloc (.cells #[.slice p0 np c0, .slice (some ⟨w.heap.size + 1, 0, none⟩) 1 1] 22) = W2 := ⟨_, rfl⟩
                have hb2 : W2.heap[w.heap.size + 1 + 1]? = some (.cells #[.slice p0 np c0, .slice (some ⟨w.heap.size + 1, 0, none⟩) 1 1] 22 (0, 0)) := by rw [← hW2, ← hz1]; exact heap_alloc_new W1 _
                have hB2 : Below W1.heap.size W1 W2 := by rw [← hW2]; exact (Below.refl _ _).alloc (Nat.le_refl _) _
                have hBw0 : Below w.heap.size w W0 := by rw [← hW0]; exact B0 _
                have hBw2 : Below w.heap.size w W2 := hBw0.trans ((hB1.mono (by omega)).trans (hB2.mono (by omega)))
                have hb0' : W2.heap[w.heap.size]? = some (.cells #[.slice p0 np c0, .int .i64 l, .int .i64 t, .slice p3 m c3, .slice p4 np c4, .slice p5 np c5, .int .i64 L] 31 (0, 0)) := by rw [hB2.block _ (by omega), hB1.block _ (by omega)]; exact hb0
                have hb1' : W2.heap[w.heap.size + 1]? = some (.cells #[.slice p3 m c3] 23 (0, 0)) := by rw [hB2.block _ (by omega)]; exact hb1
                have q0 : W2.cell? ⟨w.heap.size + 1 + 1, 0, none⟩ = some (.slice p0 np c0) := by simp [World.cell?, hb2]
                have q1 : W2.cell? ⟨w.heap.size + 1 + 1, 0 + 1, none⟩ = some (.slice (some ⟨w.heap.size + 1, 0, none⟩) 1 1) := by simp [World.cell?, hb2]
                have q2 : W2.cell? ⟨w.heap.size + 1, 0, none⟩ = some (.slice p3 m c3) := by simp [World.cell?, hb1']
                have hvb : RdVals W2 (.slice (some ⟨w.heap.size + 1, 0, none⟩) 1 1) [.slice p3 m c3] := ⟨_, 1, rfl, ⟨Nat.le_refl _, by unfold maxLen; decide, fun e => by cases e⟩, .inr ⟨_, 0, rfl, fun j hj => by
                  have hj0 : j = 0 := by simp at hj; exact hj
                  subst hj0; exact q2⟩⟩
                have HC := Lib.hid (catR_any _ _ us [.slice p3 m c3] (w.heap.size + 1 + 1) 0 2 W2 (hv0.below hBw2) hvb q0 q1 (Nat.le_refl _) (by rw [hul, Hn.out]; omega) (by simp) hone (by intro u hu; simp at hu; subst hu; rfl))
                have HRR : Hid (∀ W v', Below w.heap.size w W → W.ownsRow W2.heap.size 23 1 v' (us.length + [Value.slice p3 m c3].length) (us ++ [.slice p3 m c3]) → RdRows .i64 W v' (D.hands ++ [D.trick])) := Lib.hid (fun W v' hW ho => by
                  refine rows_of_own (us := us ++ [.slice p3 m c3]) (B := W2.heap.size) (E := 23) (by rw [List.length_append, ← hul]; exact ho) (fun j hj => ?_)
                  by_cases hjl : j < D.hands.length
                  · obtain ⟨r, b, h1, h2⟩ := hrows j hjl
                    refine ⟨r, b, by rw [List.getElem?_append_left (by omega)]; exact h1, ?_⟩
                    rw [List.getElem_append_left hjl]; exact h2.below hW
                  · have hje : j = D.hands.length := by rw [List.length_append] at hj; simp at hj; omega
                    subst hje
                    refine ⟨.slice p3 m c3, b3, by rw [List.getElem?_append_right (by omega), hul]; simp, ?_⟩
                    rw [List.getElem_append_right (by omega)]
                    simp only [Nat.sub_self, List.getElem_singleton]
                    exact H3.out.below hW)
                have Hb0 := Lib.hid hb0'
                have hlt2 : w.heap.size < W2.heap.size := (Array.getElem?_eq_some_iff.1 hb0').1
                have hsum : sumLen (D.hands ++ [D.trick]) ≤ 4194304 := by
                  have : sumLen (D.hands ++ [D.trick]) = sumLen D.hands + D.trick.length := by simp [sumLen]
                  rw [this, Hm.out]; omega
                have hlen : (D.hands ++ [D.trick]).length ≤ 1048576 := by rw [List.length_append, Hn.out]; simp; omega
                have HH := Lib.hid (fun W (hW : Below w.heap.size w W) => hasWhatIsLeft_any a0 a1 _ D W (HD.out.below hW) Hf.out (by rw [Hn.out]; omega) (by rw [Hn.out]; omega) (by rw [Hw.out, Hn.out]) (by rw [Hp.out, Hn.out]) (by rw [Hl.out]; omega) (by rw [Hl.out]; omega) (by rw [HL.out]; omega) (by rw [HL.out]; omega) (HS.out.below hW (Nat.le_refl _)) _ rfl)
                have HY : Hid (apart (D.hands ++ [D.trick]) = true → isDeal D = leftOK D) := Lib.hid (isDeal_yes (by unfold shape1; rw [Hn.out, Hw.out, Hp.out]; exact ⟨g1, rfl, rfl⟩) (by unfold shape2; rw [Hn.out, Hl.out, Ht.out, HL.out, Hm.out]; exact ⟨g4, g5, g6, g7⟩))
                obtain ⟨lk, hlk⟩ : ∃ lk, leftOK D = lk := ⟨_, rfl⟩
                rw [hlk] at HH HY
                obtain ⟨y0, y1, y2, y3, y4, y5, y6⟩ := SDeal_cells hb0
                clear hul hv0 hone hrows hb0 hb1 hb2 hb0' hb1' q0 q1 q2 hvb hB1 hB2 hBw0 hlk
                go_enter Tryd.func37, Tryd.ntmps37
                go_wp2_with fail
                refine (HN1.out _).mono ?_
                rintro e _w ⟨rfl, rfl⟩
                go_wp2_with fail
                refine (HN2.out _).mono ?_
                rintro e _w ⟨rfl, rfl⟩
                go_wp2_with fail
                refine (HN3.out _).mono ?_
                rintro e _w ⟨rfl, rfl⟩
                go_wp2_with fail
                refine (HN4.out _).mono ?_
                rintro e _w ⟨rfl, rfl⟩
                go_wp2_with fail
                refine HC.out.mono ?_
                rintro e W3 ⟨v', rfl, hown, hB3⟩
                have hBw3 : Below w.heap.size w W3 := hBw2.trans (hB3.mono (Nat.le_of_lt hlt2))
                have hRR := HRR.out W3 v' hBw3 hown
                have HA := Lib.hid (allApart_big v' _ W3 hRR hlen hsum)
                have Hb3 : Hid (W3.heap[w.heap.size]? = _) := Lib.hid ((hB3.block _ hlt2).trans Hb0.out)
                have hlt3 : w.heap.size < W3.heap.size := by have := hB3.size; omega
                clear hown hRR
                go_wp2_with fail
                cases ha : apart (D.hands ++ [D.trick]) with
                | false =>
                  rw [ha] at HA
                  have Hf3 := Lib.hid (isDeal_no3 ha)
                  clear ha
                  refine HA.out.mono ?_
                  rintro e W4 ⟨rfl, hB4⟩
                  have hBw4 : Below w.heap.size w W4 := hBw3.trans (hB4.mono (Nat.le_of_lt hlt3))
                  go_wp2_with fail
                  go_ret
                  exact ⟨by rw [← Hr.out, Hf3.out]; rfl, hBw4⟩
                | true =>
                  rw [ha] at HA
                  have Hf3 := Lib.hid (HY.out ha)
                  clear ha
                  refine HA.out.mono ?_
                  rintro e W4 ⟨rfl, hB4⟩
                  have hBw4 : Below w.heap.size w W4 := hBw3.trans (hB4.mono (Nat.le_of_lt hlt3))
                  obtain ⟨k0, k1, k2, k3, k4, k5, k6⟩ := SDeal_cells ((hB4.block _ hlt3).trans Hb3.out)
                  have HH4 := Lib.hid (HH.out W4 hBw4)
                  go_wp2_with fail
                  refine HH4.out.mono ?_
                  rintro e W5 ⟨rfl, hB5⟩
                  go_wp2_with fail
                  go_ret
                  exact ⟨by rw [← Hr.out, Hf3.out]; rfl, hBw4.trans (hB5.mono hBw4.size)⟩
              · have g7a : (np : Int) ≤ (m : Int) := by omega
                go_enter Tryd.func37, Tryd.ntmps37
                go_wp2_with fail
                refine (HN1.out _).mono ?_
                rintro e _w ⟨rfl, rfl⟩
                go_wp2_with fail
                refine (HN2.out _).mono ?_
                rintro e _w ⟨rfl, rfl⟩
                go_wp2_with fail
                refine (HN3.out _).mono ?_
                rintro e _w ⟨rfl, rfl⟩
                go_wp2_with fail
                refine (HN4.out _).mono ?_
                rintro e _w ⟨rfl, rfl⟩
                go_wp2_with fail
                go_ret
                exact ⟨by rw [← Hr.out, Hno2.out (by intro H; exact g7 H.2.2.2)]; rfl, B0 _⟩
            · rw [decide_eq_false g6] at HN4
              go_enter Tryd.func37, Tryd.ntmps37
              go_wp2_with fail
              refine (HN1.out _).mono ?_
              rintro e _w ⟨rfl, rfl⟩
              go_wp2_with fail
              refine (HN2.out _).mono ?_
              rintro e _w ⟨rfl, rfl⟩
              go_wp2_with fail
              refine (HN3.out _).mono ?_
              rintro e _w ⟨rfl, rfl⟩
              go_wp2_with fail
              refine (HN4.out _).mono ?_
              rintro e _w ⟨rfl, rfl⟩
              go_wp2_with fail
              go_ret
              exact ⟨by rw [← Hr.out, Hno2.out (by intro H; exact g6 H.2.2.1)]; rfl, B0 _⟩
          · rw [decide_eq_false g5] at HN3
            go_enter Tryd.func37, Tryd.ntmps37
            go_wp2_with fail
            refine (HN1.out _).mono ?_
            rintro e _w ⟨rfl, rfl⟩
            go_wp2_with fail
            refine (HN2.out _).mono ?_
            rintro e _w ⟨rfl, rfl⟩
            go_wp2_with fail
            refine (HN3.out _).mono ?_
            rintro e _w ⟨rfl, rfl⟩
            go_wp2_with fail
            go_ret
            exact ⟨by rw [← Hr.out, Hno2.out (by intro H; exact g5 H.2.1)]; rfl, B0 _⟩
        · rw [decide_eq_false g4] at HN2
          go_enter Tryd.func37, Tryd.ntmps37
          go_wp2_with fail
          refine (HN1.out _).mono ?_
          rintro e _w ⟨rfl, rfl⟩
          go_wp2_with fail
          refine (HN2.out _).mono ?_
          rintro e _w ⟨rfl, rfl⟩
          go_wp2_with fail
          go_ret
          exact ⟨by rw [← Hr.out, Hno2.out (by intro H; exact g4 H.1)]; rfl, B0 _⟩
      · have g3a : ¬ ((np : Int) = (nw : Int)) := by omega
        go_enter Tryd.func37, Tryd.ntmps37
        go_wp2_with fail
        refine (HN1.out _).mono ?_
        rintro e _w ⟨rfl, rfl⟩
        go_wp2_with fail
        go_ret
        exact ⟨by rw [← Hr.out, Hno1.out (by intro H; exact g3 H.2.2)]; rfl, B0 _⟩
    · have g2a : ¬ ((nw : Int) = (n : Int)) := by omega
      go_enter Tryd.func37, Tryd.ntmps37
      go_wp2_with fail
      refine (HN1.out _).mono ?_
      rintro e _w ⟨rfl, rfl⟩
      go_wp2_with fail
      go_ret
      exact ⟨by rw [← Hr.out, Hno1.out (by intro H; exact g2 H.2.1)]; rfl, B0 _⟩
  · rw [decide_eq_false g1] at HN1
    go_enter Tryd.func37, Tryd.ntmps37
    go_wp2_with fail
    refine (HN1.out _).mono ?_
    rintro e _w ⟨rfl, rfl⟩
    go_wp2_with fail
    go_ret
    exact ⟨by rw [← Hr.out, Hno1.out (by intro H; exact g1 H.1)]; rfl, B0 _⟩
end Go.Proofs.YtbojhbhniollaaaDoor
