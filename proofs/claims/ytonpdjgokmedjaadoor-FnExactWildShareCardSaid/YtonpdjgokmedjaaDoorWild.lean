/-
  WildShare: how many of a hundred cards match Wild; both sides.
-/
import Derived.Test.YtonpdjgokmedjaaDoorShare
import Derived.Test.YtonpdjgokmedjaaDoorReadyF
import Derived.Test.YtonpdjgokmedjaaDoorPatN
namespace Go.Proofs.YtonpdjgokmedjaaDoor
open Go.RowKit
set_option linter.unusedVariables false
set_option linter.unusedSimpArgs false

def wildShare (D : MRules) : Int := if rulesB D = true then (100 * ((matchSet D.wild).length : Int)) / 52 else 0
theorem matchSet_nodup (p : List Int) : (matchSet p).Nodup := by
  refine List.Nodup.sublist List.filter_sublist ?_
  decide +kernel
/-- A slice of one row that was just laid. -/
theorem oneRow (w : World) (t : TypeId) (v : Value) (zs : List Int) (b : Nat) (h : RdAt .i64 w v zs b) : RdRows .i64 (w.alloc (.cells #[v] t)) (.slice (some ⟨w.heap.size, 0, none⟩) 1 1) [zs] := by
  have hb : Below w.heap.size w (w.alloc (.cells #[v] t)) := (Below.refl _ _).alloc (Nat.le_refl _) _
  refine ⟨_, 1, rfl, ⟨Nat.le_refl _, by unfold maxLen; decide, fun e => by cases e⟩, .inr ⟨w.heap.size, 0, rfl, fun j hj => ?_⟩⟩
  have h0 : j = 0 := by simpa using hj
  subst h0
  exact ⟨v, b, patCell (patNew w (.cells #[v] t)), h.below hb⟩
set_option maxRecDepth 100000 in
set_option maxHeartbeats 1000000 in
theorem wildShare_any (v : Value) (D : MRules) (w : World) (h : RdRules w v D) (hf : D.Few) (hG : Grps w) (r : Int) (hr : wildShare D = r) :
    Calls Tryd.prog 28 #[v] w fun e w' => e = .returned (.int .i64 r) ∧ Below w.heap.size w w' := by
  have HI := Lib.hid (fun wx (hb : Below w.heap.size w wx) => isRules_any v D wx (h.below hb) hf (hG.below hb) _ rfl)
  obtain ⟨v4, v5, b4, b5, rfl, h4, h5, wf0, wf1, wf6, wf7⟩ := h
  have HM := Lib.hid (fun wx (hb : Below w.heap.size w wx) => matchSet_any v4 D.wild b4 wx (h4.below hb) hf.1 (hG.below hb))
  obtain ⟨p4, c4, e4, -⟩ := id h4
  subst e4
  obtain ⟨p5, c5, e5, -⟩ := id h5
  subst e5
  clear h4 h5 wf0 wf1 wf6 wf7 hf hG
  have B0 : ∀ o1, Below w.heap.size w (w.alloc o1) := fun o1 => (Below.refl w.heap.size w).alloc (Nat.le_refl _) o1
  have H1 := Lib.hid (fun w1 o1 bb => one_boxR (w := w) (w1 := w1) (o1 := o1) bb)
  have hm52 := matchSet_len D.wild
  have HS : Hid (rulesB D = true → ∀ wx v' b', RdAt .i64 wx v' (matchSet D.wild) b' → ∀ t, Calls Tryd.prog 50 #[.slice (some ⟨wx.heap.size, 0, none⟩) 1 1] (wx.alloc (.cells #[v'] t)) fun e w' => e = .returned (.int .i64 r) ∧ Below (wx.alloc (.cells #[v'] t)).heap.size (wx.alloc (.cells #[v'] t)) w') := Lib.hid (fun hq wx v' b' h' t =>
    share_any _ [matchSet D.wild] _ (oneRow wx t v' _ b' h') (by simp) (by simp [sumLen]; omega) (by simpa using matchSet_nodup D.wild) r (by rw [← hr]; unfold wildShare; rw [if_pos hq]; simp))
  have HR0 : Hid (rulesB D = false → r = 0) := Lib.hid (fun hq => by rw [← hr]; unfold wildShare; rw [hq]; rfl)
  clear hm52 hr
  generalize rulesB D = q at *
  go_enter Tryd.func28, Tryd.ntmps28
  go_wp2_with fail
  refine (HI.out _ (B0 _)).mono ?_
  rintro e w1 ⟨rfl, B1⟩
  obtain ⟨Bw1, G1⟩ := H1.out _ _ B1
  obtain ⟨k0, k1, k2, k3, k4, k5, k6, k7⟩ := SRules_cells G1
  have HM1 := Lib.hid (HM.out w1 Bw1)
  clear B1 G1
  cases q with
  | false =>
    obtain rfl := HR0.out rfl
    go_wp2_with fail
    go_ret
    exact ⟨rfl, Bw1⟩
  | true =>
    go_wp2_with fail
    refine HM1.out.mono ?_
    rintro e w2 ⟨v2, b2, rfl, hb2, hw2, B2⟩
    obtain ⟨p2, c2, e2, -⟩ := id hw2
    subst e2
    have HS2 := Lib.hid (HS.out trivial w2 _ b2 hw2.rd)
    have Bw2 := Bw1.trans (B2.mono Bw1.size)
    have Bw3 : ∀ o, Below w.heap.size w (w2.alloc o) := fun o => Bw2.alloc Bw2.size o
    clear hw2
    go_wp2_with fail
    refine (HS2.out _).mono ?_
    rintro e w3 ⟨rfl, B3⟩
    have Bw4 := (Bw3 _).trans (B3.mono (Bw3 _).size)
    go_wp2_with fail
    go_ret
    exact ⟨rfl, Bw4⟩
set_option maxRecDepth 100000 in
set_option maxHeartbeats 1000000 in
theorem sWildShare_any (v : Value) (D : MRules) (w : World) (h : RdRules w v D) (hf : D.Few) (r : Int) (hr : wildShare D = r) :
    Calls Tryd.prog 27 #[v] w fun e w' => e = .returned (.int .i64 r) ∧ Below w.heap.size w w' := by
  have HI := Lib.hid (fun wx (hb : Below w.heap.size w wx) => sIsRules_any v D wx (h.below hb) hf _ rfl)
  obtain ⟨v4, v5, b4, b5, rfl, h4, h5, wf0, wf1, wf6, wf7⟩ := h
  have HM := Lib.hid (fun wx (hb : Below w.heap.size w wx) => sMatchSet_any v4 D.wild b4 wx (h4.below hb) hf.1)
  obtain ⟨p4, c4, e4, -⟩ := id h4
  subst e4
  obtain ⟨p5, c5, e5, -⟩ := id h5
  subst e5
  clear h4 h5 wf0 wf1 wf6 wf7 hf
  have B0 : ∀ o1, Below w.heap.size w (w.alloc o1) := fun o1 => (Below.refl w.heap.size w).alloc (Nat.le_refl _) o1
  have H1 := Lib.hid (fun w1 o1 bb => one_boxR (w := w) (w1 := w1) (o1 := o1) bb)
  have hm52 := matchSet_len D.wild
  have HR1 : Hid (rulesB D = true → (100 * ((matchSet D.wild).length : Int)) / 52 = r) := Lib.hid (fun hq => by rw [← hr]; unfold wildShare; rw [if_pos hq])
  have HR0 : Hid (rulesB D = false → r = 0) := Lib.hid (fun hq => by rw [← hr]; unfold wildShare; rw [hq]; rfl)
  clear hr
  generalize rulesB D = q at *
  go_enter Tryd.func27, Tryd.ntmps27
  go_wp2_with fail
  refine (HI.out _ (B0 _)).mono ?_
  rintro e w1 ⟨rfl, B1⟩
  obtain ⟨Bw1, G1⟩ := H1.out _ _ B1
  obtain ⟨k0, k1, k2, k3, k4, k5, k6, k7⟩ := SRules_cells G1
  have HM1 := Lib.hid (HM.out w1 Bw1)
  clear B1 G1
  cases q with
  | false =>
    obtain rfl := HR0.out rfl
    go_wp2_with fail
    go_ret
    exact ⟨rfl, Bw1⟩
  | true =>
    have HR2 := HR1.out rfl
    go_wp2_with fail
    refine HM1.out.mono ?_
    rintro e w2 ⟨v2, b2, rfl, hb2, hw2, B2⟩
    have Bw2 := Bw1.trans (B2.mono Bw1.size)
    obtain ⟨p2, c2, e2, -⟩ := hw2
    subst e2
    generalize (matchSet D.wild).length = x at *
    have q2 : wrap64 (100 * (x : Int)) = 100 * (x : Int) := IntWalk.wrap64_in _ (by omega)
    have q3 : (100 * (x : Int)).tdiv 52 = r := by rw [Int.tdiv_eq_ediv_of_nonneg (by omega)]; exact HR2
    have q4 : wrap64 r = r := IntWalk.wrap64_in _ (by omega)
    have HQ := Lib.hid (And.intro q2 (And.intro q3 q4))
    clear q2 q3 q4 HR2 hm52
    go_wp2_with fail
    rw [HQ.out.1, HQ.out.2.1, HQ.out.2.2]
    go_ret
    exact ⟨rfl, Bw2⟩
end Go.Proofs.YtonpdjgokmedjaaDoor
