/-
  Loser: the player with the most points left; both sides.
-/
import Derived.Test.YtbeodaelbjgmeaaDoorGameQ
import Derived.Test.YtbeodaelbjgmeaaDoorGameT
import Derived.Test.YtbeodaelbjgmeaaDoorLeftP
import Derived.Test.YtbeodaelbjgmeaaDoorMost
namespace Go.Proofs.YtbeodaelbjgmeaaDoor
open Go.RowKit
set_option linter.unusedVariables false
set_option linter.unusedSimpArgs false

def loserG (D : MGame) : Int := if gameB D then mostI (leftPts D.hands) else -1
set_option maxRecDepth 100000 in
set_option maxHeartbeats 1000000 in
theorem loser_any (v : Value) (D : MGame) (w : World) (h : RdGame w v D) (hf : D.Few) (hG : Grps w) (r : Int) (hr : loserG D = r) :
    Calls Tryd.prog 24 #[v] w fun e w' => e = .returned (.int .i64 r) ∧ Below w.heap.size w w' := by
  have HF := Lib.hid (fun wx (hb : Below w.heap.size w wx) => isGame_any v D wx (h.below hb) hf (hG.below hb) _ rfl)
  have HP := Lib.hid (fun wx (hb : Below w.heap.size w wx) => leftPoints_any v D wx (h.below hb) hf)
  have hn : (leftPts D.hands).length ≤ 1099511627776 := by rw [leftPts_len]; have := hf.2.1; omega
  have HM := Lib.hid (fun wx v' b' (h' : RdAt .i64 wx v' (leftPts D.hands) b') => mostOf_any v' (leftPts D.hands) b' wx h' hn)
  obtain ⟨p4, p5, p8, p9, p10, c4, c5, c8, c9, c10, b9, b10, rfl, h0, h8, h9, h10, wf0, wf1, wf2⟩ := h
  obtain ⟨f0, f8, fs8, f9, f10⟩ := hf
  have B0 : ∀ o1, Below w.heap.size w (w.alloc o1) := fun o1 => (Below.refl w.heap.size w).alloc (Nat.le_refl _) o1
  have H1 := Lib.hid (fun w1 o1 bb => one_boxR (w := w) (w1 := w1) (o1 := o1) bb)
  unfold loserG at hr
  generalize gameB D = q at *
  clear h0 h8 h9 h10 f0 f8 fs8 f9 f10 hn
  go_enter Tryd.func24, Tryd.ntmps24
  go_wp2_with fail
  refine (HF.out _ (B0 _)).mono ?_
  rintro e w1 ⟨rfl, B1⟩
  obtain ⟨Bw1, G1⟩ := H1.out _ _ B1
  clear B1
  obtain ⟨k0, k1, k2, k3, k4, k5, k6, k7, k8, k9, k10, k11, k12, k13⟩ := SGame_cells G1
  cases q with
  | false =>
    obtain rfl : -1 = r := hr
    go_wp2_with fail
    go_ret
    exact ⟨rfl, Bw1⟩
  | true =>
    have hr2 : mostI (leftPts D.hands) = r := hr
    have HP1 := Lib.hid (HP.out w1 Bw1)
    rw [hr2] at HM
    clear hr hr2
    go_wp2_with fail
    refine HP1.out.mono ?_
    rintro e w2 ⟨v2, b2, rfl, hb2, hw2, B2⟩
    have HM2 := Lib.hid (HM.out _ _ _ hw2.rd)
    have Bw2 := Bw1.trans (B2.mono Bw1.size)
    obtain ⟨p2, c2, e2, -⟩ := hw2
    subst e2
    go_wp2_with fail
    refine HM2.out.mono ?_
    rintro e _w ⟨rfl, rfl⟩
    go_wp2_with fail
    go_ret
    exact ⟨rfl, Bw2⟩
set_option maxRecDepth 100000 in
set_option maxHeartbeats 1000000 in
theorem sLoser_any (v : Value) (D : MGame) (w : World) (h : RdGame w v D) (hf : D.Few) (r : Int) (hr : loserG D = r) :
    Calls Tryd.prog 23 #[v] w fun e w' => e = .returned (.int .i64 r) ∧ Below w.heap.size w w' := by
  have HF := Lib.hid (fun wx (hb : Below w.heap.size w wx) => sIsGame_any v D wx (h.below hb) hf _ rfl)
  have HP := Lib.hid (fun wx (hb : Below w.heap.size w wx) => sLeftPoints_any v D wx (h.below hb) hf)
  have hn : (leftPts D.hands).length ≤ 1099511627776 := by rw [leftPts_len]; have := hf.2.1; omega
  have HM := Lib.hid (fun wx v' b' (h' : RdAt .i64 wx v' (leftPts D.hands) b') => sMostOf_any v' (leftPts D.hands) b' wx h' hn)
  obtain ⟨p4, p5, p8, p9, p10, c4, c5, c8, c9, c10, b9, b10, rfl, h0, h8, h9, h10, wf0, wf1, wf2⟩ := h
  obtain ⟨f0, f8, fs8, f9, f10⟩ := hf
  have B0 : ∀ o1, Below w.heap.size w (w.alloc o1) := fun o1 => (Below.refl w.heap.size w).alloc (Nat.le_refl _) o1
  have H1 := Lib.hid (fun w1 o1 bb => one_boxR (w := w) (w1 := w1) (o1 := o1) bb)
  unfold loserG at hr
  generalize gameB D = q at *
  clear h0 h8 h9 h10 f0 f8 fs8 f9 f10 hn
  go_enter Tryd.func23, Tryd.ntmps23
  go_wp2_with fail
  refine (HF.out _ (B0 _)).mono ?_
  rintro e w1 ⟨rfl, B1⟩
  obtain ⟨Bw1, G1⟩ := H1.out _ _ B1
  clear B1
  obtain ⟨k0, k1, k2, k3, k4, k5, k6, k7, k8, k9, k10, k11, k12, k13⟩ := SGame_cells G1
  cases q with
  | false =>
    obtain rfl : -1 = r := hr
    go_wp2_with fail
    go_ret
    exact ⟨rfl, Bw1⟩
  | true =>
    have hr2 : mostI (leftPts D.hands) = r := hr
    have HP1 := Lib.hid (HP.out w1 Bw1)
    rw [hr2] at HM
    clear hr hr2
    go_wp2_with fail
    refine HP1.out.mono ?_
    rintro e w2 ⟨v2, b2, rfl, hb2, hw2, B2⟩
    have HM2 := Lib.hid (HM.out _ _ _ hw2.rd)
    have Bw2 := Bw1.trans (B2.mono Bw1.size)
    obtain ⟨p2, c2, e2, -⟩ := hw2
    subst e2
    go_wp2_with fail
    refine HM2.out.mono ?_
    rintro e w3 ⟨rfl, B3⟩
    have Bw3 := Bw2.trans (B3.mono Bw2.size)
    go_wp2_with fail
    go_ret
    exact ⟨rfl, Bw3⟩
end Go.Proofs.YtbeodaelbjgmeaaDoor
