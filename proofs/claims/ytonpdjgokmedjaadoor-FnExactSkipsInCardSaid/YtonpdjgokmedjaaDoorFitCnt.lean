/-
  FitCount and SkipsIn, both sides.
-/
import Derived.Test.YtonpdjgokmedjaaDoorFits
import Derived.Test.YtonpdjgokmedjaaDoorOnly
import Derived.Test.YtonpdjgokmedjaaDoorWithout
import Derived.Test.YtonpdjgokmedjaaDoorDeck
import Derived.Deep.RegionHeld3
import Derived.BigQuiet
namespace Go.Proofs.YtonpdjgokmedjaaDoor
open Go.RowKit
set_option linter.unusedVariables false
set_option linter.unusedSimpArgs false

def onB (D : MRules) (t c : Int) : Bool := isCard c && fitsC D t c
def fitCount (D : MRules) (t : Int) : Nat := if rulesB D && isCard t then ((without deck t).filter (onB D t)).length else 0
def skipsIn (D : MRules) (zs : List Int) : Nat := (zs.filter (doesSkip D)).length
set_option maxRecDepth 100000 in
theorem skipsIn_any (v vl : Value) (D : MRules) (zs : List Int) (b : Nat) (w : World) (h : RdRules w v D) (hf : D.Few) (hz : RdAt .i64 w vl zs b) (hl : zs.length ≤ 1099511627776) (hG : Grps w) :
    Calls Tryd.prog 26 #[v, vl] w fun e w' => e = .returned (.int .i64 (skipsIn D zs : Nat)) ∧ Below w.heap.size w w' := by
  have hmf : ∀ (fn : Fn) (first cap : Array Value) (w : World), (Instr.makeFunc fn first cap).run Tryd.prog w = .ok (.func fn first cap) w := fun _ _ _ _ => rfl
  have HS := Lib.hid (fun wx (hb : Below w.heap.size w wx) c => doesSkip_any v D c wx (h.below hb) hf (hG.below hb) _ rfl)
  obtain ⟨p4, p5, c4, c5, hv⟩ := h.shape
  have HA : Hid (∀ o t, o = Obj.cells #[.int .i64 D.players, .int .i64 D.each, .bool D.sameSuit, .bool D.sameRank, .slice p4 D.wild.length c4, .slice p5 D.skip.length c5, .int .i64 D.take, .int .i64 D.limit] t → Asks (w.alloc o) (.func (.func 49) #[] #[.pointer (some ⟨w.heap.size, 0, none⟩)]) (doesSkip D)) := Lib.hid (fun o t ho => by
    subst ho
    refine ⟨_, _, rfl, enters_of Tryd.func49 (by kernel_rfl) rfl, fun w' hb c hc => ?_⟩
    have Bw : Below w.heap.size w w' := ((Below.refl w.heap.size w).alloc (Nat.le_refl _) _).trans (hb.mono (by simp))
    have G := (hb.block w.heap.size (by simp)).trans (patNew _ _)
    have HS2 := Lib.hid (HS.out w' Bw c)
    rw [hv] at HS2
    obtain ⟨k0, k1, k2, k3, k4, k5, k6, k7⟩ := SRules_cells G
    clear hb Bw G
    generalize doesSkip D c = r at *
    go_enter Tryd.func49, Tryd.ntmps49
    go_wp2_with fail
    refine HS2.out.mono ?_
    rintro e w2 ⟨rfl, B2⟩
    go_wp2_with fail
    go_ret
    exact ⟨rfl, B2⟩)
  have B0 : ∀ o1, Below w.heap.size w (w.alloc o1) := fun o1 => (Below.refl w.heap.size w).alloc (Nat.le_refl _) o1
  have HC := Lib.hid (fun o1 fv (hA : Asks (w.alloc o1) fv (doesSkip D)) => countIf_any vl fv zs b (doesSkip D) (w.alloc o1) (hz.below (B0 o1)) hl hA)
  obtain ⟨az, cz, ez, -⟩ := id hz
  subst ez hv
  unfold skipsIn
  clear h hf hz hG HS
  go_enter Tryd.func26, Tryd.ntmps26
  go_wp2_with fail
  refine (HC.out _ _ (HA.out _ _ rfl)).mono ?_
  rintro e w1 ⟨rfl, B1⟩
  have B2 := (B0 _).trans (B1.mono (B0 _).size)
  go_wp2_with fail
  go_ret
  exact ⟨rfl, B2⟩
set_option maxRecDepth 100000 in
set_option maxHeartbeats 1000000 in
theorem sSkipsIn_any (v vl : Value) (D : MRules) (zs : List Int) (b : Nat) (w : World) (h : RdRules w v D) (hf : D.Few) (hz : RdAt .i64 w vl zs b) (hl : zs.length ≤ 1048576) :
    Calls Tryd.prog 25 #[v, vl] w fun e w' => e = .returned (.int .i64 (skipsIn D zs : Nat)) ∧ Below w.heap.size w w' := by
  have HS := Lib.hid (fun wx (hb : Below w.heap.size w wx) c => sDoesSkip_any v D c wx (h.below hb) hf _ rfl)
  obtain ⟨p4, p5, c4, c5, hv⟩ := h.shape
  have B0 : ∀ o1, Below w.heap.size w (w.alloc o1) := fun o1 => (Below.refl w.heap.size w).alloc (Nat.le_refl _) o1
  have hlt0 := hz.lt
  obtain ⟨a, cap, rfl, -, hwf, hcell⟩ := hz
  subst hv
  clear h hf
  unfold skipsIn
  obtain ⟨n, hn⟩ : ∃ n, n = zs.length := ⟨_, rfl⟩
  have Hn := Lib.hid hn
  rw [← hn] at hl ⊢
  clear hn
  obtain ⟨W0, hW0⟩ : ∃ W0, W0 = w.alloc (.cells #[.int .i64 D.players, .int .i64 D.each, .bool D.sameSuit, .bool D.sameRank, .slice p4 D.wild.length c4, .slice p5 D.skip.length c5, .int .i64 D.take, .int .i64 D.limit] 29) := ⟨_, rfl⟩
  have G0 : W0.heap[w.heap.size]? = some (.cells #[.int .i64 D.players, .int .i64 D.each, .bool D.sameSuit, .bool D.sameRank, .slice p4 D.wild.length c4, .slice p5 D.skip.length c5, .int .i64 D.take, .int .i64 D.limit] 29 (0, 0)) := by rw [hW0]; exact patNew _ _
  have BW0 : Below w.heap.size w W0 := by rw [hW0]; exact B0 _
  have lW0 : w.heap.size < W0.heap.size := by rw [hW0]; simp
  have HW0 := Lib.hid hW0
  clear hW0 B0
  go_enter Tryd.func25, Tryd.ntmps25
  go_wp2_with fail
  rw [← HW0.out]
  go_loopw [5, 6] (fun o i wr => ∃ k : Nat, k ≤ n ∧ i = .int .i64 k ∧ Below W0.heap.size W0 wr ∧ o = .int .i64 (((zs.take k).filter (doesSkip D)).length : Nat)) (fun _ i _ => n - (intOf i).toNat)
  case atStart => exact ⟨0, Nat.zero_le _, rfl, Below.refl _ _, rfl⟩
  case round =>
    obtain ⟨k, hk, rfl, hb2, rfl⟩ := hrel
    have hle2 : ((zs.take k).filter (doesSkip D)).length ≤ k := Nat.le_trans (List.length_filter_le _ _) (by rw [List.length_take]; omega)
    have hBw := BW0.trans (hb2.mono BW0.size)
    by_cases hlt : k < n
    · have hzl : k < zs.length := by rw [← Hn.out]; exact hlt
      rcases hcell with h0 | ⟨off, rfl, hc⟩
      · subst h0; simp at hzl
      obtain ⟨y, hy⟩ : ∃ y, Hid (y = zs[k]) := ⟨_, Lib.hid rfl⟩
      have hc1 : w.cell? ⟨b, off + k, none⟩ = some (.int .i64 y) := by
        rw [hc k hzl, hy.out]
      have HK : Hid (∀ wx, Below wr.heap.size wr wx → wx.cell? ⟨w.heap.size, 0, none⟩ = some (.int .i64 D.players) ∧ wx.cell? ⟨w.heap.size, 1, none⟩ = some (.int .i64 D.each) ∧ wx.cell? ⟨w.heap.size, 2, none⟩ = some (.bool D.sameSuit) ∧ wx.cell? ⟨w.heap.size, 3, none⟩ = some (.bool D.sameRank) ∧ wx.cell? ⟨w.heap.size, 4, none⟩ = some (.slice p4 D.wild.length c4) ∧ wx.cell? ⟨w.heap.size, 5, none⟩ = some (.slice p5 D.skip.length c5) ∧ wx.cell? ⟨w.heap.size, 6, none⟩ = some (.int .i64 D.take) ∧ wx.cell? ⟨w.heap.size, 7, none⟩ = some (.int .i64 D.limit) ∧ wx.cell? ⟨b, off + k, none⟩ = some (.int .i64 y)) := Lib.hid (fun wx bx => by
        obtain ⟨k0, k1, k2, k3, k4, k5, k6, k7⟩ := SRules_cells ((bx.block _ (Nat.lt_of_lt_of_le lW0 hb2.size)).trans ((hb2.block _ lW0).trans G0))
        refine ⟨k0, k1, k2, k3, k4, k5, k6, k7, ?_⟩
        rw [(hBw.trans (bx.mono hBw.size)).cell (World.block_lt_of_cell? _ _ hc1), hc1])
      have hstep := filt_take (doesSkip D) zs k hzl
      rw [← hy.out] at hstep
      have HC := Lib.hid (fun wx (bx : Below w.heap.size w wx) => HS.out wx bx y)
      have HBw := Lib.hid hBw
      have HB2 := Lib.hid hb2
      obtain ⟨k0, k1, k2, k3, k4, k5, k6, k7, k8⟩ := HK.out wr (Below.refl _ _)
      have i0 : (0 : Int) ≤ (k : Int) := by omega
      have i1 : (k : Int) < (n : Int) := by omega
      clear hc hc1 hBw hb2
      cases hyc : doesSkip D y with
      | false =>
        rw [hyc] at hstep HC
        have hrel2 : Hid (((zs.take (k + 1)).filter (doesSkip D)).length = ((zs.take k).filter (doesSkip D)).length) := Lib.hid (by rw [hstep]; simp)
        clear hstep hyc
        generalize ((zs.take k).filter (doesSkip D)).length = m at *
        go_wp2_with fail
        go_region_held3 (fun w' => w'.cell? ⟨w.heap.size, 0, none⟩ = some (.int .i64 D.players) ∧ w'.cell? ⟨w.heap.size, 1, none⟩ = some (.int .i64 D.each) ∧ w'.cell? ⟨w.heap.size, 2, none⟩ = some (.bool D.sameSuit) ∧ w'.cell? ⟨w.heap.size, 3, none⟩ = some (.bool D.sameRank) ∧ w'.cell? ⟨w.heap.size, 4, none⟩ = some (.slice p4 D.wild.length c4) ∧ w'.cell? ⟨w.heap.size, 5, none⟩ = some (.slice p5 D.skip.length c5) ∧ w'.cell? ⟨w.heap.size, 6, none⟩ = some (.int .i64 D.take) ∧ w'.cell? ⟨w.heap.size, 7, none⟩ = some (.int .i64 D.limit) ∧ w'.cell? ⟨b, off + k, none⟩ = some (.int .i64 y)) (go_keep) (first | (go_at_call 19; refine (HC.out _ HBw.out.drew).mono ?_; rintro e w2 ⟨rfl, B2⟩; obtain ⟨y0, y1, y2, y3, y4, y5, y6, y7, y8⟩ := HK.out w2 ((Below.refl _ _).drew.trans B2)))
        all_goals
          have hb3 : Below W0.heap.size W0 w2 := HB2.out.drew.trans (B2.mono HB2.out.drew.size)
          clear k0 k1 k2 k3 k4 k5 k6 k7 k8 y0 y1 y2 y3 y4 y5 y6 y7 y8 B2
          go_wp2_with fail
          go_roundw
          case rel => exact ⟨k + 1, by omega, by go_num, hb3, by rw [hrel2.out]⟩
          case measure => simp [intOf]; omega
      | true =>
        rw [hyc] at hstep HC
        have hrel2 : Hid (((zs.take (k + 1)).filter (doesSkip D)).length = ((zs.take k).filter (doesSkip D)).length + 1) := Lib.hid (by rw [hstep]; simp)
        clear hstep hyc
        generalize ((zs.take k).filter (doesSkip D)).length = m at *
        go_wp2_with fail
        go_region_held3 (fun w' => w'.cell? ⟨w.heap.size, 0, none⟩ = some (.int .i64 D.players) ∧ w'.cell? ⟨w.heap.size, 1, none⟩ = some (.int .i64 D.each) ∧ w'.cell? ⟨w.heap.size, 2, none⟩ = some (.bool D.sameSuit) ∧ w'.cell? ⟨w.heap.size, 3, none⟩ = some (.bool D.sameRank) ∧ w'.cell? ⟨w.heap.size, 4, none⟩ = some (.slice p4 D.wild.length c4) ∧ w'.cell? ⟨w.heap.size, 5, none⟩ = some (.slice p5 D.skip.length c5) ∧ w'.cell? ⟨w.heap.size, 6, none⟩ = some (.int .i64 D.take) ∧ w'.cell? ⟨w.heap.size, 7, none⟩ = some (.int .i64 D.limit) ∧ w'.cell? ⟨b, off + k, none⟩ = some (.int .i64 y)) (go_keep) (first | (go_at_call 19; refine (HC.out _ HBw.out.drew).mono ?_; rintro e w2 ⟨rfl, B2⟩; obtain ⟨y0, y1, y2, y3, y4, y5, y6, y7, y8⟩ := HK.out w2 ((Below.refl _ _).drew.trans B2)))
        all_goals
          have hb3 : Below W0.heap.size W0 w2 := HB2.out.drew.trans (B2.mono HB2.out.drew.size)
          clear k0 k1 k2 k3 k4 k5 k6 k7 k8 y0 y1 y2 y3 y4 y5 y6 y7 y8 B2
          go_wp2_with fail
          go_roundw
          case rel => exact ⟨k + 1, by omega, by go_num, hb3, by rw [hrel2.out]; simp⟩
          case measure => simp [intOf]; omega
    · obtain rfl : k = n := by omega
      have e : zs.take k = zs := List.take_of_length_le (by rw [Hn.out]; exact Nat.le_refl _)
      rw [e]
      go_wp2_with fail
      go_ret
      exact ⟨rfl, hBw⟩
theorem tenCells {w : World} {b : Nat} {a0 a1 a2 a3 a4 a5 a6 a7 a8 a9 : Value} {t : TypeId} {fr : Nat × Nat} (h : w.heap[b]? = some (.cells #[a0, a1, a2, a3, a4, a5, a6, a7, a8, a9] t fr)) : w.cell? ⟨b, 0, none⟩ = some a0 ∧ w.cell? ⟨b, 1, none⟩ = some a1 ∧ w.cell? ⟨b, 2, none⟩ = some a2 ∧ w.cell? ⟨b, 3, none⟩ = some a3 ∧ w.cell? ⟨b, 4, none⟩ = some a4 ∧ w.cell? ⟨b, 5, none⟩ = some a5 ∧ w.cell? ⟨b, 6, none⟩ = some a6 ∧ w.cell? ⟨b, 7, none⟩ = some a7 ∧ w.cell? ⟨b, 8, none⟩ = some a8 ∧ w.cell? ⟨b, 9, none⟩ = some a9 := by
  simp [World.cell?, h]
set_option maxRecDepth 100000 in
set_option maxHeartbeats 2000000 in
theorem onAsks (L : Nat) (D : MRules) (p4 p5 : Option Addr) (c4 c5 nf ng : Nat) (cf cg : Array Value) (G : Int → Bool) (t : Int) (w : World) (hm : Means L w (.func (.func nf) #[] cf) (orF0 D.wild)) (hm' : Means L w (.func (.func ng) #[] cg) G) (t0 : 0 ≤ t) (t1 : t ≤ 51) (o1 o2 : Obj) (u1 u2 : TypeId)
    (h1 : o1 = .cells #[.int .i64 D.players, .int .i64 D.each, .bool D.sameSuit, .bool D.sameRank, .slice p4 D.wild.length c4, .slice p5 D.skip.length c5, .int .i64 D.take, .int .i64 D.limit, .func (.func nf) #[] cf, .func (.func ng) #[] cg] u1) (h2 : o2 = .cells #[.int .u8 t] u2) : Asks ((w.alloc o1).alloc o2) (.func (.func 62) #[] #[.pointer (some ⟨w.heap.size, 0, none⟩), .pointer (some ⟨w.heap.size + 1, 0, none⟩)]) (onB D t) := by
  refine ⟨_, _, rfl, enters_of Tryd.func62 (by kernel_rfl) rfl, fun w' hb c hc => ?_⟩
  obtain ⟨Bw, G1, G2⟩ := two_boxesR hb
  subst h1 h2
  have HFi := Lib.hid (fun (c0 : 0 ≤ c) (c1 : c ≤ 51) => fits_any L D.players D.each D.take D.limit D.sameSuit D.sameRank p4 p5 D.wild.length c4 D.skip.length c5 _ _ _ _ t c w' (hm.below Bw) (hm'.below Bw) t0 t1 c0 c1 (fitsC D t c) rfl)
  obtain ⟨k0, k1, k2, k3, k4, k5, k6, k7, k8, k9⟩ := tenCells G1
  have kt := patCell G2
  clear hm hm' hb G1 G2
  unfold onB
  cases hcc : isCard c with
  | false =>
    have HC := Lib.hid (cardOf_out c w' hcc)
    clear hcc HFi
    go_enter Tryd.func62, Tryd.ntmps62
    go_wp2_with fail
    refine HC.out.mono ?_
    rintro e _w ⟨rfl, rfl⟩
    go_wp2_with fail
    go_ret
    exact ⟨rfl, Below.refl _ _⟩
  | true =>
    have HC := Lib.hid (cardOf_in c w' hcc)
    obtain ⟨c0, c1⟩ := isCard_t hcc
    have HFi2 := Lib.hid (HFi.out c0 c1)
    clear hcc HFi
    generalize fitsC D t c = r at *
    go_enter Tryd.func62, Tryd.ntmps62
    go_wp2_with fail
    refine HC.out.mono ?_
    rintro e _w ⟨rfl, rfl⟩
    go_wp2_with fail
    refine HFi2.out.mono ?_
    rintro e w2 ⟨rfl, B2⟩
    go_wp2_with fail
    go_ret
    exact ⟨rfl, B2⟩
set_option maxRecDepth 100000 in
set_option maxHeartbeats 2000000 in
theorem cardsOn_any (L : Nat) (D : MRules) (p4 p5 : Option Addr) (c4 c5 nf ng : Nat) (cf cg : Array Value) (G : Int → Bool) (t : Int) (v : Value) (zs : List Int) (b : Nat) (w : World) (hm : Means L w (.func (.func nf) #[] cf) (orF0 D.wild)) (hm' : Means L w (.func (.func ng) #[] cg) G) (t0 : 0 ≤ t) (t1 : t ≤ 51) (hz : RdAt .i64 w v zs b) (hl : zs.length ≤ 1099511627776) :
    Calls Tryd.prog 45 #[.agg #[.int .i64 D.players, .int .i64 D.each, .bool D.sameSuit, .bool D.sameRank, .slice p4 D.wild.length c4, .slice p5 D.skip.length c5, .int .i64 D.take, .int .i64 D.limit, .func (.func nf) #[] cf, .func (.func ng) #[] cg], .int .u8 t, v] w fun e w' => ∃ v' b', e = .returned v' ∧ w.heap.size ≤ b' ∧ WrAt .i64 w' v' (zs.filter (onB D t)) b' ∧ Below w.heap.size w w' := by
  have hmf : ∀ (fn : Fn) (first cap : Array Value) (w : World), (Instr.makeFunc fn first cap).run Tryd.prog w = .ok (.func fn first cap) w := fun _ _ _ _ => rfl
  have HA := Lib.hid (fun o1 o2 u1 u2 h1 h2 => onAsks L D p4 p5 c4 c5 nf ng cf cg G t w hm hm' t0 t1 o1 o2 u1 u2 h1 h2)
  have B0 : ∀ o1 o2, Below w.heap.size w ((w.alloc o1).alloc o2) := fun o1 o2 => ((Below.refl w.heap.size w).alloc (Nat.le_refl _) o1).alloc (by simp) o2
  have HO := Lib.hid (fun o1 o2 fv (hA : Asks ((w.alloc o1).alloc o2) fv (onB D t)) => only_any v fv zs b (onB D t) ((w.alloc o1).alloc o2) (hz.below (B0 o1 o2)) hl hA)
  clear hm hm' hz
  generalize zs.filter (onB D t) = FF at *
  go_enter Tryd.func45, Tryd.ntmps45
  go_wp2_with fail
  refine (HO.out _ _ _ (HA.out _ _ _ _ rfl rfl)).mono ?_
  rintro e w1 ⟨v', b', rfl, hb', hw', B1⟩
  have B2 := (B0 _ _).trans (B1.mono (B0 _ _).size)
  have hb2 : w.heap.size ≤ b' := Nat.le_trans (B0 _ _).size hb'
  have hw2 := Lib.hid hw'
  clear hw' B1 hb'
  go_wp2_with fail
  go_ret
  exact ⟨_, b', rfl, hb2, hw2.out, B2⟩
set_option maxRecDepth 100000 in
set_option maxHeartbeats 4000000 in
theorem fitCount_any (v : Value) (D : MRules) (t : Int) (w : World) (h : RdRules w v D) (hf : D.Few) (hG : Grps w) (r : Nat) (hr : fitCount D t = r) :
    Calls Tryd.prog 24 #[v, .int .i64 t] w fun e w' => e = .returned (.int .i64 (r : Nat)) ∧ Below w.heap.size w w' := by
  have HF := Lib.hid (fun wx (hb : Below w.heap.size w wx) => readyFrom_any v D wx (h.below hb) hf (hG.below hb) _ rfl)
  obtain ⟨p4, p5, c4, c5, hv⟩ := h.shape
  clear h hf hG
  subst hv
  have B0 : ∀ o1, Below w.heap.size w (w.alloc o1) := fun o1 => (Below.refl w.heap.size w).alloc (Nat.le_refl _) o1
  have H1 := Lib.hid (fun w1 o1 bb => one_boxR (w := w) (w1 := w1) (o1 := o1) bb)
  unfold fitCount at hr
  generalize rulesB D = q0 at *
  cases ht : isCard t with
  | false =>
    have HC := Lib.hid (fun wx => cardOf_out t wx ht)
    rw [ht] at hr
    obtain rfl : r = 0 := by rw [← hr]; cases q0 <;> rfl
    clear ht hr
    go_enter Tryd.func24, Tryd.ntmps24
    go_wp2_with fail
    refine (HF.out _ (B0 _)).mono ?_
    rintro e w1 ⟨⟨v4, v5, f, g, rfl, hrd⟩, B1⟩
    obtain ⟨Bw1, G1⟩ := H1.out _ _ B1
    clear B1 G1
    cases q0 with
    | false =>
      unfold readyV
      go_wp2_with fail
      refine (HC.out _).mono ?_
      rintro e _w ⟨rfl, rfl⟩
      go_wp2_with fail
      go_ret
      exact ⟨rfl, Bw1.alloc Bw1.size _⟩
    | true =>
      obtain ⟨⟨b4, p4, c4, e4, -⟩, ⟨b5, p5, c5, e5, -⟩, ⟨nf, cf, ef, -⟩, ⟨ng, cg, eg, -⟩⟩ := hrd rfl
      subst e4 e5 ef eg
      unfold readyV
      go_wp2_with fail
      refine (HC.out _).mono ?_
      rintro e _w ⟨rfl, rfl⟩
      go_wp2_with fail
      go_ret
      exact ⟨rfl, Bw1.alloc Bw1.size _⟩
  | true =>
    have HC := Lib.hid (fun wx => cardOf_in t wx ht)
    obtain ⟨t0, t1⟩ := isCard_t ht
    rw [ht] at hr
    clear ht
    go_enter Tryd.func24, Tryd.ntmps24
    go_wp2_with fail
    refine (HF.out _ (B0 _)).mono ?_
    rintro e w1 ⟨⟨v4, v5, f, g, rfl, hrd⟩, B1⟩
    obtain ⟨Bw1, G1⟩ := H1.out _ _ B1
    clear B1 G1
    cases q0 with
    | false =>
      obtain rfl : r = 0 := by rw [← hr]; rfl
      unfold readyV
      go_wp2_with fail
      refine (HC.out _).mono ?_
      rintro e _w ⟨rfl, rfl⟩
      go_wp2_with fail
      go_ret
      exact ⟨rfl, Bw1.alloc Bw1.size _⟩
    | true =>
      obtain ⟨⟨b4, p4, c4, e4, -⟩, ⟨b5, p5, c5, e5, -⟩, hmf, hmg⟩ := hrd rfl
      obtain ⟨nf, cf, ef, -⟩ := id hmf
      obtain ⟨ng, cg, eg, -⟩ := id hmg
      subst e4 e5 ef eg
      have hr2 : ((without deck t).filter (onB D t)).length = r := hr
      have hwl : (without deck t).length ≤ 1099511627776 := by have := without_le deck t; have h52 : deck.length = 52 := (by show (marksI 0 52).length = 52; rw [marksI_length]); omega
      obtain ⟨W2, hW2⟩ : ∃ W2, W2 = w1.alloc (.cells #[.int .i64 D.players, .int .i64 D.each, .bool D.sameSuit, .bool D.sameRank, .slice p4 D.wild.length c4, .slice p5 D.skip.length c5, .int .i64 D.take, .int .i64 D.limit, .func (.func nf) #[] cf, .func (.func ng) #[] cg] 49) := ⟨_, rfl⟩
      have G2 : W2.heap[w1.heap.size]? = some (.cells #[.int .i64 D.players, .int .i64 D.each, .bool D.sameSuit, .bool D.sameRank, .slice p4 D.wild.length c4, .slice p5 D.skip.length c5, .int .i64 D.take, .int .i64 D.limit, .func (.func nf) #[] cf, .func (.func ng) #[] cg] 49 (0, 0)) := by rw [hW2]; exact patNew _ _
      have lW2 : w1.heap.size < W2.heap.size := by rw [hW2]; simp
      have BW2a : Below w1.heap.size w1 W2 := by rw [hW2]; exact (Below.refl _ _).alloc (Nat.le_refl _) _
      have BW2 : Below w.heap.size w W2 := Bw1.trans (BW2a.mono Bw1.size)
      have HMf := Lib.hid (fun wx (hx : Below W2.heap.size W2 wx) => And.intro ((hmf.below BW2a).below hx) ((hmg.below BW2a).below hx))
      have HG : Hid (∀ wx, Below W2.heap.size W2 wx → wx.cell? ⟨w1.heap.size, 0, none⟩ = some (.int .i64 D.players) ∧ wx.cell? ⟨w1.heap.size, 1, none⟩ = some (.int .i64 D.each) ∧ wx.cell? ⟨w1.heap.size, 2, none⟩ = some (.bool D.sameSuit) ∧ wx.cell? ⟨w1.heap.size, 3, none⟩ = some (.bool D.sameRank) ∧ wx.cell? ⟨w1.heap.size, 4, none⟩ = some (.slice p4 D.wild.length c4) ∧ wx.cell? ⟨w1.heap.size, 5, none⟩ = some (.slice p5 D.skip.length c5) ∧ wx.cell? ⟨w1.heap.size, 6, none⟩ = some (.int .i64 D.take) ∧ wx.cell? ⟨w1.heap.size, 7, none⟩ = some (.int .i64 D.limit) ∧ wx.cell? ⟨w1.heap.size, 8, none⟩ = some (.func (.func nf) #[] cf) ∧ wx.cell? ⟨w1.heap.size, 9, none⟩ = some (.func (.func ng) #[] cg)) := Lib.hid (fun wx hx => tenCells ((hx.block _ lW2).trans G2))
      obtain ⟨k0, k1, k2, k3, k4, k5, k6, k7, k8, k9⟩ := HG.out W2 (Below.refl _ _)
      have HW2 := Lib.hid hW2
      have HB := Lib.hid BW2
      clear hW2 hmf hmg hrd BW2 BW2a Bw1 hr
      unfold readyV
      go_wp2_with fail
      rw [← HW2.out]
      refine (HC.out _).mono ?_
      rintro e _w ⟨rfl, rfl⟩
      go_wp2_with fail
      go_region_held3 (fun w' => w'.cell? ⟨w1.heap.size, 0, none⟩ = some (.int .i64 D.players) ∧ w'.cell? ⟨w1.heap.size, 1, none⟩ = some (.int .i64 D.each) ∧ w'.cell? ⟨w1.heap.size, 2, none⟩ = some (.bool D.sameSuit) ∧ w'.cell? ⟨w1.heap.size, 3, none⟩ = some (.bool D.sameRank) ∧ w'.cell? ⟨w1.heap.size, 4, none⟩ = some (.slice p4 D.wild.length c4) ∧ w'.cell? ⟨w1.heap.size, 5, none⟩ = some (.slice p5 D.skip.length c5) ∧ w'.cell? ⟨w1.heap.size, 6, none⟩ = some (.int .i64 D.take) ∧ w'.cell? ⟨w1.heap.size, 7, none⟩ = some (.int .i64 D.limit) ∧ w'.cell? ⟨w1.heap.size, 8, none⟩ = some (.func (.func nf) #[] cf) ∧ w'.cell? ⟨w1.heap.size, 9, none⟩ = some (.func (.func ng) #[] cg)) (go_keep) (first
        | (go_at_call 47; refine (fullDeck_any _).mono ?_; rintro e wu0 ⟨v1, b1, rfl, -, hw1, Bu0⟩; have Ba := (Below.refl W2.heap.size W2).drew.trans Bu0; obtain ⟨x0, x1, x2, x3, x4, x5, x6, x7, x8, x9⟩ := HG.out wu0 Ba)
        | (go_at_call 46; refine (without_any _ deck _ t _ hw1.rd (by show (marksI 0 52).length ≤ _; rw [marksI_length]; omega)).mono ?_; rintro e wu1 ⟨v2, b2, rfl, -, hw2, Bu1⟩; have Bb := Ba.trans (Bu1.mono Ba.size); obtain ⟨y0, y1, y2, y3, y4, y5, y6, y7, y8, y9⟩ := HG.out wu1 Bb)
        | (go_at_call 45; refine (cardsOn_any _ D p4 p5 c4 c5 nf ng cf cg _ t _ (without deck t) _ _ (HMf.out _ Bb).1 (HMf.out _ Bb).2 t0 t1 hw2.rd hwl).mono ?_; rintro e wu2 ⟨v3, b3, rfl, -, hw3, Bu2⟩; obtain ⟨p3, c3, e3, -⟩ := id hw3; subst e3; rw [hr2]; have Bc := Bb.trans (Bu2.mono Bb.size); obtain ⟨z0, z1, z2, z3, z4, z5, z6, z7, z8, z9⟩ := HG.out wu2 Bc))
      all_goals
        have B3 := HB.out.trans (Bc.mono HB.out.size)
        clear k0 k1 k2 k3 k4 k5 k6 k7 k8 k9 x0 x1 x2 x3 x4 x5 x6 x7 x8 x9 y0 y1 y2 y3 y4 y5 y6 y7 y8 y9 z0 z1 z2 z3 z4 z5 z6 z7 z8 z9 hw1 hw2 hw3
        go_wp2_with fail
        go_ret
        exact ⟨rfl, B3⟩
def fitK (D : MRules) (t : Int) (k : Nat) : List Int := ((List.range k).map fun (i : Nat) => (i : Int)).filter fun c => (c != t) && fitsOn D t c
theorem fitK_next (D : MRules) (t : Int) (k : Nat) : fitK D t (k + 1) = fitK D t k ++ if ((k : Int) != t && fitsOn D t k) = true then [(k : Int)] else [] := by
  unfold fitK
  rw [List.range_succ, List.map_append, List.filter_append]
  congr 1
  by_cases e : ((k : Int) != t && fitsOn D t k) = true
  · rw [if_pos e, List.map_singleton]; exact List.filter_cons_of_pos (p := fun c => (c != t) && fitsOn D t c) e
  · rw [if_neg e, List.map_singleton]; exact List.filter_cons_of_neg (p := fun c => (c != t) && fitsOn D t c) e
theorem fitK_all (D : MRules) (t : Int) : (fitK D t 52).length = fitCount D t := by
  unfold fitK fitCount
  have e : ((List.range 52).map fun (i : Nat) => (i : Int)) = deck := by unfold deck marksI; refine List.map_congr_left fun i _ => ?_; omega
  rw [e]
  cases h : (rulesB D && isCard t) with
  | false =>
    rw [if_neg (by simp)]
    have : (deck.filter fun c => (c != t) && fitsOn D t c) = [] := by
      rw [List.filter_eq_nil_iff]
      intro x _
      have h2 : fitsOn D t x = false := by unfold fitsOn; cases h3 : rulesB D <;> cases h4 : isCard t <;> rw [h3, h4] at h <;> simp_all
      rw [h2]; simp
    rw [this]; rfl
  | true =>
    rw [if_pos rfl]
    unfold without
    rw [List.filter_filter]
    congr 2
    funext x
    have h2 : fitsOn D t x = onB D t x := by unfold fitsOn onB; cases h3 : rulesB D <;> cases h4 : isCard t <;> rw [h3, h4] at h <;> simp_all
    rw [h2, Bool.and_comm]
theorem fitK_len (D : MRules) (t : Int) (k : Nat) : (fitK D t k).length ≤ k := by
  unfold fitK
  refine Nat.le_trans (List.length_filter_le _ _) ?_
  simp
set_option maxRecDepth 100000 in
set_option maxHeartbeats 1000000 in
theorem sFitCount_any (v : Value) (D : MRules) (t : Int) (w : World) (h : RdRules w v D) (hf : D.Few) (r : Nat) (hr : fitCount D t = r) :
    Calls Tryd.prog 23 #[v, .int .i64 t] w fun e w' => e = .returned (.int .i64 (r : Nat)) ∧ Below w.heap.size w w' := by
  have HS := Lib.hid (fun wx (hb : Below w.heap.size w wx) c => sFitsOn_any v D t c wx (h.below hb) hf _ rfl)
  obtain ⟨p4, p5, c4, c5, hv⟩ := h.shape
  have B0 : ∀ o1, Below w.heap.size w (w.alloc o1) := fun o1 => (Below.refl w.heap.size w).alloc (Nat.le_refl _) o1
  subst hv
  clear h hf
  have HR : Hid ((fitK D t 52).length = r) := Lib.hid ((fitK_all D t).trans hr)
  clear hr
  obtain ⟨W0, hW0⟩ : ∃ W0, W0 = w.alloc (.cells #[.int .i64 D.players, .int .i64 D.each, .bool D.sameSuit, .bool D.sameRank, .slice p4 D.wild.length c4, .slice p5 D.skip.length c5, .int .i64 D.take, .int .i64 D.limit] 29) := ⟨_, rfl⟩
  have G0 : W0.heap[w.heap.size]? = some (.cells #[.int .i64 D.players, .int .i64 D.each, .bool D.sameSuit, .bool D.sameRank, .slice p4 D.wild.length c4, .slice p5 D.skip.length c5, .int .i64 D.take, .int .i64 D.limit] 29 (0, 0)) := by rw [hW0]; exact patNew _ _
  have BW0 : Below w.heap.size w W0 := by rw [hW0]; exact B0 _
  have lW0 : w.heap.size < W0.heap.size := by rw [hW0]; simp
  have HW0 := Lib.hid hW0
  clear hW0 B0
  go_enter Tryd.func23, Tryd.ntmps23
  go_wp2_with fail
  rw [← HW0.out]
  go_loopw [5, 6] (fun o i wr => ∃ k : Nat, k ≤ 52 ∧ i = .int .i64 k ∧ Below W0.heap.size W0 wr ∧ o = .int .i64 ((fitK D t k).length : Nat)) (fun _ i _ => 52 - (intOf i).toNat)
  case atStart => exact ⟨0, Nat.zero_le _, rfl, Below.refl _ _, rfl⟩
  case round =>
    obtain ⟨k, hk, rfl, hb2, rfl⟩ := hrel
    have hle2 := fitK_len D t k
    have hBw := BW0.trans (hb2.mono BW0.size)
    by_cases hlt : k < 52
    · have hst := fitK_next D t k
      obtain ⟨k0, k1, k2, k3, k4, k5, k6, k7⟩ := SRules_cells ((hb2.block _ lW0).trans G0)
      by_cases hkt : (k : Int) = t
      · have hq : ((k : Int) != t) = false := by simp [hkt]
        rw [hq] at hst
        have hx : Hid ((fitK D t (k + 1)).length = (fitK D t k).length) := Lib.hid (by rw [hst]; simp)
        clear hst
        generalize (fitK D t k).length = m at *
        subst hkt
        go_wp2_with fail
        go_roundw
        case rel => exact ⟨k + 1, by omega, by go_num, hb2, by rw [hx.out]⟩
        case measure => simp [intOf]; omega
      · have hq : ((k : Int) != t) = true := by simp [hkt]
        have HC := Lib.hid (HS.out wr hBw k)
        rw [hq] at hst
        cases hyc : fitsOn D t k with
        | false =>
          rw [hyc] at hst HC
          have hx : Hid ((fitK D t (k + 1)).length = (fitK D t k).length) := Lib.hid (by rw [hst]; simp)
          clear hst hyc
          generalize (fitK D t k).length = m at *
          go_wp2_with fail
          refine HC.out.mono ?_
          rintro e w2 ⟨rfl, B2⟩
          have hb3 := hb2.trans (B2.mono hb2.size)
          go_wp2_with fail
          go_roundw
          case rel => exact ⟨k + 1, by omega, by go_num, hb3, by rw [hx.out]⟩
          case measure => simp [intOf]; omega
        | true =>
          rw [hyc] at hst HC
          have hx : Hid ((fitK D t (k + 1)).length = (fitK D t k).length + 1) := Lib.hid (by rw [hst]; simp)
          clear hst hyc
          generalize (fitK D t k).length = m at *
          go_wp2_with fail
          refine HC.out.mono ?_
          rintro e w2 ⟨rfl, B2⟩
          have hb3 := hb2.trans (B2.mono hb2.size)
          go_wp2_with fail
          go_roundw
          case rel => exact ⟨k + 1, by omega, by go_num, hb3, by rw [hx.out]; simp⟩
          case measure => simp [intOf]; omega
    · obtain rfl : k = 52 := by omega
      rw [HR.out]
      go_wp2_with fail
      go_ret
      exact ⟨rfl, hBw⟩
end Go.Proofs.YtonpdjgokmedjaaDoor
