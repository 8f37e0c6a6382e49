/-
  Several texts in one: The program's generic helpers over lists of numbers: only and countIf, for any function value that answers a question of a number. FitCount and SkipsIn, both sides. What can be played in a game that is taken up; Playable, the program's side.
-/
import Derived.Test.YtmhbonbjnpcpeaaGreatDoorM4
import Derived.Shelf.Abstract
import Derived.Test.YtmhbonbjnpcpeaaGreatDoorM10
import Derived.Test.YtmhbonbjnpcpeaaGreatDoorM7
import Derived.Deep.RegionHeld3
import Derived.BigQuiet
import Derived.Test.YtmhbonbjnpcpeaaGreatDoorUp
import Derived.IntWalk
namespace Go.Proofs.YtmhbonbjnpcpeaaGreatDoor
open Go.RowKit
set_option linter.unusedVariables false
set_option linter.unusedSimpArgs false

/-- The function value v answers of each number what P answers. -/
def Asks (w : World) (v : Value) (P : Int → Bool) : Prop :=
  ∃ (n : Nat) (caps : Array Value), v = .func (.func n) #[] caps ∧ Enters Tryz.prog n ∧ ∀ w', Below w.heap.size w w' → ∀ c, (Lit.int .i64 c).wf = true → Calls Tryz.prog n (#[.int .i64 c] ++ caps) w' fun e w'' => e = .returned (.bool (P c)) ∧ Below w'.heap.size w' w''
theorem Asks.below {w w1 : World} {v : Value} {P : Int → Bool} (h : Asks w v P) (b : Below w.heap.size w w1) : Asks w1 v P := by
  obtain ⟨n, caps, e, he, hc⟩ := h
  exact ⟨n, caps, e, he, fun w' b' => hc w' (b.trans (b'.mono b.size))⟩
theorem filt_take (P : Int → Bool) (zs : List Int) (k : Nat) (h : k < zs.length) : (zs.take (k + 1)).filter P = (zs.take k).filter P ++ if P zs[k] = true then [zs[k]] else [] := by
  rw [List.take_succ_eq_append_getElem h, List.filter_append]
  congr 1
  by_cases e : P zs[k] = true <;> simp [e]

set_option maxRecDepth 100000 in
set_option maxHeartbeats 1000000 in
theorem only_any (v fv : Value) (zs : List Int) (b : Nat) (P : Int → Bool) (w : World) (h : RdAt .i64 w v zs b) (hl : zs.length ≤ 1099511627776) (hP : Asks w fv P) :
    Calls Tryz.prog 63 #[v, fv] w fun e w' => ∃ v' b', e = .returned v' ∧ w.heap.size ≤ b' ∧ WrAt .i64 w' v' (zs.filter P) b' ∧ Below w.heap.size w w' := by
  obtain ⟨i0, hi, hz0, hz1, hz2⟩ := info_parts info_i64
  obtain ⟨a, cap, rfl, -, hwf, hcell⟩ := h
  obtain ⟨fn, caps, rfl, hE, hM⟩ := hP
  have HM := Lib.hid hM
  unfold Enters at hE
  clear hM
  obtain ⟨n, hn⟩ : ∃ n, n = zs.length := ⟨_, rfl⟩
  have Hn := Lib.hid hn
  rw [← hn] at hl ⊢
  clear hn
  go_enter Tryz.func63, Tryz.ntmps63
  go_wp2_with fail
  have hown0 := World.ownsRow_lit (base := w.heap.size) (e := 3) (size := 1) w #[] 0 (Nat.le_refl _) (Nat.zero_le _) rfl
  go_loopw [5, 7, 11] (fun o _ i wr => ∃ k : Nat, k ≤ n ∧ i = .int .i64 k ∧ Below w.heap.size w wr ∧ wr.ownsRow w.heap.size 3 1 o ((zs.take k).filter P).length (((zs.take k).filter P).map (Value.int .i64))) (fun _ _ i _ => n - (intOf i).toNat)
  case atStart => exact ⟨0, Nat.zero_le _, rfl, (Below.refl _ _).alloc (Nat.le_refl _) _, hown0⟩
  case round =>
    clear hown0
    obtain ⟨k, hk, rfl, hb2, hown⟩ := hrel
    by_cases hlt : k < n
    · have hzl : k < zs.length := by rw [← Hn.out]; exact hlt
      rcases hcell with h0 | ⟨off, rfl, hc⟩
      · subst h0; simp at hzl
      obtain ⟨y, hy⟩ : ∃ y, Hid (y = zs[k]) := ⟨_, Lib.hid rfl⟩
      have hc1 : wr.cell? ⟨b, off + k, none⟩ = some (.int .i64 y) := by
        have h1 := hc k hzl
        rw [hb2.cell (World.block_lt_of_cell? _ _ h1), h1, hy.out]
      have hstep := filt_take P zs k hzl
      rw [← hy.out] at hstep
      have HC := Lib.hid (HM.out wr hb2 y (by rw [hy.out]; exact hwf _ (List.getElem_mem hzl)))
      clear hc
      cases hyc : P y with
      | false =>
        rw [hyc] at hstep HC
        have hrel2 : Hid ((zs.take (k + 1)).filter P = (zs.take k).filter P) := Lib.hid (by rw [hstep]; simp)
        clear hstep hyc
        go_wp2_with fail
        refine HC.out.mono ?_
        rintro e w2 ⟨rfl, B2⟩
        have hb3 := hb2.trans (B2.mono hb2.size)
        have hown2 := own_below hown B2
        clear hown B2
        go_wp2_with fail
        go_roundw
        case rel => exact ⟨k + 1, by omega, by go_num, hb3, by rw [hrel2.out]; exact hown2⟩
        case measure => simp [intOf]; omega
      | true =>
        rw [hyc] at hstep HC
        have hrel2 : Hid ((zs.take (k + 1)).filter P = (zs.take k).filter P ++ [y]) := Lib.hid (by rw [hstep]; simp)
        have hle2 : ((zs.take k).filter P).length ≤ n := Nat.le_trans (List.length_filter_le _ _) (by rw [List.length_take, Hn.out]; omega)
        clear hstep hyc
        generalize (zs.take k).filter P = FF at *
        go_wp2_with fail
        refine HC.out.mono ?_
        rintro e w2 ⟨rfl, B2⟩
        have hb4 := hb2.trans (B2.mono hb2.size)
        have hown2 := own_below hown B2
        have hsz := hb4.size
        clear hown B2
        go_wp2_with (at_builtin; refine wpList_append_own _ rfl _ _ 22 rfl w.heap.size 3 i0 (.int .i64 0) 1 8 Tryz.underlying22 hi hz0 hz1 hz2 rfl (by decide) _ _ _ rfl (hown2.alloc _) ⟨w2.heap.size, 0, none⟩ 1 1 [.int .i64 y] rfl rfl ?c1 ?c2 ?c3 ?c4 ?c5 ?_)
        case c1 => exact cell_one_new _ _ _
        case c2 => intro u hu; simp at hu; subst hu; rfl
        case c3 => unfold maxLen; omega
        case c4 => omega
        case c5 => simp; omega
        intro v' w1 hown' hgrow _
        have hb3 : Below w.heap.size w w1 := (hb4.alloc hsz _).grown hgrow (by simp; omega) (own_block hown2)
        have hown3 := own_snoc hown'
        clear hown' hgrow hown2 hb2 hb4
        go_wp2_with fail
        go_roundw
        case rel => exact ⟨k + 1, by omega, by go_num, hb3, by rw [hrel2.out]; exact hown3⟩
        case measure => simp [intOf]; omega
    · obtain rfl : k = n := by omega
      have e : zs.take k = zs := List.take_of_length_le (by rw [Hn.out]; exact Nat.le_refl _)
      rw [e] at hown
      have hwr := Lib.hid (own_wr hown (fun x hx => hwf x (List.mem_filter.1 hx).1))
      clear hown e
      go_wp2_with fail
      go_ret
      obtain ⟨b', hb', hw'⟩ := hwr.out
      exact ⟨_, b', rfl, hb', hw', hb2⟩
end Go.Proofs.YtmhbonbjnpcpeaaGreatDoor
namespace Go.Proofs.YtmhbonbjnpcpeaaGreatDoor
open Go.RowKit
set_option linter.unusedVariables false
set_option linter.unusedSimpArgs false

def onB (D : MRules) (t c : Int) : Bool := isCard c && fitsC D t c
def fitCount (D : MRules) (t : Int) : Nat := if rulesB D && isCard t then ((without deck t).filter (onB D t)).length else 0
def skipsIn (D : MRules) (zs : List Int) : Nat := (zs.filter (doesSkip D)).length
theorem tenCells {w : World} {b : Nat} {a0 a1 a2 a3 a4 a5 a6 a7 a8 a9 : Value} {t : TypeId} {fr : Nat × Nat} (h : w.heap[b]? = some (.cells #[a0, a1, a2, a3, a4, a5, a6, a7, a8, a9] t fr)) : w.cell? ⟨b, 0, none⟩ = some a0 ∧ w.cell? ⟨b, 1, none⟩ = some a1 ∧ w.cell? ⟨b, 2, none⟩ = some a2 ∧ w.cell? ⟨b, 3, none⟩ = some a3 ∧ w.cell? ⟨b, 4, none⟩ = some a4 ∧ w.cell? ⟨b, 5, none⟩ = some a5 ∧ w.cell? ⟨b, 6, none⟩ = some a6 ∧ w.cell? ⟨b, 7, none⟩ = some a7 ∧ w.cell? ⟨b, 8, none⟩ = some a8 ∧ w.cell? ⟨b, 9, none⟩ = some a9 := by
  simp [World.cell?, h]
set_option maxRecDepth 100000 in
set_option maxHeartbeats 2000000 in
theorem onAsks (L : Nat) (D : MRules) (p4 p5 : Option Addr) (c4 c5 nf ng : Nat) (cf cg : Array Value) (G : Int → Bool) (t : Int) (w : World) (hm : Means L w (.func (.func nf) #[] cf) (orF0 D.wild)) (hm' : Means L w (.func (.func ng) #[] cg) G) (t0 : 0 ≤ t) (t1 : t ≤ 51) (o1 o2 : Obj) (u1 u2 : TypeId)
    (h1 : o1 = .cells #[.int .i64 D.players, .int .i64 D.each, .bool D.sameSuit, .bool D.sameRank, .slice p4 D.wild.length c4, .slice p5 D.skip.length c5, .int .i64 D.take, .int .i64 D.limit, .func (.func nf) #[] cf, .func (.func ng) #[] cg] u1) (h2 : o2 = .cells #[.int .u8 t] u2) : Asks ((w.alloc o1).alloc o2) (.func (.func 64) #[] #[.pointer (some ⟨w.heap.size, 0, none⟩), .pointer (some ⟨w.heap.size + 1, 0, none⟩)]) (onB D t) := by
  refine ⟨_, _, rfl, enters_of Tryz.func64 (by kernel_rfl) rfl, fun w' hb c hc => ?_⟩
  obtain ⟨Bw, G1, G2⟩ := two_boxesR hb
  subst h1 h2
  have HFi := Lib.hid (fun (c0 : 0 ≤ c) (c1 : c ≤ 51) => fits_any L D.players D.each D.take D.limit D.sameSuit D.sameRank p4 p5 D.wild.length c4 D.skip.length c5 _ _ _ _ t c w' (hm.below Bw) (hm'.below Bw) t0 t1 c0 c1 (fitsC D t c) rfl)
  obtain ⟨k0, k1, k2, k3, k4, k5, k6, k7, k8, k9⟩ := tenCells G1
  have kt := patCell G2
  clear hm hm' hb G1 G2
  unfold onB
  cases hcc : isCard c with
  | false =>
    have HC := Lib.hid (cardOf_out c w' hcc)
    clear hcc HFi
    go_enter Tryz.func64, Tryz.ntmps64
    go_wp2_with fail
    refine HC.out.mono ?_
    rintro e _w ⟨rfl, rfl⟩
    go_wp2_with fail
    go_ret
    exact ⟨rfl, Below.refl _ _⟩
  | true =>
    have HC := Lib.hid (cardOf_in c w' hcc)
    obtain ⟨c0, c1⟩ := isCard_t hcc
    have HFi2 := Lib.hid (HFi.out c0 c1)
    clear hcc HFi
    generalize fitsC D t c = r at *
    go_enter Tryz.func64, Tryz.ntmps64
    go_wp2_with fail
    refine HC.out.mono ?_
    rintro e _w ⟨rfl, rfl⟩
    go_wp2_with fail
    refine HFi2.out.mono ?_
    rintro e w2 ⟨rfl, B2⟩
    go_wp2_with fail
    go_ret
    exact ⟨rfl, B2⟩
set_option maxRecDepth 100000 in
set_option maxHeartbeats 2000000 in
theorem cardsOn_any (L : Nat) (D : MRules) (p4 p5 : Option Addr) (c4 c5 nf ng : Nat) (cf cg : Array Value) (G : Int → Bool) (t : Int) (v : Value) (zs : List Int) (b : Nat) (w : World) (hm : Means L w (.func (.func nf) #[] cf) (orF0 D.wild)) (hm' : Means L w (.func (.func ng) #[] cg) G) (t0 : 0 ≤ t) (t1 : t ≤ 51) (hz : RdAt .i64 w v zs b) (hl : zs.length ≤ 1099511627776) :
    Calls Tryz.prog 48 #[.agg #[.int .i64 D.players, .int .i64 D.each, .bool D.sameSuit, .bool D.sameRank, .slice p4 D.wild.length c4, .slice p5 D.skip.length c5, .int .i64 D.take, .int .i64 D.limit, .func (.func nf) #[] cf, .func (.func ng) #[] cg], .int .u8 t, v] w fun e w' => ∃ v' b', e = .returned v' ∧ w.heap.size ≤ b' ∧ WrAt .i64 w' v' (zs.filter (onB D t)) b' ∧ Below w.heap.size w w' := by
  have hmf : ∀ (fn : Fn) (first cap : Array Value) (w : World), (Instr.makeFunc fn first cap).run Tryz.prog w = .ok (.func fn first cap) w := fun _ _ _ _ => rfl
  have HA := Lib.hid (fun o1 o2 u1 u2 h1 h2 => onAsks L D p4 p5 c4 c5 nf ng cf cg G t w hm hm' t0 t1 o1 o2 u1 u2 h1 h2)
  have B0 : ∀ o1 o2, Below w.heap.size w ((w.alloc o1).alloc o2) := fun o1 o2 => ((Below.refl w.heap.size w).alloc (Nat.le_refl _) o1).alloc (by simp) o2
  have HO := Lib.hid (fun o1 o2 fv (hA : Asks ((w.alloc o1).alloc o2) fv (onB D t)) => only_any v fv zs b (onB D t) ((w.alloc o1).alloc o2) (hz.below (B0 o1 o2)) hl hA)
  clear hm hm' hz
  generalize zs.filter (onB D t) = FF at *
  go_enter Tryz.func48, Tryz.ntmps48
  go_wp2_with fail
  refine (HO.out _ _ _ (HA.out _ _ _ _ rfl rfl)).mono ?_
  rintro e w1 ⟨v', b', rfl, hb', hw', B1⟩
  have B2 := (B0 _ _).trans (B1.mono (B0 _ _).size)
  have hb2 : w.heap.size ≤ b' := Nat.le_trans (B0 _ _).size hb'
  have hw2 := Lib.hid hw'
  clear hw' B1 hb'
  go_wp2_with fail
  go_ret
  exact ⟨_, b', rfl, hb2, hw2.out, B2⟩
end Go.Proofs.YtmhbonbjnpcpeaaGreatDoor
namespace Go.Proofs.YtmhbonbjnpcpeaaGreatDoor
open Go.RowKit
set_option linter.unusedVariables false
set_option linter.unusedSimpArgs false

theorem sort_filter (zs : List Int) (P : Int → Bool) : sortI (zs.filter P) = (sortI zs).filter P :=
  (sortI_unique ((sortI_perm zs).filter P) ((sortI_sorted zs).filter P)).symm
theorem game_cards {D : MGame} (h : gameB D = true) : ∀ x ∈ allG D, isCard x = true := by
  have := (game_52 h).2
  rw [isHand_nodup] at this
  exact (of_decide_eq_true this).2
theorem game_topCard {D : MGame} (h : gameB D = true) : isCard (topG D) = true := by
  obtain ⟨L, hL⟩ := game_top h
  refine game_cards h _ ?_
  unfold topG allG
  rw [show D.heap.length - 1 = L by omega, show D.heap.getD L 0 = D.heap[L]'(by omega) by simp [List.getD, show L < D.heap.length by omega]]
  exact List.mem_append_right _ (List.mem_append_right _ (List.getElem_mem _))
theorem fit_on {D : MGame} (h : gameB D = true) : onB D.rules (topG D) = fitF D := by
  have ht := game_topCard h
  have hr : rulesB D.rules = true := by
    unfold gameB at h
    simp only [Bool.and_eq_true] at h
    exact h.1
  funext c
  unfold onB fitF fitsOn
  rw [ht, hr]; rfl
theorem cells17 {w : World} {b : Nat} {a0 a1 a2 a3 a4 a5 a6 a7 a8 a9 a10 a11 a12 a13 a14 a15 a16 : Value} {t : TypeId} {fr : Nat × Nat} (h : w.heap[b]? = some (.cells #[a0, a1, a2, a3, a4, a5, a6, a7, a8, a9, a10, a11, a12, a13, a14, a15, a16] t fr)) : w.cell? ⟨b, 0, none⟩ = some a0 ∧ w.cell? ⟨b, 1, none⟩ = some a1 ∧ w.cell? ⟨b, 2, none⟩ = some a2 ∧ w.cell? ⟨b, 3, none⟩ = some a3 ∧ w.cell? ⟨b, 4, none⟩ = some a4 ∧ w.cell? ⟨b, 5, none⟩ = some a5 ∧ w.cell? ⟨b, 6, none⟩ = some a6 ∧ w.cell? ⟨b, 7, none⟩ = some a7 ∧ w.cell? ⟨b, 8, none⟩ = some a8 ∧ w.cell? ⟨b, 9, none⟩ = some a9 ∧ w.cell? ⟨b, 10, none⟩ = some a10 ∧ w.cell? ⟨b, 11, none⟩ = some a11 ∧ w.cell? ⟨b, 12, none⟩ = some a12 ∧ w.cell? ⟨b, 13, none⟩ = some a13 ∧ w.cell? ⟨b, 14, none⟩ = some a14 ∧ w.cell? ⟨b, 15, none⟩ = some a15 ∧ w.cell? ⟨b, 16, none⟩ = some a16 := by
  simp [World.cell?, h]
set_option maxRecDepth 100000 in
set_option maxHeartbeats 1000000 in
theorem top_any (g b off n c L : Nat) (top : Int) (w : World) (h1 : w.cell? ⟨g, 13, none⟩ = some (.slice (some ⟨b, off, none⟩) n c)) (hn : n = L + 1) (hl : n ≤ 1048576) (h2 : w.cell? ⟨b, off + L, none⟩ = some (.int .i64 top)) :
    Calls Tryz.prog 46 #[.pointer (some ⟨g, 13, none⟩)] w fun e w' => e = .returned (.int .i64 top) ∧ Below w.heap.size w w' := by
  have HC := Lib.hid (fun wx (hb : Below w.heap.size w wx) => And.intro ((hb.cell (World.block_lt_of_cell? _ _ h1)).trans h1) ((hb.cell (World.block_lt_of_cell? _ _ h2)).trans h2))
  have hw0 : IntKind.i64.wrap ((n : Int) - 1) = (L : Int) := by rw [IntWalk.i64_in _ (by omega)]; omega
  have hl2 : (L : Int) < (n : Int) := by omega
  clear hn h1 h2
  go_enter Tryz.func46, Tryz.ntmps46
  go_upto_region 1 with fail
  refine wp_region_table [(0, some 3, .is (.pointer (some ⟨g, 13, none⟩))), (1, some 4, .is (.pointer (some ⟨g, 13, none⟩))), (2, some 5, .is (.pointer (some ⟨g, 13, none⟩))), (3, some 6, .is (.slice (some ⟨b, off, none⟩) n c)), (4, some 7, .is (.pointer (some ⟨g, 13, none⟩))), (5, some 8, .is (.pointer (some ⟨g, 13, none⟩))), (6, some 9, .is (.pointer (some ⟨g, 13, none⟩))), (7, some 10, .is (.slice (some ⟨b, off, none⟩) n c)), (8, some 11, .is (.int .i64 n)), (9, some 12, .is (.int .i64 L)), (10, some 13, .is (.pointer (some ⟨b, off + L, none⟩))), (11, some 14, .is (.int .i64 top))] 1 (by kernel_rfl) (by kernel_rfl) (by kernel_rfl) (by kernel_rfl) (by kernel_rfl) (L := #[true, true, true, true, true, true, true, true, true, true, true, true, false]) (by kernel_rfl) ?steps ?fin
  case steps =>
    refine StepsT.cons [] (by simp only [List.getElem?_toArray, List.getElem?_cons_succ, List.getElem?_cons_zero]; rfl) (by kernel_rfl) (by rfl) (fun wx val iv hB hV K hK => ?_) ?_
    · clear hV; simp only [putT, List.foldl_cons, List.foldl_nil, Made.val, Act.put, List.setIfInBounds_toArray, List.set_cons_zero, List.set_cons_succ]; go_simp; exact hK.out _ _ rfl (Below.refl _ _)
    refine StepsT.cons [(0, some 3, .is (.pointer (some ⟨g, 13, none⟩)))] (by simp only [List.getElem?_toArray, List.getElem?_cons_succ, List.getElem?_cons_zero]; rfl) (by kernel_rfl) (by rfl) (fun wx val iv hB hV K hK => ?_) ?_
    · clear hV; simp only [putT, List.foldl_cons, List.foldl_nil, Made.val, Act.put, List.setIfInBounds_toArray, List.set_cons_zero, List.set_cons_succ]; go_simp; exact hK.out _ _ rfl (Below.refl _ _)
    refine StepsT.cons [(1, some 4, .is (.pointer (some ⟨g, 13, none⟩)))] (by simp only [List.getElem?_toArray, List.getElem?_cons_succ, List.getElem?_cons_zero]; rfl) (by kernel_rfl) (by rfl) (fun wx val iv hB hV K hK => ?_) ?_
    · clear hV; simp only [putT, List.foldl_cons, List.foldl_nil, Made.val, Act.put, List.setIfInBounds_toArray, List.set_cons_zero, List.set_cons_succ]; go_simp; exact hK.out _ _ rfl (Below.refl _ _)
    refine StepsT.cons [(2, some 5, .is (.pointer (some ⟨g, 13, none⟩)))] (by simp only [List.getElem?_toArray, List.getElem?_cons_succ, List.getElem?_cons_zero]; rfl) (by kernel_rfl) (by rfl) (fun wx val iv hB hV K hK => ?_) ?_
    · (obtain ⟨k1, k2⟩ := HC.out wx hB); clear hV; simp only [putT, List.foldl_cons, List.foldl_nil, Made.val, Act.put, List.setIfInBounds_toArray, List.set_cons_zero, List.set_cons_succ]; go_simp; exact hK.out _ _ rfl (Below.refl _ _)
    refine StepsT.cons [] (by simp only [List.getElem?_toArray, List.getElem?_cons_succ, List.getElem?_cons_zero]; rfl) (by kernel_rfl) (by rfl) (fun wx val iv hB hV K hK => ?_) ?_
    · clear hV; simp only [putT, List.foldl_cons, List.foldl_nil, Made.val, Act.put, List.setIfInBounds_toArray, List.set_cons_zero, List.set_cons_succ]; go_simp; exact hK.out _ _ rfl (Below.refl _ _)
    refine StepsT.cons [(4, some 7, .is (.pointer (some ⟨g, 13, none⟩)))] (by simp only [List.getElem?_toArray, List.getElem?_cons_succ, List.getElem?_cons_zero]; rfl) (by kernel_rfl) (by rfl) (fun wx val iv hB hV K hK => ?_) ?_
    · clear hV; simp only [putT, List.foldl_cons, List.foldl_nil, Made.val, Act.put, List.setIfInBounds_toArray, List.set_cons_zero, List.set_cons_succ]; go_simp; exact hK.out _ _ rfl (Below.refl _ _)
    refine StepsT.cons [(5, some 8, .is (.pointer (some ⟨g, 13, none⟩)))] (by simp only [List.getElem?_toArray, List.getElem?_cons_succ, List.getElem?_cons_zero]; rfl) (by kernel_rfl) (by rfl) (fun wx val iv hB hV K hK => ?_) ?_
    · clear hV; simp only [putT, List.foldl_cons, List.foldl_nil, Made.val, Act.put, List.setIfInBounds_toArray, List.set_cons_zero, List.set_cons_succ]; go_simp; exact hK.out _ _ rfl (Below.refl _ _)
    refine StepsT.cons [(6, some 9, .is (.pointer (some ⟨g, 13, none⟩)))] (by simp only [List.getElem?_toArray, List.getElem?_cons_succ, List.getElem?_cons_zero]; rfl) (by kernel_rfl) (by rfl) (fun wx val iv hB hV K hK => ?_) ?_
    · (obtain ⟨k1, k2⟩ := HC.out wx hB); clear hV; simp only [putT, List.foldl_cons, List.foldl_nil, Made.val, Act.put, List.setIfInBounds_toArray, List.set_cons_zero, List.set_cons_succ]; go_simp; exact hK.out _ _ rfl (Below.refl _ _)
    refine StepsT.cons [(7, some 10, .is (.slice (some ⟨b, off, none⟩) n c))] (by simp only [List.getElem?_toArray, List.getElem?_cons_succ, List.getElem?_cons_zero]; rfl) (by kernel_rfl) (by rfl) (fun wx val iv hB hV K hK => ?_) ?_
    · clear hV; simp only [putT, List.foldl_cons, List.foldl_nil, Made.val, Act.put, List.setIfInBounds_toArray, List.set_cons_zero, List.set_cons_succ]; go_simp; exact hK.out _ _ rfl (Below.refl _ _)
    refine StepsT.cons [(8, some 11, .is (.int .i64 n))] (by simp only [List.getElem?_toArray, List.getElem?_cons_succ, List.getElem?_cons_zero]; rfl) (by kernel_rfl) (by rfl) (fun wx val iv hB hV K hK => ?_) ?_
    · clear hV; simp only [putT, List.foldl_cons, List.foldl_nil, Made.val, Act.put, List.setIfInBounds_toArray, List.set_cons_zero, List.set_cons_succ]; go_simp; exact hK.out _ _ rfl (Below.refl _ _)
    refine StepsT.cons [(3, some 6, .is (.slice (some ⟨b, off, none⟩) n c)), (9, some 12, .is (.int .i64 L))] (by simp only [List.getElem?_toArray, List.getElem?_cons_succ, List.getElem?_cons_zero]; rfl) (by kernel_rfl) (by rfl) (fun wx val iv hB hV K hK => ?_) ?_
    · (obtain ⟨k1, k2⟩ := HC.out wx hB); clear hV; simp only [putT, List.foldl_cons, List.foldl_nil, Made.val, Act.put, List.setIfInBounds_toArray, List.set_cons_zero, List.set_cons_succ]; go_simp; exact hK.out _ _ rfl (Below.refl _ _)
    refine StepsT.cons [(10, some 13, .is (.pointer (some ⟨b, off + L, none⟩)))] (by simp only [List.getElem?_toArray, List.getElem?_cons_succ, List.getElem?_cons_zero]; rfl) (by kernel_rfl) (by rfl) (fun wx val iv hB hV K hK => ?_) ?_
    · (obtain ⟨k1, k2⟩ := HC.out wx hB); clear hV; simp only [putT, List.foldl_cons, List.foldl_nil, Made.val, Act.put, List.setIfInBounds_toArray, List.set_cons_zero, List.set_cons_succ]; go_simp; exact hK.out _ _ rfl (Below.refl _ _)
    exact StepsT.nil
  case fin =>
    intro wx val iv BX hV hD
    clear hV hD
    simp only [putT, List.foldl_cons, List.foldl_nil, Made.val, Act.put, List.setIfInBounds_toArray, List.set_cons_zero, List.set_cons_succ]
    refine wpAny_one (i := 12) (by kernel_rfl) (by simp only [List.getElem?_toArray, List.getElem?_cons_succ, List.getElem?_cons_zero]; rfl) (fun K hK => ?_)
    go_simp
    refine hK.out _ _ ?_
    clear hK K
    refine wpAny_end (by kernel_rfl) ?_
    go_wp2_with fail
    go_ret
    exact ⟨rfl, BX⟩
set_option maxRecDepth 100000 in
set_option maxHeartbeats 2000000 in
theorem playableU_any (g L : Nat) (D : MGame) (wc w : World) (v4 v5 : Value) (nf ng : Nat) (cf cg : Array Value) (q8 qc : Option Addr) (d8 dc : Nat) (S8 Sc : Nat → Prop) (hf : D.Few) (hgo : goesOn D = true) (hU : Up L wc w D v4 v5 (.func (.func nf) #[] cf) (.func (.func ng) #[] cg) q8 qc d8 dc S8 Sc)
    (hG : w.heap[g]? = some (.cells #[.int .i64 D.rules.players, .int .i64 D.rules.each, .bool D.rules.sameSuit, .bool D.rules.sameRank, v4, v5, .int .i64 D.rules.take, .int .i64 D.rules.limit, .func (.func nf) #[] cf, .func (.func ng) #[] cg, .slice q8 D.hands.length d8, .int .i64 D.rules.players, .int .i64 D.turn, .slice qc (D.stock.length + D.heap.length) dc, .int .i64 D.stock.length, .int .i64 D.moves, .int .i64 D.passes] 67 (0, 0))) :
    Calls Tryz.prog 31 #[.pointer (some ⟨g, 0, none⟩)] w fun e w' => ∃ v', e = .returned v' ∧ OwnI (In w.heap.size w'.heap.size) w' v' (playableG D) ∧ Below w.heap.size w w' := by
  obtain ⟨hgb, -⟩ := goes_game hgo
  obtain ⟨t, ht, htl, -, -, -, -, -, -, -, -, -, -⟩ := game_nums hgb
  obtain ⟨T, hT⟩ := game_top hgb
  have htc := game_topCard hgb
  have hon := fit_on hgb
  obtain ⟨-, f8, fs8, f9, f10⟩ := hf
  obtain ⟨hrd, hkeep, hle, ⟨b4, hr4, hb4⟩, ⟨b5, hr5, hb5⟩, hh, hc, i8, ic, ap⟩ := hU
  obtain ⟨p4, c4, e4, -⟩ := id hr4
  obtain ⟨p5, c5, e5, -⟩ := id hr5
  subst e4 e5
  obtain ⟨b8, cap, r, e8, -, -, hrc, -, hro⟩ := hh.row htl
  have e8 := (Value.slice.inj e8).1
  subst e8
  obtain ⟨pr, cr, er⟩ := hro.shape
  subst er
  obtain ⟨zr, hzr⟩ : ∃ z, z = D.hands[t]'htl := ⟨_, rfl⟩
  have hz : handG D = zr := by unfold handG; rw [hzr, ht]; simp [List.getD, htl]
  have hsm : D.hands[t].length ≤ 1048576 := Nat.le_trans (len_le_sum D.hands htl) fs8
  rw [← hzr] at hrc hro hsm
  obtain ⟨top, htop⟩ : ∃ x, x = topG D := ⟨_, rfl⟩
  rw [← htop] at htc hon
  obtain ⟨bc, hcw, -⟩ := hc.wr
  obtain ⟨oc, hqc, hct⟩ : ∃ oc, qc = some ⟨bc, oc, none⟩ ∧ w.cell? ⟨bc, oc + (D.stock.length + T), none⟩ = some (.int .i64 top) := by
    rcases hcw.rd.open with ⟨e, -⟩ | ⟨-, off, cc, hv, -, hcl⟩
    · have := congrArg List.length e
      rw [List.length_append, hT] at this; simp at this
    · refine ⟨off, (Value.slice.inj hv).1, ?_⟩
      have := hcl (D.stock.length + T) (by rw [List.length_append]; omega)
      rw [this, htop]
      unfold topG
      rw [List.getElem_append_right (by omega)]
      simp [List.getD, hT]
  subst hqc
  have HT := Lib.hid (top_any g bc oc (D.stock.length + D.heap.length) dc (D.stock.length + T) top w (cells17 hG).2.2.2.2.2.2.2.2.2.2.2.2.2.1 (by omega) (by have := (game_52 hgb).1; omega) hct)
  have HCo := Lib.hid (fun wx => cardOf_in top wx htc)
  obtain ⟨tc0, tc1⟩ := isCard_t htc
  have HOn0 := Lib.hid (fun wx (hb : Below w.heap.size w wx) => cardsOn_any L D.rules p4 p5 c4 c5 nf ng cf cg (orF0 D.rules.skip) top (.slice pr zr.length cr) zr _ wx ((hrd.2.2.1.keep hkeep).below hb) ((hrd.2.2.2.keep hkeep).below hb) tc0 tc1 ((Classical.choose_spec (hro.wr.below hb).rd)) (by omega))
  have hfl : (zr.filter (onB D.rules top)).length ≤ 1099511627776 := Nat.le_trans (List.length_filter_le _ _) (by omega)
  have hwfz : ∀ x ∈ sortI (zr.filter (onB D.rules top)), (Lit.int .i64 x).wf = true := sortI_wf _ (fun x hx => hro.1 x (List.mem_filter.1 hx).1)
  have HSo0 : Hid (∀ wx v b, RdAt .i64 wx v (zr.filter (onB D.rules top)) b → Calls Tryz.prog 47 #[v] wx fun e w' => ∃ v', e = .returned v' ∧ OwnI (In wx.heap.size w'.heap.size) w' v' (sortI (zr.filter (onB D.rules top))) ∧ Below wx.heap.size wx w') := Lib.hid (fun wx v b h => (sorted_own v _ b wx h hfl).mono (fun e w' ⟨v', he, ho, hb⟩ => ⟨v', he, OwnI.of ho hwfz, hb⟩))
  have HC0 : Hid (∀ wx, Below w.heap.size w wx → wx.heap[g]? = some (.cells #[.int .i64 D.rules.players, .int .i64 D.rules.each, .bool D.rules.sameSuit, .bool D.rules.sameRank, .slice p4 D.rules.wild.length c4, .slice p5 D.rules.skip.length c5, .int .i64 D.rules.take, .int .i64 D.rules.limit, .func (.func nf) #[] cf, .func (.func ng) #[] cg, .slice (some ⟨b8, 0, none⟩) D.hands.length d8, .int .i64 D.rules.players, .int .i64 t, .slice (some ⟨bc, oc, none⟩) (D.stock.length + D.heap.length) dc, .int .i64 D.stock.length, .int .i64 D.moves, .int .i64 D.passes] 67 (0, 0)) ∧ wx.cell? ⟨b8, t, none⟩ = some (.slice pr zr.length cr)) := Lib.hid (fun wx hb => by
    have := (hb.block _ (Array.getElem?_eq_some_iff.1 hG).1).trans hG
    rw [ht] at this
    exact ⟨this, (hb.cell (World.block_lt_of_cell? _ _ hrc)).trans hrc⟩)
  have hti : (t : Int) < (D.hands.length : Int) := by omega
  have HP : Hid (playableG D = sortI (zr.filter (onB D.rules top))) := Lib.hid (by rw [playable_t hgo, hz, sort_filter, hon])
  clear hfl hwfz tc0 tc1 hct hcw hzr hz hsm htop htc hon hrc hro hh hc i8 ic ap hrd hkeep hle hr4 hb4 hr5 hb5 f8 fs8 f9 f10 hT hgb hgo htl
  obtain ⟨G0, -⟩ := HC0.out w (Below.refl _ _)
  obtain ⟨k0, k1, k2, k3, k4, k5, k6, k7, k8, k9, k10, k11, k12, k13, k14, k15, k16⟩ := cells17 G0
  clear G0 hG ht
  go_enter Tryz.func31, Tryz.ntmps31
  go_wp2_with fail
  refine HT.out.mono ?_
  rintro e w1 ⟨rfl, B1⟩
  have HC := Lib.hid (fun wx (hb : Below w1.heap.size w1 wx) => And.intro (cells17 (HC0.out wx (B1.trans (hb.mono B1.size))).1) (HC0.out wx (B1.trans (hb.mono B1.size))).2)
  have HOn := Lib.hid (fun wx (hb : Below w1.heap.size w1 wx) => HOn0.out wx (B1.trans (hb.mono B1.size)))
  have HSo := Lib.hid (fun wx v b (h : RdAt .i64 wx v (zr.filter (onB D.rules top)) b) => HSo0.out wx v b h)
  have HB1 := Lib.hid B1
  clear k0 k1 k2 k3 k4 k5 k6 k7 k8 k9 k10 k11 k12 k13 k14 k15 k16 B1
  go_wp2_with fail
  refine (HCo.out _).mono ?_
  rintro e _w ⟨rfl, rfl⟩
  go_upto_region 2 with fail
  refine wp_region_table [(0, some 13, .is (.pointer (some ⟨g, 0, none⟩))), (1, some 14, .is (.pointer (some ⟨g, 0, none⟩))), (2, some 15, .is (.pointer (some ⟨g, 0, none⟩))), (3, some 16, .is (.agg #[.int .i64 D.rules.players, .int .i64 D.rules.each, .bool D.rules.sameSuit, .bool D.rules.sameRank, .slice p4 D.rules.wild.length c4, .slice p5 D.rules.skip.length c5, .int .i64 D.rules.take, .int .i64 D.rules.limit, .func (.func nf) #[] cf, .func (.func ng) #[] cg])), (4, some 17, .is (.int .u8 top)), (5, some 18, .is (.pointer (some ⟨g, 0, none⟩))), (6, some 19, .is (.pointer (some ⟨g, 0, none⟩))), (7, some 20, .is (.pointer (some ⟨g, 10, none⟩))), (8, some 21, .is (.slice (some ⟨b8, 0, none⟩) D.hands.length d8)), (9, some 22, .is (.pointer (some ⟨g, 0, none⟩))), (10, some 23, .is (.pointer (some ⟨g, 0, none⟩))), (11, some 24, .is (.pointer (some ⟨g, 11, none⟩))), (12, some 25, .is (.pointer (some ⟨g, 12, none⟩))), (13, some 26, .is (.int .i64 t)), (14, some 27, .is (.pointer (some ⟨b8, t, none⟩))), (15, some 28, .is (.slice pr zr.length cr)), (16, some 29, .own (fun S w v => ∃ b, RdAt .i64 w v (zr.filter (onB D.rules top)) b) (fun S w w' v h b => by obtain ⟨x, h⟩ := h; exact ⟨x, h.below b⟩)), (17, some 30, .ints (sortI (zr.filter (onB D.rules top))))] 1 (by kernel_rfl) (by kernel_rfl) (by kernel_rfl) (by kernel_rfl) (by kernel_rfl) (L := #[true, true, true, true, true, true, true, true, true, true, true, true, true, true, true, true, true, true, false]) (by kernel_rfl) ?steps ?fin
  case steps =>
    refine StepsT.cons [] (by simp only [List.getElem?_toArray, List.getElem?_cons_succ, List.getElem?_cons_zero]; rfl) (by kernel_rfl) (by rfl) (fun wx val iv hB hV K hK => ?_) ?_
    · clear hV; simp only [putT, List.foldl_cons, List.foldl_nil, Made.val, Act.put, List.setIfInBounds_toArray, List.set_cons_zero, List.set_cons_succ]; go_simp; exact hK.out _ _ rfl (Below.refl _ _)
    refine StepsT.cons [(0, some 13, .is (.pointer (some ⟨g, 0, none⟩)))] (by simp only [List.getElem?_toArray, List.getElem?_cons_succ, List.getElem?_cons_zero]; rfl) (by kernel_rfl) (by rfl) (fun wx val iv hB hV K hK => ?_) ?_
    · clear hV; simp only [putT, List.foldl_cons, List.foldl_nil, Made.val, Act.put, List.setIfInBounds_toArray, List.set_cons_zero, List.set_cons_succ]; go_simp; exact hK.out _ _ rfl (Below.refl _ _)
    refine StepsT.cons [(1, some 14, .is (.pointer (some ⟨g, 0, none⟩)))] (by simp only [List.getElem?_toArray, List.getElem?_cons_succ, List.getElem?_cons_zero]; rfl) (by kernel_rfl) (by rfl) (fun wx val iv hB hV K hK => ?_) ?_
    · clear hV; simp only [putT, List.foldl_cons, List.foldl_nil, Made.val, Act.put, List.setIfInBounds_toArray, List.set_cons_zero, List.set_cons_succ]; go_simp; exact hK.out _ _ rfl (Below.refl _ _)
    refine StepsT.cons [(2, some 15, .is (.pointer (some ⟨g, 0, none⟩)))] (by simp only [List.getElem?_toArray, List.getElem?_cons_succ, List.getElem?_cons_zero]; rfl) (by kernel_rfl) (by rfl) (fun wx val iv hB hV K hK => ?_) ?_
    · (obtain ⟨⟨k0, k1, k2, k3, k4, k5, k6, k7, k8, k9, k10, k11, k12, k13, k14, k15, k16⟩, kr⟩ := HC.out wx hB); clear hV; simp only [putT, List.foldl_cons, List.foldl_nil, Made.val, Act.put, List.setIfInBounds_toArray, List.set_cons_zero, List.set_cons_succ]; go_simp; exact hK.out _ _ rfl (Below.refl _ _)
    refine StepsT.cons [] (by simp only [List.getElem?_toArray, List.getElem?_cons_succ, List.getElem?_cons_zero]; rfl) (by kernel_rfl) (by rfl) (fun wx val iv hB hV K hK => ?_) ?_
    · clear hV; simp only [putT, List.foldl_cons, List.foldl_nil, Made.val, Act.put, List.setIfInBounds_toArray, List.set_cons_zero, List.set_cons_succ]; go_simp; exact hK.out _ _ rfl (Below.refl _ _)
    refine StepsT.cons [] (by simp only [List.getElem?_toArray, List.getElem?_cons_succ, List.getElem?_cons_zero]; rfl) (by kernel_rfl) (by rfl) (fun wx val iv hB hV K hK => ?_) ?_
    · clear hV; simp only [putT, List.foldl_cons, List.foldl_nil, Made.val, Act.put, List.setIfInBounds_toArray, List.set_cons_zero, List.set_cons_succ]; go_simp; exact hK.out _ _ rfl (Below.refl _ _)
    refine StepsT.cons [(5, some 18, .is (.pointer (some ⟨g, 0, none⟩)))] (by simp only [List.getElem?_toArray, List.getElem?_cons_succ, List.getElem?_cons_zero]; rfl) (by kernel_rfl) (by rfl) (fun wx val iv hB hV K hK => ?_) ?_
    · clear hV; simp only [putT, List.foldl_cons, List.foldl_nil, Made.val, Act.put, List.setIfInBounds_toArray, List.set_cons_zero, List.set_cons_succ]; go_simp; exact hK.out _ _ rfl (Below.refl _ _)
    refine StepsT.cons [(6, some 19, .is (.pointer (some ⟨g, 0, none⟩)))] (by simp only [List.getElem?_toArray, List.getElem?_cons_succ, List.getElem?_cons_zero]; rfl) (by kernel_rfl) (by rfl) (fun wx val iv hB hV K hK => ?_) ?_
    · clear hV; simp only [putT, List.foldl_cons, List.foldl_nil, Made.val, Act.put, List.setIfInBounds_toArray, List.set_cons_zero, List.set_cons_succ]; go_simp; exact hK.out _ _ rfl (Below.refl _ _)
    refine StepsT.cons [(7, some 20, .is (.pointer (some ⟨g, 10, none⟩)))] (by simp only [List.getElem?_toArray, List.getElem?_cons_succ, List.getElem?_cons_zero]; rfl) (by kernel_rfl) (by rfl) (fun wx val iv hB hV K hK => ?_) ?_
    · (obtain ⟨⟨k0, k1, k2, k3, k4, k5, k6, k7, k8, k9, k10, k11, k12, k13, k14, k15, k16⟩, kr⟩ := HC.out wx hB); clear hV; simp only [putT, List.foldl_cons, List.foldl_nil, Made.val, Act.put, List.setIfInBounds_toArray, List.set_cons_zero, List.set_cons_succ]; go_simp; exact hK.out _ _ rfl (Below.refl _ _)
    refine StepsT.cons [] (by simp only [List.getElem?_toArray, List.getElem?_cons_succ, List.getElem?_cons_zero]; rfl) (by kernel_rfl) (by rfl) (fun wx val iv hB hV K hK => ?_) ?_
    · clear hV; simp only [putT, List.foldl_cons, List.foldl_nil, Made.val, Act.put, List.setIfInBounds_toArray, List.set_cons_zero, List.set_cons_succ]; go_simp; exact hK.out _ _ rfl (Below.refl _ _)
    refine StepsT.cons [(9, some 22, .is (.pointer (some ⟨g, 0, none⟩)))] (by simp only [List.getElem?_toArray, List.getElem?_cons_succ, List.getElem?_cons_zero]; rfl) (by kernel_rfl) (by rfl) (fun wx val iv hB hV K hK => ?_) ?_
    · clear hV; simp only [putT, List.foldl_cons, List.foldl_nil, Made.val, Act.put, List.setIfInBounds_toArray, List.set_cons_zero, List.set_cons_succ]; go_simp; exact hK.out _ _ rfl (Below.refl _ _)
    refine StepsT.cons [(10, some 23, .is (.pointer (some ⟨g, 0, none⟩)))] (by simp only [List.getElem?_toArray, List.getElem?_cons_succ, List.getElem?_cons_zero]; rfl) (by kernel_rfl) (by rfl) (fun wx val iv hB hV K hK => ?_) ?_
    · clear hV; simp only [putT, List.foldl_cons, List.foldl_nil, Made.val, Act.put, List.setIfInBounds_toArray, List.set_cons_zero, List.set_cons_succ]; go_simp; exact hK.out _ _ rfl (Below.refl _ _)
    refine StepsT.cons [(11, some 24, .is (.pointer (some ⟨g, 11, none⟩)))] (by simp only [List.getElem?_toArray, List.getElem?_cons_succ, List.getElem?_cons_zero]; rfl) (by kernel_rfl) (by rfl) (fun wx val iv hB hV K hK => ?_) ?_
    · clear hV; simp only [putT, List.foldl_cons, List.foldl_nil, Made.val, Act.put, List.setIfInBounds_toArray, List.set_cons_zero, List.set_cons_succ]; go_simp; exact hK.out _ _ rfl (Below.refl _ _)
    refine StepsT.cons [(12, some 25, .is (.pointer (some ⟨g, 12, none⟩)))] (by simp only [List.getElem?_toArray, List.getElem?_cons_succ, List.getElem?_cons_zero]; rfl) (by kernel_rfl) (by rfl) (fun wx val iv hB hV K hK => ?_) ?_
    · (obtain ⟨⟨k0, k1, k2, k3, k4, k5, k6, k7, k8, k9, k10, k11, k12, k13, k14, k15, k16⟩, kr⟩ := HC.out wx hB); clear hV; simp only [putT, List.foldl_cons, List.foldl_nil, Made.val, Act.put, List.setIfInBounds_toArray, List.set_cons_zero, List.set_cons_succ]; go_simp; exact hK.out _ _ rfl (Below.refl _ _)
    refine StepsT.cons [(8, some 21, .is (.slice (some ⟨b8, 0, none⟩) D.hands.length d8)), (13, some 26, .is (.int .i64 t))] (by simp only [List.getElem?_toArray, List.getElem?_cons_succ, List.getElem?_cons_zero]; rfl) (by kernel_rfl) (by rfl) (fun wx val iv hB hV K hK => ?_) ?_
    · (obtain ⟨⟨k0, k1, k2, k3, k4, k5, k6, k7, k8, k9, k10, k11, k12, k13, k14, k15, k16⟩, kr⟩ := HC.out wx hB); clear hV; simp only [putT, List.foldl_cons, List.foldl_nil, Made.val, Act.put, List.setIfInBounds_toArray, List.set_cons_zero, List.set_cons_succ]; go_simp; exact hK.out _ _ rfl (Below.refl _ _)
    refine StepsT.cons [(14, some 27, .is (.pointer (some ⟨b8, t, none⟩)))] (by simp only [List.getElem?_toArray, List.getElem?_cons_succ, List.getElem?_cons_zero]; rfl) (by kernel_rfl) (by rfl) (fun wx val iv hB hV K hK => ?_) ?_
    · (obtain ⟨⟨k0, k1, k2, k3, k4, k5, k6, k7, k8, k9, k10, k11, k12, k13, k14, k15, k16⟩, kr⟩ := HC.out wx hB); clear hV; simp only [putT, List.foldl_cons, List.foldl_nil, Made.val, Act.put, List.setIfInBounds_toArray, List.set_cons_zero, List.set_cons_succ]; go_simp; exact hK.out _ _ rfl (Below.refl _ _)
    refine StepsT.cons [(3, some 16, .is (.agg #[.int .i64 D.rules.players, .int .i64 D.rules.each, .bool D.rules.sameSuit, .bool D.rules.sameRank, .slice p4 D.rules.wild.length c4, .slice p5 D.rules.skip.length c5, .int .i64 D.rules.take, .int .i64 D.rules.limit, .func (.func nf) #[] cf, .func (.func ng) #[] cg])), (4, some 17, .is (.int .u8 top)), (15, some 28, .is (.slice pr zr.length cr))] (by simp only [List.getElem?_toArray, List.getElem?_cons_succ, List.getElem?_cons_zero]; rfl) (by kernel_rfl) (by rfl) (fun wx val iv hB hV K hK => ?_) ?_
    · (clear hV; simp only [putT, List.foldl_cons, List.foldl_nil, Made.val, Act.put, List.setIfInBounds_toArray, List.set_cons_zero, List.set_cons_succ]; go_simp; go_at_call 48; refine (HOn.out wx hB).mono ?_; rintro e wa ⟨va, ba, rfl, hba, hwa, Ba⟩; exact hK.out _ _ ⟨ba, hwa.rd⟩ Ba)
    refine StepsT.cons [(16, some 29, .own (fun S w v => ∃ b, RdAt .i64 w v (zr.filter (onB D.rules top)) b) (fun S w w' v h b => by obtain ⟨x, h⟩ := h; exact ⟨x, h.below b⟩))] (by simp only [List.getElem?_toArray, List.getElem?_cons_succ, List.getElem?_cons_zero]; rfl) (by kernel_rfl) (by rfl) (fun wx val iv hB hV K hK => ?_) ?_
    · (obtain ⟨bz, hz⟩ := hV (16, some 29, .own (fun S w v => ∃ b, RdAt .i64 w v (zr.filter (onB D.rules top)) b) (fun S w w' v h b => by obtain ⟨x, h⟩ := h; exact ⟨x, h.below b⟩)) (by simp); simp only [putT, List.foldl_cons, List.foldl_nil, Made.val, Act.put, List.setIfInBounds_toArray, List.set_cons_zero, List.set_cons_succ]; go_simp; go_at_call 47; refine (HSo.out wx _ _ hz).mono ?_; rintro e wa ⟨va, rfl, hwa, Ba⟩; exact hK.out _ _ hwa Ba)
    exact StepsT.nil
  case fin =>
    intro wx val iv BX hV hD
    obtain ⟨hv17, l17, u17⟩ := hV (17, some 30, .ints (sortI (zr.filter (onB D.rules top)))) (by simp)
    dsimp only [Made.means] at hv17 l17 u17
    clear hV hD
    simp only [putT, List.foldl_cons, List.foldl_nil, Made.val, Act.put, List.setIfInBounds_toArray, List.set_cons_zero, List.set_cons_succ]
    refine wpAny_one (i := 18) (by kernel_rfl) (by simp only [List.getElem?_toArray, List.getElem?_cons_succ, List.getElem?_cons_zero]; rfl) (fun K hK => ?_)
    go_simp
    refine hK.out _ _ ?_
    clear hK K
    refine wpAny_end (by kernel_rfl) ?_
    have HBX := Lib.hid (HB1.out.trans (BX.mono HB1.out.size))
    have HO : Hid (OwnI (In w.heap.size wx.heap.size) wx (val 17) (playableG D)) := Lib.hid (by
      rw [HP.out]
      exact hv17.mono (fun b hb hl => ⟨by have := hb.1; have := HB1.out.size; omega, hl⟩))
    clear hv17 l17 u17
    go_wp2_with fail
    go_ret
    exact ⟨_, rfl, HO.out, HBX.out⟩
set_option maxRecDepth 100000 in
set_option maxHeartbeats 2000000 in
theorem playable_any (v : Value) (D : MGame) (w : World) (h : RdGame w v D) (hf : D.Few) (hG : Grps w) :
    Calls Tryz.prog 19 #[v] w fun e w' => ∃ v', e = .returned v' ∧ OwnI (In w.heap.size w'.heap.size) w' v' (playableG D) ∧ Below w.heap.size w w' := by
  have HT := Lib.hid (fun wx (hb : Below w.heap.size w wx) => takeUp_any v D wx (h.below hb) hf (hG.below hb))
  have HU := Lib.hid (fun g L wc wx v4 v5 nf ng cf cg q8 qc d8 dc S8 Sc hgo hU hg => playableU_any g L D wc wx v4 v5 nf ng cf cg q8 qc d8 dc S8 Sc hf hgo hU hg)
  obtain ⟨p4, p5, p8, p9, p10, c4, c5, c8, c9, c10, rfl⟩ := h.shape
  have B0 : ∀ o1, Below w.heap.size w (w.alloc o1) := fun o1 => (Below.refl w.heap.size w).alloc (Nat.le_refl _) o1
  clear h hf hG
  go_enter Tryz.func19, Tryz.ntmps19
  go_wp2_with fail
  refine (HT.out _ (B0 _)).mono ?_
  rintro e w1 ⟨⟨cs, rfl, h0, hup⟩, B1⟩
  have Bw1 := (B0 (.cells #[.int .i64 D.rules.players, .int .i64 D.rules.each, .bool D.rules.sameSuit, .bool D.rules.sameRank, .slice p4 D.rules.wild.length c4, .slice p5 D.rules.skip.length c5, .int .i64 D.rules.take, .int .i64 D.rules.limit, .slice p8 D.hands.length c8, .slice p9 D.stock.length c9, .slice p10 D.heap.length c10, .int .i64 D.turn, .int .i64 D.moves, .int .i64 D.passes] 32)).trans (B1.mono (B0 _).size)
  cases hq : goesOn D with
  | false =>
    have e1 := h0 hq
    subst e1
    have hm := Lib.hid (playable_f hq)
    have HB : Hid (∀ o1 o2, Below w.heap.size w ((w1.alloc o1).alloc o2)) := Lib.hid (fun o1 o2 => (Bw1.alloc Bw1.size _).alloc (by have := Bw1.size; simp; omega) _)
    clear h0 hup hq
    go_wp2_with fail
    go_ret
    exact ⟨_, rfl, by rw [hm.out]; exact OwnI.nil _ _ _, HB.out _ _⟩
  | true =>
    obtain ⟨wc, v4, v5, nf, cf, ng, cg, q8, qc, d8, dc, S8, Sc, e1, hU⟩ := hup hq
    subst e1
    obtain ⟨p4', c4', e4⟩ : ∃ p c, v4 = .slice p D.rules.wild.length c := by
      obtain ⟨b, ⟨p, c, e, -⟩, -⟩ := hU.r4
      exact ⟨p, c, e⟩
    obtain ⟨p5', c5', e5⟩ : ∃ p c, v5 = .slice p D.rules.skip.length c := by
      obtain ⟨b, ⟨p, c, e, -⟩, -⟩ := hU.r5
      exact ⟨p, c, e⟩
    subst e4 e5
    obtain ⟨wA, hwA⟩ : ∃ W, W = w1.alloc (.cells #[.int .i64 D.rules.players, .int .i64 D.rules.each, .bool D.rules.sameSuit, .bool D.rules.sameRank, .slice p4' D.rules.wild.length c4', .slice p5' D.rules.skip.length c5', .int .i64 D.rules.take, .int .i64 D.rules.limit, .func (.func nf) #[] cf, .func (.func ng) #[] cg, .slice q8 D.hands.length d8, .int .i64 D.rules.players, .int .i64 D.turn, .slice qc (D.stock.length + D.heap.length) dc, .int .i64 D.stock.length, .int .i64 D.moves, .int .i64 D.passes] 67) := ⟨_, rfl⟩
    have bA : Below w1.heap.size w1 wA := by rw [hwA]; exact (Below.refl _ _).alloc (Nat.le_refl _) _
    have BA := Bw1.trans (bA.mono Bw1.size)
    have FA : wA.heap[w1.heap.size]? = some (.cells #[.int .i64 D.rules.players, .int .i64 D.rules.each, .bool D.rules.sameSuit, .bool D.rules.sameRank, .slice p4' D.rules.wild.length c4', .slice p5' D.rules.skip.length c5', .int .i64 D.rules.take, .int .i64 D.rules.limit, .func (.func nf) #[] cf, .func (.func ng) #[] cg, .slice q8 D.hands.length d8, .int .i64 D.rules.players, .int .i64 D.turn, .slice qc (D.stock.length + D.heap.length) dc, .int .i64 D.stock.length, .int .i64 D.moves, .int .i64 D.passes] 67 (0, 0)) := by rw [hwA]; exact heap_alloc_new _ _
    have HP := Lib.hid (HU.out _ _ _ _ _ _ _ _ _ _ _ _ _ _ _ _ hq (hU.below bA) FA)
    have HwA := Lib.hid hwA
    have HBA := Lib.hid BA
    clear h0 hup hq hU bA BA FA hwA
    go_upto_region 4 with fail
    rw [← HwA.out]
    go_wp2_with fail
    refine HP.out.mono ?_
    rintro e w2 ⟨v', rfl, hv, B2⟩
    have HF : Hid (OwnI (In w.heap.size w2.heap.size) w2 v' (playableG D) ∧ Below w.heap.size w w2) := Lib.hid ⟨hv.mono (fun b hb hl => ⟨by have := hb.1; have := HBA.out.size; omega, hl⟩), HBA.out.trans (B2.mono HBA.out.size)⟩
    clear hv B2
    go_wp2_with fail
    go_ret
    exact ⟨_, rfl, HF.out.1, HF.out.2⟩
end Go.Proofs.YtmhbonbjnpcpeaaGreatDoor
