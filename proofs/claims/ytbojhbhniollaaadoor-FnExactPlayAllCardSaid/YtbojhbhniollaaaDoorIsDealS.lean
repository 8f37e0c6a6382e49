/-
  IsDeal, the model's side.
-/
import Derived.Test.YtbojhbhniollaaaDoorM8
import Derived.Deep.CutRange
import Derived.BigQuiet
import Derived.Deep.QuietTactic
import Derived.Deep.RegionHeld
import Derived.Lib.AppendZeros
namespace Go.Proofs.YtbojhbhniollaaaDoor
open Go.RowKit

def clampI (x : Int) : Int := maxI 0 (minI 1000 x)
theorem clampI_bd (x : Int) : 0 ≤ clampI x ∧ clampI x ≤ 1000 := by
  unfold clampI maxI minI
  split <;> split <;> omega
theorem clampI_of {x : Int} (h0 : 0 ≤ x) (h1 : x ≤ 1000) : clampI x = x := by
  unfold clampI maxI minI
  split <;> split <;> omega
theorem clampI_le {x : Int} (h : clampI x ≤ 26) (h0 : 0 ≤ x) : clampI x = x := by
  unfold clampI maxI minI at *
  revert h
  split <;> split <;> omega
def sum12 (zs : List Int) : Int := (zs.map clampI).sum
theorem sum12_nn (zs : List Int) : 0 ≤ sum12 zs := by
  unfold sum12
  induction zs with
  | nil => simp
  | cons z zs ih => have := clampI_bd z; simp only [List.map_cons, List.sum_cons]; omega
theorem sum12_le (zs : List Int) {x : Int} (h : x ∈ zs) : clampI x ≤ sum12 zs := by
  unfold sum12
  induction zs with
  | nil => cases h
  | cons z zs ih =>
    have h1 := clampI_bd z
    have h2 := sum12_nn zs
    unfold sum12 at h2
    simp only [List.map_cons, List.sum_cons]
    rcases List.mem_cons.1 h with rfl | h
    · omega
    · have := ih h; omega
theorem sum12_eq (zs : List Int) (h : ∀ x ∈ zs, clampI x = x) : sum12 zs = zs.sum := by
  unfold sum12
  rw [List.map_congr_left (g := id) (fun x hx => h x hx), List.map_id]
theorem sum12_take (zs : List Int) (k : Nat) (h : k < zs.length) : sum12 (zs.take (k + 1)) = sum12 (zs.take k) + clampI (zs.getD k 0) := by
  unfold sum12
  rw [List.take_succ_eq_append_getElem h, List.map_append, List.sum_append, List.getD_eq_getElem?_getD, List.getElem?_eq_getElem h]; simp
theorem sum12_ub (zs : List Int) : sum12 zs ≤ 1000 * zs.length := by
  unfold sum12
  induction zs with
  | nil => simp
  | cons z zs ih => have := clampI_bd z; simp only [List.map_cons, List.sum_cons, List.length_cons]; omega

def wonM (D : MDeal) (k : Nat) : Prop := 0 ≤ D.won.getD k 0 ∧ 0 ≤ D.points.getD k 0
def handM (D : MDeal) (k : Nat) : Prop := ((D.hands.getD k []).length : Int) = D.left - sum12 D.won - playedI D k
theorem mem_getD {zs : List Int} {x : Int} (h : x ∈ zs) : ∃ k, k < zs.length ∧ zs.getD k 0 = x := by
  obtain ⟨k, hk, e⟩ := List.getElem_of_mem h
  exact ⟨k, hk, by rw [List.getD_eq_getElem?_getD, List.getElem?_eq_getElem hk]; exact e⟩
theorem getD_mem {zs : List Int} {k : Nat} (h : k < zs.length) : zs.getD k 0 ∈ zs := by
  rw [List.getD_eq_getElem?_getD, List.getElem?_eq_getElem h]; exact List.getElem_mem h
theorem leftM_no1 {D : MDeal} {k : Nat} (hk : k < D.hands.length) (h : ¬ wonM D k) : leftOK D = false := by
  refine leftOK_no1 hk (fun H => h ?_)
  exact ⟨H.1.1, H.2⟩
theorem leftM_no2 {D : MDeal} {k : Nat} (hk : k < D.hands.length) (hw : D.won.length = D.hands.length) (e1 : D.left ≤ 26) (h : ¬ handM D k) : leftOK D = false := by
  by_cases hall : ∀ j, j < D.hands.length → wonOK D j
  · refine leftOK_no2 hk (fun H => h ?_)
    have e : sum12 D.won = D.won.sum := sum12_eq _ (fun x hx => by
      obtain ⟨j, hj, rfl⟩ := mem_getD hx
      have := (hall j (by omega)).1
      exact clampI_of this.1 (by omega))
    unfold handM; unfold handOK at H
    rw [e]; omega
  · unfold leftOK
    rw [decide_eq_false hall, Bool.false_and]
theorem leftM_yes {D : MDeal} (hn : 1 ≤ D.hands.length) (hw : D.won.length = D.hands.length) (e1 : D.left ≤ 26) (h1 : ∀ k, k < D.hands.length → wonM D k) (h2 : ∀ k, k < D.hands.length → handM D k) : leftOK D = true := by
  have hS : sum12 D.won ≤ D.left := by
    have := h2 0 (by omega)
    unfold handM at this
    have hp := playedI_bd D (0 : Nat)
    omega
  have hc : ∀ x ∈ D.won, clampI x = x := fun x hx => by
    obtain ⟨j, hj, rfl⟩ := mem_getD hx
    have h3 := sum12_le D.won hx
    exact clampI_le (by omega) (h1 j (by omega)).1
  have e := sum12_eq D.won hc
  refine leftOK_yes (fun k hk => ?_) (fun k hk => ?_)
  · have hm := getD_mem (zs := D.won) (k := k) (by omega)
    have h3 := sum12_le D.won hm
    rw [hc _ hm] at h3
    exact ⟨⟨(h1 k hk).1, by omega⟩, (h1 k hk).2⟩
  · have := h2 k hk
    unfold handM at this
    unfold handOK
    rw [← e]; omega

set_option maxRecDepth 100000 in
theorem l12Sum_any (v : Value) (zs : List Int) (b : Nat) (w : World) (h : RdAt .i64 w v zs b) (hl : zs.length ≤ 4) :
    Calls Tryd.prog 61 #[v] w fun e w' => e = .returned (.int .i64 (sum12 zs)) ∧ w = w' := by
  obtain ⟨a, cap, rfl, -, -, hcell⟩ := h
  obtain ⟨n, hn⟩ : ∃ n, n = zs.length := ⟨_, rfl⟩
  have Hn := Lib.hid hn
  have HC : Hid (∀ k, k < n → ∃ off, a = some ⟨b, off, none⟩ ∧ w.cell? ⟨b, off + k, none⟩ = some (.int .i64 (zs.getD k 0))) := Lib.hid (fun k hk => by
    rcases hcell with h0 | ⟨off, e, hc⟩
    · rw [h0] at hn; simp at hn; omega
    · refine ⟨off, e, ?_⟩
      rw [hc k (by omega), List.getD_eq_getElem?_getD, List.getElem?_eq_getElem (by omega)]; rfl)
  rw [← hn] at hl ⊢
  clear hn hcell
  go_enter Tryd.func61, Tryd.ntmps61
  go_wp2_with fail
  go_loop [3, 4] (fun s i => ∃ k, k ≤ n ∧ i = .int .i64 k ∧ s = .int .i64 (sum12 (zs.take k))) (fun _ i => n - (intOf i).toNat)
  case atStart => exact ⟨0, Nat.zero_le _, rfl, rfl⟩
  case round =>
    obtain ⟨k, hk, rfl, rfl⟩ := hrel
    have hsn := sum12_nn (zs.take k)
    have hsu := sum12_ub (zs.take k)
    rw [List.length_take] at hsu
    by_cases hlt : k < n
    · obtain ⟨off, rfl, hc⟩ := HC.out k hlt
      have hst := sum12_take zs k (by rw [← Hn.out]; exact hlt)
      obtain ⟨x, hx⟩ : ∃ x, zs.getD k 0 = x := ⟨_, rfl⟩
      obtain ⟨S, hS⟩ : ∃ S, sum12 (zs.take k) = S := ⟨_, rfl⟩
      rw [hx] at hc
      rw [hx, hS] at hst
      rw [hS] at hsn hsu ⊢
      have Hst := Lib.hid hst
      have hb := clampI_bd x
      have hkn : (k : Int) < (n : Int) := by omega
      have hw1 : IntKind.i64.wrap (S + clampI x) = S + clampI x := IntWalk.i64_in _ (by omega)
      have H1 := Lib.hid (fun wx => smin_any 1000 x wx)
      have H2 : Hid (∀ wx, Calls Tryd.prog 86 #[.int .i64 0, .int .i64 (minI 1000 x)] wx fun e w' => e = .returned (.int .i64 (clampI x)) ∧ wx = w') := Lib.hid (fun wx => smax_any 0 (minI 1000 x) wx)
      clear hst hx hS hsu
      go_wp2_with fail
      refine (H1.out _).mono ?_
      rintro e _w ⟨rfl, rfl⟩
      go_wp2_with fail
      refine (H2.out _).mono ?_
      rintro e _w ⟨rfl, rfl⟩
      go_wp2_with fail
      go_round
      case rel => exact ⟨k + 1, by omega, by go_num, congrArg (Value.int .i64) Hst.out.symm⟩
      case measure => simp [intOf]; omega
    · obtain rfl : k = n := by omega
      have hx2 : Hid (sum12 (zs.take k) = sum12 zs) := Lib.hid (by rw [List.take_of_length_le (by rw [Hn.out]; exact Nat.le_refl _)])
      rw [hx2.out]
      have hkn : ¬ (k : Int) < (k : Int) := by omega
      go_wp2_with fail
      go_ret
      exact ⟨rfl, rfl⟩
theorem playedI_eq {D : MDeal} {n m : Nat} {l k q : Int} (hn : D.hands.length = n) (hm : D.trick.length = m) (hl : D.leader = l) (h0 : 1 ≤ n) (h1 : n ≤ 4) (hq : (k - l + n) % n = q) : playedI D k = if q < (m : Int) then 1 else 0 := by
  unfold playedI
  have e : modI (k - l) n = q := by
    unfold modI
    rw [if_pos ⟨by omega, by omega⟩, ← hq, Int.add_emod_right]
  rw [hn, hm, hl, e]
theorem step_append_run {P : Program} {ops : Array Oper} {o : Oper} {a : Act} {w : World} {K : Act → World → Prop} {Q : Exit → Act → World → Prop} {E : Prop} (hg : o.guard = none) (s x : Operand) (t tn : TypeId)
    (ho : o.op = .call { callee := .builtin .append, args := #[s, x], argTypes := #[t, tn] }) (vs vx : Value) (hs : a.eval s = vs) (hx : a.eval x = vx)
    (v' : Value) (w' : World) (hr : (Builtin.append_ #[t, tn] o.type #[vs, vx]).run P w = .ok v' w') (h : K (a.put o.dst v') w') : if Region.wanted o (yielded ops a.tmps) = true then Oper.wp P o a w K Q else E := by
  have hw : Region.wanted o (yielded ops a.tmps) = true := by simp [Region.wanted, hg]
  rw [if_pos hw]
  exact Lib.wp_append_run w s x t tn ho vs vx hs hx v' w' hr h
theorem one_vals {w : World} {q : Nat} {u : Value} {t : TypeId} (h : w.heap[q]? = some (.cells #[u] t (0, 0))) : RdVals w (.slice (some ⟨q, 0, none⟩) 1 1) [u] :=
  ⟨_, 1, rfl, ⟨Nat.le_refl _, by unfold maxLen; decide, fun e => by cases e⟩, .inr ⟨q, 0, rfl, fun j hj => by
    have hj0 : j = 0 := by simp at hj; exact hj
    subst hj0; simp [World.cell?, h]⟩⟩
set_option linter.unusedVariables false in
set_option maxRecDepth 100000 in
set_option maxHeartbeats 8000000 in
theorem sIsDeal_any (v : Value) (D : MDeal) (w : World) (h : RdDeal w v D) (hf : D.Few) (r : Bool) (hr : isDeal D = r) :
    Calls Tryd.prog 33 #[v] w fun e w' => e = .returned (.bool r) ∧ Below w.heap.size w w' := by
  have hD := h
  obtain ⟨v0, v3, v4, v5, b3, b4, b5, rfl, h0, h3, h4, h5, wf1, wf2, wf6⟩ := h
  obtain ⟨p0, c0, e0, -⟩ := id h0
  obtain ⟨p3, c3, e3, -⟩ := id h3
  obtain ⟨p4, c4, e4, -⟩ := id h4
  obtain ⟨p5, c5, e5, -⟩ := id h5
  subst e0 e3 e4 e5
  have Hr := Lib.hid hr
  have B0 := fun o => (Below.refl w.heap.size w).alloc (Nat.le_refl _) o
  have HD := Lib.hid hD
  have H0 := Lib.hid h0
  have H3 := Lib.hid h3
  have H4 := Lib.hid h4
  have H5 := Lib.hid h5
  have bl := bounds_i64 wf1
  have bt := bounds_i64 wf2
  have be := bounds_i64 wf6
  have Hf := Lib.hid hf
  obtain ⟨f0, fs0, f3, f4, f5⟩ := hf
  have Hno1 := Lib.hid (isDeal_no1 (D := D))
  have Hno2 := Lib.hid (isDeal_no2 (D := D))
  unfold shape1 at Hno1
  unfold shape2 at Hno2
  obtain ⟨n, hn⟩ : ∃ n, D.hands.length = n := ⟨_, rfl⟩
  obtain ⟨m, hm⟩ : ∃ m, D.trick.length = m := ⟨_, rfl⟩
  obtain ⟨nw, hnw⟩ : ∃ nw, D.won.length = nw := ⟨_, rfl⟩
  obtain ⟨np, hnp⟩ : ∃ np, D.points.length = np := ⟨_, rfl⟩
  obtain ⟨l, hl⟩ : ∃ l, D.leader = l := ⟨_, rfl⟩
  obtain ⟨t, ht⟩ : ∃ t, D.trump = t := ⟨_, rfl⟩
  obtain ⟨L, hL⟩ : ∃ L, D.left = L := ⟨_, rfl⟩
  have Hn := Lib.hid hn
  have Hm := Lib.hid hm
  have Hw := Lib.hid hnw
  have Hp := Lib.hid hnp
  have Hl := Lib.hid hl
  have Ht := Lib.hid ht
  have HL := Lib.hid hL
  rw [hn, hm, hl, ht, hL] at Hno2
  rw [hn, hnw, hnp] at Hno1
  rw [hn, hm, hnw, hnp, hl, ht, hL] at HD
  rw [hn] at f0 H0
  rw [hm] at f3 H3
  rw [hnw] at f4 H4
  rw [hnp] at f5 H5
  rw [hl] at bl
  rw [ht] at bt
  rw [hL] at be
  rw [hn, hm, hnw, hnp, hl, ht, hL]
  clear hD h0 h3 h4 h5 wf1 wf2 wf6 hn hm hnw hnp hl ht hL hr
  have hw1 : IntKind.i64.wrap ((n : Int) - 1) = (n : Int) - 1 := IntWalk.i64_in _ (by omega)
  have HN1 := Lib.hid (fun wx => inM_any (n : Int) 2 4 wx _ rfl)
  have HN2 := Lib.hid (fun wx => inM_any l 0 ((n : Int) - 1) wx _ rfl)
  have HN3 := Lib.hid (fun wx => inM_any t (-1) 3 wx _ rfl)
  have HN4 := Lib.hid (fun wx => inM_any L 0 26 wx _ rfl)
  by_cases g1 : 2 ≤ (n : Int) ∧ (n : Int) ≤ 4
  · rw [decide_eq_true g1] at HN1
    have g1a := g1.1
    have g1b := g1.2
    by_cases g2 : nw = n
    · subst g2
      by_cases g3 : np = nw
      · subst g3
        by_cases g4 : 0 ≤ l ∧ l ≤ (np : Int) - 1
        · rw [decide_eq_true g4] at HN2
          by_cases g5 : -1 ≤ t ∧ t ≤ 3
          · rw [decide_eq_true g5] at HN3
            by_cases g6 : 0 ≤ L ∧ L ≤ 26
            · rw [decide_eq_true g6] at HN4
              by_cases g7 : m < np
              · have g7a : ¬ (np : Int) ≤ (m : Int) := by omega
                have g7b : decide (np ≤ m) = false := decide_eq_false (by omega)
                have g7c : ¬ np ≤ m := by omega
                have hu := RdRows.vals H0.out
                obtain ⟨us, hul, hv0, hone, hrows⟩ := hu
                obtain ⟨W0, hW0⟩ : ∃ W0, w.alloc (.cells #[.slice p0 np c0, .int .i64 l, .int .i64 t, .slice p3 m c3, .slice p4 np c4, .slice p5 np c5, .int .i64 L] 31) = W0 := ⟨_, rfl⟩
                have hb0 : W0.heap[w.heap.size]? = some (.cells #[.slice p0 np c0, .int .i64 l, .int .i64 t, .slice p3 m c3, .slice p4 np c4, .slice p5 np c5, .int .i64 L] 31 (0, 0)) := by rw [← hW0]; exact heap_alloc_new w _
                obtain ⟨i0, hi, hz0, hz1, hz2⟩ := info_parts info_rowI
                have HRR : Hid (∀ W v', Below w.heap.size w W → W.ownsRow (w.heap.size + 1) 23 1 v' (np + 1) (us ++ [.slice p3 m c3]) → RdRows .i64 W v' (D.hands ++ [D.trick])) := Lib.hid (fun W v' hW ho => by
                  refine rows_of_own (us := us ++ [.slice p3 m c3]) (B := w.heap.size + 1) (E := 23) (by rw [List.length_append, Hn.out]; exact ho) (fun j hj => ?_)
                  by_cases hjl : j < D.hands.length
                  · obtain ⟨r, b, h1, h2⟩ := hrows j hjl
                    refine ⟨r, b, by rw [List.getElem?_append_left (by omega)]; exact h1, ?_⟩
                    rw [List.getElem_append_left hjl]; exact h2.below hW
                  · have hje : j = D.hands.length := by rw [List.length_append] at hj; simp at hj; omega
                    subst hje
                    refine ⟨.slice p3 m c3, b3, by rw [List.getElem?_append_right (by omega), hul]; simp, ?_⟩
                    rw [List.getElem_append_right (by omega)]
                    simp only [Nat.sub_self, List.getElem_singleton]
                    exact H3.out.below hW)
                have Hul := Lib.hid (hul.trans Hn.out)
                clear hul hrows
                have hsum : sumLen (D.hands ++ [D.trick]) ≤ 4194304 := by
                  have : sumLen (D.hands ++ [D.trick]) = sumLen D.hands + D.trick.length := by simp [sumLen]
                  rw [this, Hm.out]; omega
                have hlen : (D.hands ++ [D.trick]).length ≤ 1048576 := by rw [List.length_append, Hn.out]; simp; omega
                obtain ⟨y0, y1, y2, y3, y4, y5, y6⟩ := SDeal_cells hb0
                have hBw0 : Below w.heap.size w W0 := by rw [← hW0]; exact B0 _
                go_enter Tryd.func33, Tryd.ntmps33
                go_wp2_with fail
                refine (HN1.out _).mono ?_
                rintro e _w ⟨rfl, rfl⟩
                go_wp2_with fail
                refine (HN2.out _).mono ?_
                rintro e _w ⟨rfl, rfl⟩
                go_wp2_with fail
                refine (HN3.out _).mono ?_
                rintro e _w ⟨rfl, rfl⟩
                go_wp2_with fail
                refine (HN4.out _).mono ?_
                rintro e _w ⟨rfl, rfl⟩
                go_upto_region 4 with fail
                go_cut [62] from 53 to 62 (fun c wx => c = .bool (!(apart (D.hands ++ [D.trick]))) ∧ Below w.heap.size w wx ∧ wx.heap[w.heap.size]? = some (.cells #[.slice p0 np c0, .int .i64 l, .int .i64 t, .slice p3 m c3, .slice p4 np c4, .slice p5 np c5, .int .i64 L] 31 (0, 0)))
                case first =>
                  refine wp_region_held_drew (S := (fun w' => w'.cell? ⟨w.heap.size, 0, none⟩ = some (.slice p0 np c0) ∧ w'.cell? ⟨w.heap.size, 3, none⟩ = some (.slice p3 m c3))) (by kernel_rfl) ⟨y0, y3⟩ (fun hHeld => ?_)
                  refine wpAnyH_take (i := 1) (v := .pointer (some ⟨w.heap.size, 0, none⟩)) rfl (by kernel_rfl) (by kernel_rfl) (by kernel_rfl) (fun _ _ _ h => h) (Or.inl ⟨by rfl, ?_⟩) hHeld ?_
                  · intro wq hSw; obtain ⟨s0, s1⟩ := hSw; go_simp
                  try simp only [Act.put, List.setIfInBounds_toArray, List.set_cons_zero, List.set_cons_succ]
                  refine wpAnyH_take (i := 2) (v := .slice p0 np c0) rfl (by kernel_rfl) (by kernel_rfl) (by kernel_rfl) (fun _ _ _ h => h) (Or.inl ⟨by rfl, ?_⟩) hHeld ?_
                  · intro wq hSw; obtain ⟨s0, s1⟩ := hSw; go_simp
                  try simp only [Act.put, List.setIfInBounds_toArray, List.set_cons_zero, List.set_cons_succ]
                  refine wpAnyH_take (i := 4) (v := .pointer (some ⟨w.heap.size, 3, none⟩)) rfl (by kernel_rfl) (by kernel_rfl) (by kernel_rfl) (fun _ _ _ h => h) (Or.inl ⟨by rfl, ?_⟩) hHeld ?_
                  · intro wq hSw; obtain ⟨s0, s1⟩ := hSw; go_simp
                  try simp only [Act.put, List.setIfInBounds_toArray, List.set_cons_zero, List.set_cons_succ]
                  refine wpAnyH_take (i := 5) (v := .slice p3 m c3) rfl (by kernel_rfl) (by kernel_rfl) (by kernel_rfl) (fun _ _ _ h => h) (Or.inl ⟨by rfl, ?_⟩) hHeld ?_
                  · intro wq hSw; obtain ⟨s0, s1⟩ := hSw; go_simp
                  try simp only [Act.put, List.setIfInBounds_toArray, List.set_cons_zero, List.set_cons_succ]
                  have BX0' : Below w.heap.size w W0.drew := hBw0.drew
                  have bX0' : W0.drew.heap[w.heap.size]? = some (.cells #[.slice p0 np c0, .int .i64 l, .int .i64 t, .slice p3 m c3, .slice p4 np c4, .slice p5 np c5, .int .i64 L] 31 (0, 0)) := hb0
                  generalize W0.drew = X0 at hHeld BX0' bX0' ⊢
                  have BX0 := BX0'
                  have bX0 := bX0'
                  have ltX0 : w.heap.size < X0.heap.size := (Array.getElem?_eq_some_iff.1 bX0).1
                  clear BX0' bX0'
                  refine wpAnyH_ready (rs := [0, 6]) (by kernel_rfl) (by simp) ?_
                  refine AllReadyH.cons rfl (fun K hK => ?_) (AllReadyH.cons rfl (fun K hK => ?_) AllReadyH.nil)
                  · obtain ⟨Y1, hY1⟩ : ∃ Y1, X0.alloc (.cells #[] 23) = Y1 := ⟨_, rfl⟩
                    have BX0Y1 : Below X0.heap.size X0 Y1 := by rw [← hY1]; exact (Below.refl _ _).alloc (Nat.le_refl _) _
                    have BY1 : Below w.heap.size w Y1 := BX0.trans (BX0Y1.mono BX0.size)
                    have bY1 : Y1.heap[w.heap.size]? = some (.cells #[.slice p0 np c0, .int .i64 l, .int .i64 t, .slice p3 m c3, .slice p4 np c4, .slice p5 np c5, .int .i64 L] 31 (0, 0)) := (BX0Y1.block _ ltX0).trans bX0
                    have hdY1 : Y1.cell? ⟨w.heap.size, 0, none⟩ = some (.slice p0 np c0) ∧ Y1.cell? ⟨w.heap.size, 3, none⟩ = some (.slice p3 m c3) := ⟨(SDeal_cells bY1).1, (SDeal_cells bY1).2.2.2.1⟩
                    have ltY1 : w.heap.size < Y1.heap.size := (Array.getElem?_eq_some_iff.1 bY1).1
                    have oY1 := World.ownsRow_lit (base := w.heap.size + 1) (e := 23) (size := 1) X0 #[] 0 (by omega) (Nat.zero_le _) rfl
                    rw [hY1] at oY1
                    go_simp
                    refine hK.out _ _ hdY1 (fun hHeld => ?_)
                    clear hK K
                    try simp only [Act.put, List.setIfInBounds_toArray, List.set_cons_zero, List.set_cons_succ]
                    refine wpAnyH_ready (rs := [3, 6]) (by kernel_rfl) (by simp) ?_
                    refine AllReadyH.cons rfl (fun K hK => ?_) (AllReadyH.cons rfl (fun K hK => ?_) AllReadyH.nil)
                    · obtain ⟨vY2, Y2, rY2, oY2, gY2⟩ := run_append_vals Y1 (w.heap.size + 1) 22 22 23 i0 (.slice none 0 0) 24 Tryd.underlying22 hi hz0 hz1 hz2 rfl _ 0 [] oY1 _ us (hv0.below BY1) hone (by rw [Hul.out]; unfold maxLen; omega) (by rw [Hul.out]; omega) (by omega)
                      have BY2 : Below w.heap.size w Y2 := BY1.grown gY2 BY1.size (fun k hk => by have := own_block oY1 k hk; omega)
                      have bY2 : Y2.heap[w.heap.size]? = some (.cells #[.slice p0 np c0, .int .i64 l, .int .i64 t, .slice p3 m c3, .slice p4 np c4, .slice p5 np c5, .int .i64 L] 31 (0, 0)) := (gY2.block _ ltY1 (fun e => by have := own_block oY1 _ e.symm; omega)).trans bY1
                      have hdY2 : Y2.cell? ⟨w.heap.size, 0, none⟩ = some (.slice p0 np c0) ∧ Y2.cell? ⟨w.heap.size, 3, none⟩ = some (.slice p3 m c3) := ⟨(SDeal_cells bY2).1, (SDeal_cells bY2).2.2.2.1⟩
                      have ltY2 : w.heap.size < Y2.heap.size := (Array.getElem?_eq_some_iff.1 bY2).1
                      rw [Nat.zero_add, List.nil_append, Hul.out] at oY2
                      obtain ⟨pa2, ca2, ea2⟩ := own_shape oY2
                      subst ea2
                      refine step_append_run rfl _ _ _ _ rfl _ _ rfl rfl _ _ rY2 ?_
                      refine hK.out _ _ hdY2 (fun hHeld => ?_)
                      clear hK K
                      try simp only [Act.put, List.setIfInBounds_toArray, List.set_cons_zero, List.set_cons_succ]
                      refine wpAnyH_ready (rs := [6]) (by kernel_rfl) (by simp) ?_
                      refine AllReadyH.cons rfl (fun K hK => ?_) AllReadyH.nil
                      obtain ⟨Y3, hY3⟩ : ∃ Y3, Y2.alloc (.cells #[.slice p3 m c3] 23) = Y3 := ⟨_, rfl⟩
                      have BY2Y3 : Below Y2.heap.size Y2 Y3 := by rw [← hY3]; exact (Below.refl _ _).alloc (Nat.le_refl _) _
                      have BY3 : Below w.heap.size w Y3 := BY2.trans (BY2Y3.mono BY2.size)
                      have bY3 : Y3.heap[w.heap.size]? = some (.cells #[.slice p0 np c0, .int .i64 l, .int .i64 t, .slice p3 m c3, .slice p4 np c4, .slice p5 np c5, .int .i64 L] 31 (0, 0)) := (BY2Y3.block _ ltY2).trans bY2
                      have hdY3 : Y3.cell? ⟨w.heap.size, 0, none⟩ = some (.slice p0 np c0) ∧ Y3.cell? ⟨w.heap.size, 3, none⟩ = some (.slice p3 m c3) := ⟨(SDeal_cells bY3).1, (SDeal_cells bY3).2.2.2.1⟩
                      have ltY3 : w.heap.size < Y3.heap.size := (Array.getElem?_eq_some_iff.1 bY3).1
                      have sY3 : Y3.heap[Y2.heap.size]? = some (.cells #[.slice p3 m c3] 23 (0, 0)) := by rw [← hY3]; exact heap_alloc_new Y2 _
                      have oY3 := own_below oY2 BY2Y3
                      go_simp
                      refine hK.out _ _ hdY3 (fun hHeld => ?_)
                      clear hK K
                      try simp only [Act.put, List.setIfInBounds_toArray, List.set_cons_zero, List.set_cons_succ]
                      refine wpAnyH_ready (rs := [7]) (by kernel_rfl) (by simp) ?_
                      refine AllReadyH.cons rfl (fun K hK => ?_) AllReadyH.nil
                      obtain ⟨vY4, Y4, rY4, oY4, gY4⟩ := run_append_vals Y3 (w.heap.size + 1) 22 22 23 i0 (.slice none 0 0) 24 Tryd.underlying22 hi hz0 hz1 hz2 rfl _ _ _ oY3 _ [.slice p3 m c3] (one_vals sY3) (by intro u hu; simp at hu; subst hu; rfl) (by simp only [List.length_cons, List.length_nil]; unfold maxLen; omega) (by simp only [List.length_cons, List.length_nil]; omega) (by omega)
                      have BY4 : Below w.heap.size w Y4 := BY3.grown gY4 BY3.size (fun k hk => by have := own_block oY3 k hk; omega)
                      have bY4 : Y4.heap[w.heap.size]? = some (.cells #[.slice p0 np c0, .int .i64 l, .int .i64 t, .slice p3 m c3, .slice p4 np c4, .slice p5 np c5, .int .i64 L] 31 (0, 0)) := (gY4.block _ ltY3 (fun e => by have := own_block oY3 _ e.symm; omega)).trans bY3
                      have hdY4 : Y4.cell? ⟨w.heap.size, 0, none⟩ = some (.slice p0 np c0) ∧ Y4.cell? ⟨w.heap.size, 3, none⟩ = some (.slice p3 m c3) := ⟨(SDeal_cells bY4).1, (SDeal_cells bY4).2.2.2.1⟩
                      have ltY4 : w.heap.size < Y4.heap.size := (Array.getElem?_eq_some_iff.1 bY4).1
                      rw [show np + [Value.slice p3 m c3].length = np + 1 from rfl] at oY4
                      obtain ⟨pa4, ca4, ea4⟩ := own_shape oY4
                      subst ea4
                      have HA := Lib.hid (sAllApart_big _ _ Y4 (HRR.out Y4 _ BY4 oY4) hlen hsum)
                      refine step_append_run rfl _ _ _ _ rfl _ _ rfl rfl _ _ rY4 ?_
                      refine hK.out _ _ hdY4 (fun hHeld => ?_)
                      clear hK K
                      try simp only [Act.put, List.setIfInBounds_toArray, List.set_cons_zero, List.set_cons_succ]
                      refine wpAnyH_ready (rs := [8]) (by kernel_rfl) (by simp) ?_
                      refine AllReadyH.cons rfl (fun K hK => ?_) AllReadyH.nil
                      go_simp
                      refine HA.out.mono ?_
                      rintro e Y5 ⟨rfl, BY4Y5⟩
                      have BY5 : Below w.heap.size w Y5 := BY4.trans (BY4Y5.mono BY4.size)
                      have bY5 : Y5.heap[w.heap.size]? = some (.cells #[.slice p0 np c0, .int .i64 l, .int .i64 t, .slice p3 m c3, .slice p4 np c4, .slice p5 np c5, .int .i64 L] 31 (0, 0)) := (BY4Y5.block _ ltY4).trans bY4
                      have hdY5 : Y5.cell? ⟨w.heap.size, 0, none⟩ = some (.slice p0 np c0) ∧ Y5.cell? ⟨w.heap.size, 3, none⟩ = some (.slice p3 m c3) := ⟨(SDeal_cells bY5).1, (SDeal_cells bY5).2.2.2.1⟩
                      have ltY5 : w.heap.size < Y5.heap.size := (Array.getElem?_eq_some_iff.1 bY5).1
                      go_wp2_with fail
                      refine hK.out _ _ hdY5 (fun hHeld => ?_)
                      clear hK K
                      try simp only [Act.put, List.setIfInBounds_toArray, List.set_cons_zero, List.set_cons_succ]
                      refine wpAnyH_take (i := 9) (oi := { dst := some 62, op := Go.Op.unOp Go.UnOp.not 4 (Go.Operand.tmp 61), type := 4, pos := "l12_play.go:26", after := #[{ on := 8, ground := Go.Ground.data }], guard := none }) (v := .bool (!(apart (D.hands ++ [D.trick])))) rfl (by kernel_rfl) (by kernel_rfl) (by kernel_rfl) (fun _ _ _ h => h) (Or.inl ⟨by rfl, ?_⟩) hHeld ?_
                      · intro wq hSw; go_simp
                      try simp only [Act.put, List.setIfInBounds_toArray, List.set_cons_zero, List.set_cons_succ]
                      refine wpAnyH_done (by kernel_rfl) ?_ _
                      go_wp2_with fail
                      go_meet
                      exact ⟨rfl, BY5, bY5⟩
                    · obtain ⟨Y6, hY6⟩ : ∃ Y6, Y1.alloc (.cells #[.slice p3 m c3] 23) = Y6 := ⟨_, rfl⟩
                      have BY1Y6 : Below Y1.heap.size Y1 Y6 := by rw [← hY6]; exact (Below.refl _ _).alloc (Nat.le_refl _) _
                      have BY6 : Below w.heap.size w Y6 := BY1.trans (BY1Y6.mono BY1.size)
                      have bY6 : Y6.heap[w.heap.size]? = some (.cells #[.slice p0 np c0, .int .i64 l, .int .i64 t, .slice p3 m c3, .slice p4 np c4, .slice p5 np c5, .int .i64 L] 31 (0, 0)) := (BY1Y6.block _ ltY1).trans bY1
                      have hdY6 : Y6.cell? ⟨w.heap.size, 0, none⟩ = some (.slice p0 np c0) ∧ Y6.cell? ⟨w.heap.size, 3, none⟩ = some (.slice p3 m c3) := ⟨(SDeal_cells bY6).1, (SDeal_cells bY6).2.2.2.1⟩
                      have ltY6 : w.heap.size < Y6.heap.size := (Array.getElem?_eq_some_iff.1 bY6).1
                      have sY6 : Y6.heap[Y1.heap.size]? = some (.cells #[.slice p3 m c3] 23 (0, 0)) := by rw [← hY6]; exact heap_alloc_new Y1 _
                      have oY6 := own_below oY1 BY1Y6
                      have ne6 : some Y1.heap.size ≠ (Value.slice (some ⟨X0.heap.size, 0, none⟩) 0 0).ownBlock := fun e => by
                        have e2 : Y1.heap.size = X0.heap.size := Option.some.inj e
                        have := (show X0.heap.size < Y1.heap.size from by rw [← hY1]; simp)
                        omega
                      go_simp
                      refine hK.out _ _ hdY6 (fun hHeld => ?_)
                      clear hK K
                      try simp only [Act.put, List.setIfInBounds_toArray, List.set_cons_zero, List.set_cons_succ]
                      refine wpAnyH_ready (rs := [3]) (by kernel_rfl) (by simp) ?_
                      refine AllReadyH.cons rfl (fun K hK => ?_) AllReadyH.nil
                      obtain ⟨vY7, Y7, rY7, oY7, gY7⟩ := run_append_vals Y6 (w.heap.size + 1) 22 22 23 i0 (.slice none 0 0) 24 Tryd.underlying22 hi hz0 hz1 hz2 rfl _ 0 [] oY6 _ us (hv0.below BY6) hone (by rw [Hul.out]; unfold maxLen; omega) (by rw [Hul.out]; omega) (by omega)
                      have BY7 : Below w.heap.size w Y7 := BY6.grown gY7 BY6.size (fun k hk => by have := own_block oY6 k hk; omega)
                      have bY7 : Y7.heap[w.heap.size]? = some (.cells #[.slice p0 np c0, .int .i64 l, .int .i64 t, .slice p3 m c3, .slice p4 np c4, .slice p5 np c5, .int .i64 L] 31 (0, 0)) := (gY7.block _ ltY6 (fun e => by have := own_block oY6 _ e.symm; omega)).trans bY6
                      have hdY7 : Y7.cell? ⟨w.heap.size, 0, none⟩ = some (.slice p0 np c0) ∧ Y7.cell? ⟨w.heap.size, 3, none⟩ = some (.slice p3 m c3) := ⟨(SDeal_cells bY7).1, (SDeal_cells bY7).2.2.2.1⟩
                      have ltY7 : w.heap.size < Y7.heap.size := (Array.getElem?_eq_some_iff.1 bY7).1
                      rw [Nat.zero_add, List.nil_append, Hul.out] at oY7
                      obtain ⟨pa7, ca7, ea7⟩ := own_shape oY7
                      subst ea7
                      have sY7 := (gY7.block _ (Array.getElem?_eq_some_iff.1 sY6).1 ne6).trans sY6
                      refine step_append_run rfl _ _ _ _ rfl _ _ rfl rfl _ _ rY7 ?_
                      refine hK.out _ _ hdY7 (fun hHeld => ?_)
                      clear hK K
                      try simp only [Act.put, List.setIfInBounds_toArray, List.set_cons_zero, List.set_cons_succ]
                      refine wpAnyH_ready (rs := [7]) (by kernel_rfl) (by simp) ?_
                      refine AllReadyH.cons rfl (fun K hK => ?_) AllReadyH.nil
                      obtain ⟨vY8, Y8, rY8, oY8, gY8⟩ := run_append_vals Y7 (w.heap.size + 1) 22 22 23 i0 (.slice none 0 0) 24 Tryd.underlying22 hi hz0 hz1 hz2 rfl _ _ _ oY7 _ [.slice p3 m c3] (one_vals sY7) (by intro u hu; simp at hu; subst hu; rfl) (by simp only [List.length_cons, List.length_nil]; unfold maxLen; omega) (by simp only [List.length_cons, List.length_nil]; omega) (by omega)
                      have BY8 : Below w.heap.size w Y8 := BY7.grown gY8 BY7.size (fun k hk => by have := own_block oY7 k hk; omega)
                      have bY8 : Y8.heap[w.heap.size]? = some (.cells #[.slice p0 np c0, .int .i64 l, .int .i64 t, .slice p3 m c3, .slice p4 np c4, .slice p5 np c5, .int .i64 L] 31 (0, 0)) := (gY8.block _ ltY7 (fun e => by have := own_block oY7 _ e.symm; omega)).trans bY7
                      have hdY8 : Y8.cell? ⟨w.heap.size, 0, none⟩ = some (.slice p0 np c0) ∧ Y8.cell? ⟨w.heap.size, 3, none⟩ = some (.slice p3 m c3) := ⟨(SDeal_cells bY8).1, (SDeal_cells bY8).2.2.2.1⟩
                      have ltY8 : w.heap.size < Y8.heap.size := (Array.getElem?_eq_some_iff.1 bY8).1
                      rw [show np + [Value.slice p3 m c3].length = np + 1 from rfl] at oY8
                      obtain ⟨pa8, ca8, ea8⟩ := own_shape oY8
                      subst ea8
                      have HA := Lib.hid (sAllApart_big _ _ Y8 (HRR.out Y8 _ BY8 oY8) hlen hsum)
                      refine step_append_run rfl _ _ _ _ rfl _ _ rfl rfl _ _ rY8 ?_
                      refine hK.out _ _ hdY8 (fun hHeld => ?_)
                      clear hK K
                      try simp only [Act.put, List.setIfInBounds_toArray, List.set_cons_zero, List.set_cons_succ]
                      refine wpAnyH_ready (rs := [8]) (by kernel_rfl) (by simp) ?_
                      refine AllReadyH.cons rfl (fun K hK => ?_) AllReadyH.nil
                      go_simp
                      refine HA.out.mono ?_
                      rintro e Y9 ⟨rfl, BY8Y9⟩
                      have BY9 : Below w.heap.size w Y9 := BY8.trans (BY8Y9.mono BY8.size)
                      have bY9 : Y9.heap[w.heap.size]? = some (.cells #[.slice p0 np c0, .int .i64 l, .int .i64 t, .slice p3 m c3, .slice p4 np c4, .slice p5 np c5, .int .i64 L] 31 (0, 0)) := (BY8Y9.block _ ltY8).trans bY8
                      have hdY9 : Y9.cell? ⟨w.heap.size, 0, none⟩ = some (.slice p0 np c0) ∧ Y9.cell? ⟨w.heap.size, 3, none⟩ = some (.slice p3 m c3) := ⟨(SDeal_cells bY9).1, (SDeal_cells bY9).2.2.2.1⟩
                      have ltY9 : w.heap.size < Y9.heap.size := (Array.getElem?_eq_some_iff.1 bY9).1
                      go_wp2_with fail
                      refine hK.out _ _ hdY9 (fun hHeld => ?_)
                      clear hK K
                      try simp only [Act.put, List.setIfInBounds_toArray, List.set_cons_zero, List.set_cons_succ]
                      refine wpAnyH_take (i := 9) (oi := { dst := some 62, op := Go.Op.unOp Go.UnOp.not 4 (Go.Operand.tmp 61), type := 4, pos := "l12_play.go:26", after := #[{ on := 8, ground := Go.Ground.data }], guard := none }) (v := .bool (!(apart (D.hands ++ [D.trick])))) rfl (by kernel_rfl) (by kernel_rfl) (by kernel_rfl) (fun _ _ _ h => h) (Or.inl ⟨by rfl, ?_⟩) hHeld ?_
                      · intro wq hSw; go_simp
                      try simp only [Act.put, List.setIfInBounds_toArray, List.set_cons_zero, List.set_cons_succ]
                      refine wpAnyH_done (by kernel_rfl) ?_ _
                      go_wp2_with fail
                      go_meet
                      exact ⟨rfl, BY9, bY9⟩
                  · obtain ⟨Y10, hY10⟩ : ∃ Y10, X0.alloc (.cells #[.slice p3 m c3] 23) = Y10 := ⟨_, rfl⟩
                    have BX0Y10 : Below X0.heap.size X0 Y10 := by rw [← hY10]; exact (Below.refl _ _).alloc (Nat.le_refl _) _
                    have BY10 : Below w.heap.size w Y10 := BX0.trans (BX0Y10.mono BX0.size)
                    have bY10 : Y10.heap[w.heap.size]? = some (.cells #[.slice p0 np c0, .int .i64 l, .int .i64 t, .slice p3 m c3, .slice p4 np c4, .slice p5 np c5, .int .i64 L] 31 (0, 0)) := (BX0Y10.block _ ltX0).trans bX0
                    have hdY10 : Y10.cell? ⟨w.heap.size, 0, none⟩ = some (.slice p0 np c0) ∧ Y10.cell? ⟨w.heap.size, 3, none⟩ = some (.slice p3 m c3) := ⟨(SDeal_cells bY10).1, (SDeal_cells bY10).2.2.2.1⟩
                    have ltY10 : w.heap.size < Y10.heap.size := (Array.getElem?_eq_some_iff.1 bY10).1
                    have sY10 : Y10.heap[X0.heap.size]? = some (.cells #[.slice p3 m c3] 23 (0, 0)) := by rw [← hY10]; exact heap_alloc_new X0 _
                    go_simp
                    refine hK.out _ _ hdY10 (fun hHeld => ?_)
                    clear hK K
                    try simp only [Act.put, List.setIfInBounds_toArray, List.set_cons_zero, List.set_cons_succ]
                    refine wpAnyH_ready (rs := [0]) (by kernel_rfl) (by simp) ?_
                    refine AllReadyH.cons rfl (fun K hK => ?_) AllReadyH.nil
                    obtain ⟨Y11, hY11⟩ : ∃ Y11, Y10.alloc (.cells #[] 23) = Y11 := ⟨_, rfl⟩
                    have BY10Y11 : Below Y10.heap.size Y10 Y11 := by rw [← hY11]; exact (Below.refl _ _).alloc (Nat.le_refl _) _
                    have BY11 : Below w.heap.size w Y11 := BY10.trans (BY10Y11.mono BY10.size)
                    have bY11 : Y11.heap[w.heap.size]? = some (.cells #[.slice p0 np c0, .int .i64 l, .int .i64 t, .slice p3 m c3, .slice p4 np c4, .slice p5 np c5, .int .i64 L] 31 (0, 0)) := (BY10Y11.block _ ltY10).trans bY10
                    have hdY11 : Y11.cell? ⟨w.heap.size, 0, none⟩ = some (.slice p0 np c0) ∧ Y11.cell? ⟨w.heap.size, 3, none⟩ = some (.slice p3 m c3) := ⟨(SDeal_cells bY11).1, (SDeal_cells bY11).2.2.2.1⟩
                    have ltY11 : w.heap.size < Y11.heap.size := (Array.getElem?_eq_some_iff.1 bY11).1
                    have oY11 := World.ownsRow_lit (base := w.heap.size + 1) (e := 23) (size := 1) Y10 #[] 0 (by omega) (Nat.zero_le _) rfl
                    rw [hY11] at oY11
                    have sY11 := (BY10Y11.block _ (Array.getElem?_eq_some_iff.1 sY10).1).trans sY10
                    have ne11 : some X0.heap.size ≠ (Value.slice (some ⟨Y10.heap.size, 0, none⟩) 0 0).ownBlock := fun e => by
                      have e2 : X0.heap.size = Y10.heap.size := Option.some.inj e
                      have := (Array.getElem?_eq_some_iff.1 sY10).1
                      omega
                    go_simp
                    refine hK.out _ _ hdY11 (fun hHeld => ?_)
                    clear hK K
                    try simp only [Act.put, List.setIfInBounds_toArray, List.set_cons_zero, List.set_cons_succ]
                    refine wpAnyH_ready (rs := [3]) (by kernel_rfl) (by simp) ?_
                    refine AllReadyH.cons rfl (fun K hK => ?_) AllReadyH.nil
                    obtain ⟨vY12, Y12, rY12, oY12, gY12⟩ := run_append_vals Y11 (w.heap.size + 1) 22 22 23 i0 (.slice none 0 0) 24 Tryd.underlying22 hi hz0 hz1 hz2 rfl _ 0 [] oY11 _ us (hv0.below BY11) hone (by rw [Hul.out]; unfold maxLen; omega) (by rw [Hul.out]; omega) (by omega)
                    have BY12 : Below w.heap.size w Y12 := BY11.grown gY12 BY11.size (fun k hk => by have := own_block oY11 k hk; omega)
                    have bY12 : Y12.heap[w.heap.size]? = some (.cells #[.slice p0 np c0, .int .i64 l, .int .i64 t, .slice p3 m c3, .slice p4 np c4, .slice p5 np c5, .int .i64 L] 31 (0, 0)) := (gY12.block _ ltY11 (fun e => by have := own_block oY11 _ e.symm; omega)).trans bY11
                    have hdY12 : Y12.cell? ⟨w.heap.size, 0, none⟩ = some (.slice p0 np c0) ∧ Y12.cell? ⟨w.heap.size, 3, none⟩ = some (.slice p3 m c3) := ⟨(SDeal_cells bY12).1, (SDeal_cells bY12).2.2.2.1⟩
                    have ltY12 : w.heap.size < Y12.heap.size := (Array.getElem?_eq_some_iff.1 bY12).1
                    rw [Nat.zero_add, List.nil_append, Hul.out] at oY12
                    obtain ⟨pa12, ca12, ea12⟩ := own_shape oY12
                    subst ea12
                    have sY12 := (gY12.block _ (Array.getElem?_eq_some_iff.1 sY11).1 ne11).trans sY11
                    refine step_append_run rfl _ _ _ _ rfl _ _ rfl rfl _ _ rY12 ?_
                    refine hK.out _ _ hdY12 (fun hHeld => ?_)
                    clear hK K
                    try simp only [Act.put, List.setIfInBounds_toArray, List.set_cons_zero, List.set_cons_succ]
                    refine wpAnyH_ready (rs := [7]) (by kernel_rfl) (by simp) ?_
                    refine AllReadyH.cons rfl (fun K hK => ?_) AllReadyH.nil
                    obtain ⟨vY13, Y13, rY13, oY13, gY13⟩ := run_append_vals Y12 (w.heap.size + 1) 22 22 23 i0 (.slice none 0 0) 24 Tryd.underlying22 hi hz0 hz1 hz2 rfl _ _ _ oY12 _ [.slice p3 m c3] (one_vals sY12) (by intro u hu; simp at hu; subst hu; rfl) (by simp only [List.length_cons, List.length_nil]; unfold maxLen; omega) (by simp only [List.length_cons, List.length_nil]; omega) (by omega)
                    have BY13 : Below w.heap.size w Y13 := BY12.grown gY13 BY12.size (fun k hk => by have := own_block oY12 k hk; omega)
                    have bY13 : Y13.heap[w.heap.size]? = some (.cells #[.slice p0 np c0, .int .i64 l, .int .i64 t, .slice p3 m c3, .slice p4 np c4, .slice p5 np c5, .int .i64 L] 31 (0, 0)) := (gY13.block _ ltY12 (fun e => by have := own_block oY12 _ e.symm; omega)).trans bY12
                    have hdY13 : Y13.cell? ⟨w.heap.size, 0, none⟩ = some (.slice p0 np c0) ∧ Y13.cell? ⟨w.heap.size, 3, none⟩ = some (.slice p3 m c3) := ⟨(SDeal_cells bY13).1, (SDeal_cells bY13).2.2.2.1⟩
                    have ltY13 : w.heap.size < Y13.heap.size := (Array.getElem?_eq_some_iff.1 bY13).1
                    rw [show np + [Value.slice p3 m c3].length = np + 1 from rfl] at oY13
                    obtain ⟨pa13, ca13, ea13⟩ := own_shape oY13
                    subst ea13
                    have HA := Lib.hid (sAllApart_big _ _ Y13 (HRR.out Y13 _ BY13 oY13) hlen hsum)
                    refine step_append_run rfl _ _ _ _ rfl _ _ rfl rfl _ _ rY13 ?_
                    refine hK.out _ _ hdY13 (fun hHeld => ?_)
                    clear hK K
                    try simp only [Act.put, List.setIfInBounds_toArray, List.set_cons_zero, List.set_cons_succ]
                    refine wpAnyH_ready (rs := [8]) (by kernel_rfl) (by simp) ?_
                    refine AllReadyH.cons rfl (fun K hK => ?_) AllReadyH.nil
                    go_simp
                    refine HA.out.mono ?_
                    rintro e Y14 ⟨rfl, BY13Y14⟩
                    have BY14 : Below w.heap.size w Y14 := BY13.trans (BY13Y14.mono BY13.size)
                    have bY14 : Y14.heap[w.heap.size]? = some (.cells #[.slice p0 np c0, .int .i64 l, .int .i64 t, .slice p3 m c3, .slice p4 np c4, .slice p5 np c5, .int .i64 L] 31 (0, 0)) := (BY13Y14.block _ ltY13).trans bY13
                    have hdY14 : Y14.cell? ⟨w.heap.size, 0, none⟩ = some (.slice p0 np c0) ∧ Y14.cell? ⟨w.heap.size, 3, none⟩ = some (.slice p3 m c3) := ⟨(SDeal_cells bY14).1, (SDeal_cells bY14).2.2.2.1⟩
                    have ltY14 : w.heap.size < Y14.heap.size := (Array.getElem?_eq_some_iff.1 bY14).1
                    go_wp2_with fail
                    refine hK.out _ _ hdY14 (fun hHeld => ?_)
                    clear hK K
                    try simp only [Act.put, List.setIfInBounds_toArray, List.set_cons_zero, List.set_cons_succ]
                    refine wpAnyH_take (i := 9) (oi := { dst := some 62, op := Go.Op.unOp Go.UnOp.not 4 (Go.Operand.tmp 61), type := 4, pos := "l12_play.go:26", after := #[{ on := 8, ground := Go.Ground.data }], guard := none }) (v := .bool (!(apart (D.hands ++ [D.trick])))) rfl (by kernel_rfl) (by kernel_rfl) (by kernel_rfl) (fun _ _ _ h => h) (Or.inl ⟨by rfl, ?_⟩) hHeld ?_
                    · intro wq hSw; go_simp
                    try simp only [Act.put, List.setIfInBounds_toArray, List.set_cons_zero, List.set_cons_succ]
                    refine wpAnyH_done (by kernel_rfl) ?_ _
                    go_wp2_with fail
                    go_meet
                    exact ⟨rfl, BY14, bY14⟩
                case rest =>
                  obtain ⟨rfl, hBc, hbc⟩ := hcut
                  clear y0 y1 y2 y3 y4 y5 y6
                  cases ha : apart (D.hands ++ [D.trick]) with
                  | false =>
                    simp only [Bool.not_false]
                    have Hf3 := Lib.hid (isDeal_no3 ha)
                    clear ha
                    go_wp2_with fail
                    go_ret
                    exact ⟨by rw [← Hr.out, Hf3.out]; rfl, hBc⟩
                  | true =>
                    simp only [Bool.not_true]
                    have HY : Hid (isDeal D = leftOK D) := Lib.hid (isDeal_yes (by unfold shape1; rw [Hn.out, Hw.out, Hp.out]; exact ⟨g1, rfl, rfl⟩) (by unfold shape2; rw [Hn.out, Hl.out, Ht.out, HL.out, Hm.out]; exact ⟨g4, g5, g6, g7⟩) ha)
                    clear ha
                    obtain ⟨off4, cc4, e4, -⟩ := rd_at (k := 0) H4.out (by rw [Hw.out]; omega)
                    obtain ⟨off5, cc5, e5, -⟩ := rd_at (k := 0) H5.out (by rw [Hp.out]; omega)
                    have e4a := (Value.slice.inj e4).1
                    have e5a := (Value.slice.inj e5).1
                    subst e4a e5a
                    clear e4 e5
                    have HX : Hid (∀ k, k < np → ∀ W, Below w.heap.size w W → W.cell? ⟨b4, off4 + k, none⟩ = some (.int .i64 (D.won.getD k 0))) := Lib.hid (fun k hk W hW => by
                      obtain ⟨o, c, e, hc⟩ := rd_at H4.out (k := k) (by rw [Hw.out]; omega)
                      have e1 := (Value.slice.inj e).1
                      injection e1 with e1; injection e1 with e2 e3; subst e3; exact hc W hW)
                    have HZ : Hid (∀ k, k < np → ∀ W, Below w.heap.size w W → W.cell? ⟨b5, off5 + k, none⟩ = some (.int .i64 (D.points.getD k 0))) := Lib.hid (fun k hk W hW => by
                      obtain ⟨o, c, e, hc⟩ := rd_at H5.out (k := k) (by rw [Hp.out]; omega)
                      have e1 := (Value.slice.inj e).1
                      injection e1 with e1; injection e1 with e2 e3; subst e3; exact hc W hW)
                    obtain ⟨S, hS⟩ : ∃ S, sum12 D.won = S := ⟨_, rfl⟩
                    have hS0 := sum12_nn D.won
                    have hS1 := sum12_ub D.won
                    rw [Hw.out, hS] at hS1
                    rw [hS] at hS0
                    have HSm : Hid (∀ (W : World), Below w.heap.size w W → ∀ N, Calls Tryd.prog 61 #[.slice (some ⟨b4, off4, none⟩) np c4] (W.drewN N) fun e w' => e = .returned (.int .i64 S) ∧ W.drewN N = w') := Lib.hid (fun W hW N => by
                      rw [← hS]
                      exact l12Sum_any _ D.won b4 _ (H4.out.below (w' := W.drewN N) ⟨hW.os, hW.tape, hW.output, hW.size, hW.block⟩) (by rw [Hw.out]; omega))
                    have HSS := Lib.hid hS
                    have hw5 : IntKind.i64.wrap (L - S) = L - S := IntWalk.i64_in _ (by omega)
                    have hnz : (np : Int) ≠ 0 := by omega
                    clear hS
                    go_wp2_with fail
                    go_loopw [4, 5] (fun i _ wr => ∃ k : Nat, k ≤ np ∧ i = .int .i64 k ∧ Hid (∀ j, j < k → wonM D j) ∧ Hid (∀ j, j < k → handM D j) ∧ Below w.heap.size w wr ∧ wr.heap[w.heap.size]? = some (.cells #[.slice p0 np c0, .int .i64 l, .int .i64 t, .slice p3 m c3, .slice (some ⟨b4, off4, none⟩) np c4, .slice (some ⟨b5, off5, none⟩) np c5, .int .i64 L] 31 (0, 0))) (fun i _ _ => np - (intOf i).toNat)
                    case atStart => exact ⟨0, Nat.zero_le _, rfl, Lib.hid (fun j hj => by omega), Lib.hid (fun j hj => by omega), hBc, hbc⟩
                    case round =>
                      obtain ⟨k, hk, rfl, hok1, hok2, hB, hbr⟩ := hrel
                      obtain ⟨k0, k1, k2, k3, k4, k5, k6⟩ := SDeal_cells hbr
                      by_cases hlt : k < np
                      · have hcx := HX.out k hlt wr hB
                        have hcy := HZ.out k hlt wr hB
                        obtain ⟨x, hx⟩ : ∃ x, D.won.getD k 0 = x := ⟨_, rfl⟩
                        obtain ⟨y, hy⟩ : ∃ y, D.points.getD k 0 = y := ⟨_, rfl⟩
                        rw [hx] at hcx
                        rw [hy] at hcy
                        have Hwk : Hid (wonM D k ↔ 0 ≤ x ∧ 0 ≤ y) := Lib.hid (by unfold wonM; rw [hx, hy])
                        have hkD : k < D.hands.length := by rw [Hn.out]; exact hlt
                        have Hno : Hid (¬ wonM D k → leftOK D = false) := Lib.hid (fun h => leftM_no1 hkD h)
                        have Hno2 : Hid (¬ handM D k → leftOK D = false) := Lib.hid (fun h => leftM_no2 hkD (by rw [Hw.out, Hn.out]) (by rw [HL.out]; omega) h)
                        have hkn : (k : Int) < (np : Int) := by omega
                        have Hbr := Lib.hid hbr
                        clear hx hy hbr
                        by_cases hx0 : x < 0
                        · go_wp2_with fail
                          go_ret
                          exact ⟨by rw [← Hr.out, HY.out, Hno.out (fun h => by have := (Hwk.out.1 h).1; omega)]; rfl, hB⟩
                        · by_cases hy0 : y < 0
                          · go_wp2_with fail
                            go_ret
                            exact ⟨by rw [← Hr.out, HY.out, Hno.out (fun h => by have := (Hwk.out.1 h).2; omega)]; rfl, hB⟩
                          · obtain ⟨blk, off, cap', pp, cq, bq, hv, hc, -, -⟩ := (H0.out.below hB).row hkD
                            have ha := (Value.slice.inj hv).1
                            clear hv
                            subst ha
                            have hml := len_le_sum D.hands hkD
                            obtain ⟨h, hh⟩ : ∃ h, D.hands[k].length = h := ⟨_, rfl⟩
                            rw [hh] at hc hml
                            obtain ⟨q, hq⟩ : ∃ q, ((k : Int) - l + np) % np = q := ⟨_, rfl⟩
                            have htm : Int.tmod ((k : Int) - l + np) np = q := by rw [Int.tmod_eq_emod_of_nonneg (by omega)]; exact hq
                            have hpl : Hid (playedI D k = if q < (m : Int) then 1 else 0) := Lib.hid (playedI_eq Hn.out Hm.out Hl.out (by omega) (by omega) hq)
                            have Hhk : Hid (handM D k ↔ (h : Int) = L - S - playedI D k) := Lib.hid (by unfold handM; rw [HSS.out, HL.out, List.getD_eq_getElem?_getD, List.getElem?_eq_getElem hkD, ← hh]; rfl)
                            have hw6 : IntKind.i64.wrap ((k : Int) - l) = (k : Int) - l := IntWalk.i64_in _ (by omega)
                            have hw7 : IntKind.i64.wrap ((k : Int) - l + np) = (k : Int) - l + np := IntWalk.i64_in _ (by omega)
                            have hw8 : IntKind.i64.wrap (L - S - 1) = L - S - 1 := IntWalk.i64_in _ (by omega)
                            have HSk := Lib.hid (HSm.out wr hB)
                            have Hon : Hid (∀ j, j < k + 1 → wonM D j) := Lib.hid (fun j hj => by
                              by_cases hjk : j < k
                              · exact hok1.out j hjk
                              · obtain rfl : j = k := by omega
                                exact Hwk.out.2 ⟨by omega, by omega⟩)
                            have Hoh : Hid (handM D k → ∀ j, j < k + 1 → handM D j) := Lib.hid (fun hH j hj => by
                              by_cases hjk : j < k
                              · exact hok2.out j hjk
                              · obtain rfl : j = k := by omega
                                exact hH)
                            clear hh hq
                            by_cases hqm : q < (m : Int)
                            · rw [if_pos hqm] at hpl
                              rw [hpl.out] at Hhk
                              by_cases heq : (h : Int) = L - S - 1
                              · go_wp2_with fail
                                go_quiet ((go_at_call 61; exact Calls.quiet_of_same (flip_same (HSk.out _) rfl)))
                                go_wp2_with fail
                                go_quiet (fail)
                                go_wp2_with fail
                                exact ⟨⟨k + 1, by omega, by go_num, Hon, Lib.hid (Hoh.out (Hhk.out.2 heq)), ⟨hB.os, hB.tape, hB.output, hB.size, hB.block⟩, Hbr.out⟩, by simp [intOf]; omega⟩
                              · go_wp2_with fail
                                go_quiet ((go_at_call 61; exact Calls.quiet_of_same (flip_same (HSk.out _) rfl)))
                                go_wp2_with fail
                                go_quiet (fail)
                                go_wp2_with fail
                                go_ret
                                exact ⟨by rw [← Hr.out, HY.out, Hno2.out (fun h => heq (Hhk.out.1 h))]; rfl, ⟨hB.os, hB.tape, hB.output, hB.size, hB.block⟩⟩
                            · rw [if_neg hqm] at hpl
                              rw [hpl.out, Int.sub_zero] at Hhk
                              by_cases heq : (h : Int) = L - S
                              · go_wp2_with fail
                                go_quiet ((go_at_call 61; exact Calls.quiet_of_same (flip_same (HSk.out _) rfl)))
                                go_wp2_with fail
                                go_quiet (fail)
                                go_wp2_with fail
                                exact ⟨⟨k + 1, by omega, by go_num, Hon, Lib.hid (Hoh.out (Hhk.out.2 heq)), ⟨hB.os, hB.tape, hB.output, hB.size, hB.block⟩, Hbr.out⟩, by simp [intOf]; omega⟩
                              · go_wp2_with fail
                                go_quiet ((go_at_call 61; exact Calls.quiet_of_same (flip_same (HSk.out _) rfl)))
                                go_wp2_with fail
                                go_quiet (fail)
                                go_wp2_with fail
                                go_ret
                                exact ⟨by rw [← Hr.out, HY.out, Hno2.out (fun h => heq (Hhk.out.1 h))]; rfl, ⟨hB.os, hB.tape, hB.output, hB.size, hB.block⟩⟩
                      · obtain rfl : k = np := by omega
                        have hkn : ¬ (k : Int) < (k : Int) := by omega
                        go_wp2_with fail
                        go_ret
                        exact ⟨by rw [← Hr.out, HY.out, leftM_yes (by rw [Hn.out]; omega) (by rw [Hw.out, Hn.out]) (by rw [HL.out]; omega) (by rw [Hn.out]; exact hok1.out) (by rw [Hn.out]; exact hok2.out)]; rfl, hB⟩
              · have g7a : (np : Int) ≤ (m : Int) := by omega
                go_enter Tryd.func33, Tryd.ntmps33
                go_wp2_with fail
                refine (HN1.out _).mono ?_
                rintro e _w ⟨rfl, rfl⟩
                go_wp2_with fail
                refine (HN2.out _).mono ?_
                rintro e _w ⟨rfl, rfl⟩
                go_wp2_with fail
                refine (HN3.out _).mono ?_
                rintro e _w ⟨rfl, rfl⟩
                go_wp2_with fail
                refine (HN4.out _).mono ?_
                rintro e _w ⟨rfl, rfl⟩
                go_wp2_with fail
                go_ret
                exact ⟨by rw [← Hr.out, Hno2.out (by intro H; exact g7 H.2.2.2)]; rfl, B0 _⟩
            · rw [decide_eq_false g6] at HN4
              go_enter Tryd.func33, Tryd.ntmps33
              go_wp2_with fail
              refine (HN1.out _).mono ?_
              rintro e _w ⟨rfl, rfl⟩
              go_wp2_with fail
              refine (HN2.out _).mono ?_
              rintro e _w ⟨rfl, rfl⟩
              go_wp2_with fail
              refine (HN3.out _).mono ?_
              rintro e _w ⟨rfl, rfl⟩
              go_wp2_with fail
              refine (HN4.out _).mono ?_
              rintro e _w ⟨rfl, rfl⟩
              go_wp2_with fail
              go_ret
              exact ⟨by rw [← Hr.out, Hno2.out (by intro H; exact g6 H.2.2.1)]; rfl, B0 _⟩
          · rw [decide_eq_false g5] at HN3
            go_enter Tryd.func33, Tryd.ntmps33
            go_wp2_with fail
            refine (HN1.out _).mono ?_
            rintro e _w ⟨rfl, rfl⟩
            go_wp2_with fail
            refine (HN2.out _).mono ?_
            rintro e _w ⟨rfl, rfl⟩
            go_wp2_with fail
            refine (HN3.out _).mono ?_
            rintro e _w ⟨rfl, rfl⟩
            go_wp2_with fail
            go_ret
            exact ⟨by rw [← Hr.out, Hno2.out (by intro H; exact g5 H.2.1)]; rfl, B0 _⟩
        · rw [decide_eq_false g4] at HN2
          go_enter Tryd.func33, Tryd.ntmps33
          go_wp2_with fail
          refine (HN1.out _).mono ?_
          rintro e _w ⟨rfl, rfl⟩
          go_wp2_with fail
          refine (HN2.out _).mono ?_
          rintro e _w ⟨rfl, rfl⟩
          go_wp2_with fail
          go_ret
          exact ⟨by rw [← Hr.out, Hno2.out (by intro H; exact g4 H.1)]; rfl, B0 _⟩
      · have g3a : ¬ ((np : Int) = (nw : Int)) := by omega
        go_enter Tryd.func33, Tryd.ntmps33
        go_wp2_with fail
        refine (HN1.out _).mono ?_
        rintro e _w ⟨rfl, rfl⟩
        go_wp2_with fail
        go_ret
        exact ⟨by rw [← Hr.out, Hno1.out (by intro H; exact g3 H.2.2)]; rfl, B0 _⟩
    · have g2a : ¬ ((nw : Int) = (n : Int)) := by omega
      go_enter Tryd.func33, Tryd.ntmps33
      go_wp2_with fail
      refine (HN1.out _).mono ?_
      rintro e _w ⟨rfl, rfl⟩
      go_wp2_with fail
      go_ret
      exact ⟨by rw [← Hr.out, Hno1.out (by intro H; exact g2 H.2.1)]; rfl, B0 _⟩
  · rw [decide_eq_false g1] at HN1
    go_enter Tryd.func33, Tryd.ntmps33
    go_wp2_with fail
    refine (HN1.out _).mono ?_
    rintro e _w ⟨rfl, rfl⟩
    go_wp2_with fail
    go_ret
    exact ⟨by rw [← Hr.out, Hno1.out (by intro H; exact g1 H.1)]; rfl, B0 _⟩
end Go.Proofs.YtbojhbhniollaaaDoor
