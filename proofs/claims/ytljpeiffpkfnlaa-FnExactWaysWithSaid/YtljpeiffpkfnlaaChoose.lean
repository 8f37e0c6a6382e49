/-
  Choose, both sides.
-/
import Derived.Test.YtljpeiffpkfnlaaBinom
import Derived.Test.YtljpeiffpkfnlaaMinMax
import Derived.Test.YtljpeiffpkfnlaaIn
import Derived.StillTailTactics
import Derived.IntWalk
import Derived.Maps.AppendAt
namespace Go.Proofs.Ytljpeiffpkfnlaa
open Go.RowKit

theorem map_setC (zs : List Int) (s : Nat) (y : Int) : (zs.map (Value.int .i64)).set s (.int .i64 y) = (zs.set s y).map (Value.int .i64) := by rw [List.map_set]
def rowI (n k : Nat) : List Int := (List.range (k + 1)).map fun (m : Nat) => (binom n m : Int)
/-- The row for p + 1 things, made out of that for p things down to the place j. -/
def mixI (p j k : Nat) : List Int := (List.range (k + 1)).map fun (m : Nat) => if j < m then (binom (p + 1) m : Int) else (binom p m : Int)
theorem row_len (n k : Nat) : (rowI n k).length = k + 1 := by simp [rowI]
theorem mix_len (p j k : Nat) : (mixI p j k).length = k + 1 := by simp [mixI]
theorem mix_at (p j k m : Nat) (h : m < (mixI p j k).length) : (mixI p j k)[m] = if j < m then (binom (p + 1) m : Int) else (binom p m : Int) := by simp [mixI]
theorem row_at (n k m : Nat) (h : m < (rowI n k).length) : (rowI n k)[m] = (binom n m : Int) := by simp [rowI]
set_option linter.unusedVariables false in
theorem mix_start (p k : Nat) : mixI p (min (p + 1) k) k = rowI p k := by
  refine List.ext_getElem (by rw [mix_len, row_len]) fun m h1 h2 => ?_
  rw [mix_at, row_at]
  rw [mix_len] at h1
  split
  · rw [binom_big (p + 1) m (by omega), binom_big p m (by omega)]
  · rfl
theorem mix_end (p k : Nat) : mixI p 0 k = rowI (p + 1) k := by
  refine List.ext_getElem (by rw [mix_len, row_len]) fun m h1 h2 => ?_
  rw [mix_at, row_at]
  split
  · rfl
  · obtain rfl : m = 0 := by omega
    rw [binom_0, binom_0]
theorem mix_step (p j k : Nat) (_h : j + 1 ≤ k) : mixI p j k = (mixI p (j + 1) k).set (j + 1) ((binom p (j + 1) : Int) + (binom p j : Int)) := by
  refine List.ext_getElem (by rw [mix_len, List.length_set, mix_len]) fun m h1 h2 => ?_
  rw [mix_at]
  by_cases e : j + 1 = m
  · subst e; rw [List.getElem_set_self, if_pos (by omega), binom_step]; omega
  · rw [List.getElem_set_ne e, mix_at]
    by_cases h3 : j < m
    · rw [if_pos h3, if_pos (by omega)]
    · rw [if_neg h3, if_neg (by omega)]
theorem madeN (v : Value) (n : Nat) : (madeCells #[v] n).toList = List.replicate n v := by
  refine List.ext_getElem (by simp [size_madeCells]) fun j h1 h2 => ?_
  simp [madeCells, Nat.mod_one]
theorem row_0 (k : Nat) : ((madeCells #[Value.int .i64 0] (k + 1)).toList).set 0 (.int .i64 1) = (rowI 0 k).map (Value.int .i64) := by
  rw [madeN]
  refine List.ext_getElem (by simp [row_len]) fun m h1 h2 => ?_
  rw [List.getElem_map, row_at]
  cases m with
  | zero => rfl
  | succ m => simp [binom]
theorem two52 (n k : Nat) (h : n ≤ 52) : (binom n k : Int) ≤ 4503599627370496 := by
  have h1 := binom_le n k
  have h2 : 2 ^ n ≤ 2 ^ 52 := Nat.pow_le_pow_right (by omega) h
  have h3 : (2 : Nat) ^ 52 = 4503599627370496 := by decide
  omega

set_option maxRecDepth 100000 in
set_option maxHeartbeats 2000000 in
theorem sChoose_any (n k : Int) (w : World) :
    Calls Try.prog 27 #[.int .i64 n, .int .i64 k] w fun e w' => e = .returned (.int .i64 (chooseI n k)) ∧ Below w.heap.size w w' := by
  by_cases hn : 0 ≤ n ∧ n ≤ 52
  case neg =>
    rw [choose_out (fun h => hn ⟨h.1, h.2.1⟩)]
    have H1 := Lib.hid (fun wx => inM_any n 0 52 wx false (by simp only [decide_eq_false hn]))
    clear hn
    go_enter Try.func27, Try.ntmps27
    go_wp2_with fail
    refine (H1.out _).mono ?_
    rintro e _w ⟨rfl, rfl⟩
    go_wp2_with fail
    go_ret
    exact ⟨rfl, Below.refl _ _⟩
  have H1 := Lib.hid (fun wx => inM_any n 0 52 wx true (by simpa using hn))
  by_cases hk : 0 ≤ k ∧ k ≤ n
  case neg =>
    rw [choose_out (fun h => hk h.2.2)]
    have H2 := Lib.hid (fun wx => inM_any k 0 n wx false (by simp only [decide_eq_false hk]))
    clear hn hk
    go_enter Try.func27, Try.ntmps27
    go_wp2_with fail
    refine (H1.out _).mono ?_
    rintro e _w ⟨rfl, rfl⟩
    go_wp2_with fail
    refine (H2.out _).mono ?_
    rintro e _w ⟨rfl, rfl⟩
    go_wp2_with fail
    go_ret
    exact ⟨rfl, Below.refl _ _⟩
  have H2 := Lib.hid (fun wx => inM_any k 0 n wx true (by simpa using hk))
  obtain ⟨N, rfl⟩ : ∃ N : Nat, n = N := ⟨n.toNat, by omega⟩
  obtain ⟨K, rfl⟩ : ∃ K : Nat, k = K := ⟨k.toNat, by omega⟩
  have hN : N ≤ 52 := by omega
  have hK : K ≤ N := by omega
  rw [choose_in N K hN hK]
  obtain ⟨r, hr⟩ : ∃ r : Int, r = (binom N K : Int) := ⟨_, rfl⟩
  have Hr := Lib.hid hr
  rw [← hr]
  clear hn hk hr
  obtain ⟨i0, hi, hz0, hz1, hz2⟩ := info_parts info_i64
  go_enter Try.func27, Try.ntmps27
  go_wp2_with fail
  refine (H1.out _).mono ?_
  rintro e _w ⟨rfl, rfl⟩
  go_wp2_with fail
  refine (H2.out _).mono ?_
  rintro e _w ⟨rfl, rfl⟩
  go_wp2_with (at_make; refine wpList_make_full _ rfl _ _ 22 rfl w.heap.size 3 i0 (.int .i64 0) 1 Try.underlying22 hi hz0 hz1 _ _ _ _ (K + 1) rfl rfl rfl rfl ?c1 ?c2 ?c3 ?_)
  case c1 => rw [hz2]; omega
  case c2 => unfold maxLen; omega
  case c3 => exact Nat.le_refl _
  intro w1 hown hgr
  have hb1 : Below w.heap.size w w1 := (Below.refl _ _).grown hgr (Nat.le_refl _) (fun k hk => by cases hk)
  clear hgr hi hz0 hz1 hz2
  have hst0 := (hown.stored 0 (.int .i64 1)).1
  rw [row_0] at hst0
  have hc0 : w1.cell? ⟨w.heap.size, 0, none⟩ = some (.int .i64 0) := by rw [hown.cellAt 0 (by omega), madeN]; rfl
  have hf0 : w1.frozen? ⟨w.heap.size, 0, none⟩ = false := hown.frozenAt 0
  have hb2 : Below w.heap.size w (w1.setCell ⟨w.heap.size, 0, none⟩ (.int .i64 1)) := hb1.setCell (Nat.le_refl _) _
  clear hown hb1
  go_wp2_with fail
  go_loopw [6, 7] (fun i _ wr => ∃ p : Nat, p ≤ N ∧ i = .int .i64 ((p : Int) + 1) ∧ Below w.heap.size w wr ∧ wr.ownsRow w.heap.size 3 1 (.slice (some ⟨w.heap.size, 0, none⟩) (K + 1) (K + 1)) (K + 1) ((rowI p K).map (Value.int .i64))) (fun i _ _ => N + 1 - (intOf i).toNat)
  case atStart => exact ⟨0, Nat.zero_le _, rfl, hb2, hst0⟩
  case round =>
    clear hst0 hc0 hf0 hb2
    obtain ⟨p, hp, rfl, B, hown⟩ := hrel
    by_cases hlt : p < N
    · have HM := Lib.hid (fun wx => smin_any ((p : Int) + 1) K wx)
      have hmin : minI ((p : Int) + 1) K = ((min (p + 1) K : Nat) : Int) := by unfold minI; split <;> omega
      rw [hmin] at HM
      rw [← mix_start] at hown
      obtain ⟨J, hJ⟩ : ∃ J, J = min (p + 1) K := ⟨_, rfl⟩
      rw [← hJ] at hown HM
      have hJ1 : J ≤ K := by omega
      clear hmin hJ
      go_wp2_with fail
      refine (HM.out _).mono ?_
      rintro e _w ⟨rfl, rfl⟩
      clear HM
      go_wp2_with fail
      go_loopw [7] (fun j wy => ∃ m : Nat, m ≤ K ∧ j = .int .i64 m ∧ Below w.heap.size w wy ∧ wy.ownsRow w.heap.size 3 1 (.slice (some ⟨w.heap.size, 0, none⟩) (K + 1) (K + 1)) (K + 1) ((mixI p m K).map (Value.int .i64))) (fun j _ => (intOf j).toNat)
      case atStart => exact ⟨J, hJ1, rfl, B, hown⟩
      case round =>
        clear hown B
        obtain ⟨m, hm, rfl, B, hown⟩ := hrel
        by_cases hm0 : 1 ≤ m
        · obtain ⟨q, rfl⟩ : ∃ q, m = q + 1 := ⟨m - 1, by omega⟩
          obtain ⟨x, hx⟩ : ∃ x : Int, x = (binom p (q + 1) : Int) := ⟨_, rfl⟩
          obtain ⟨y, hy⟩ : ∃ y : Int, y = (binom p q : Int) := ⟨_, rfl⟩
          have hx0 : 0 ≤ x := by omega
          have hy0 : 0 ≤ y := by omega
          have hx1 : x ≤ 4503599627370496 := by rw [hx]; exact two52 _ _ (by omega)
          have hy1 : y ≤ 4503599627370496 := by rw [hy]; exact two52 _ _ (by omega)
          have h1 : wr.cell? ⟨w.heap.size, q + 1, none⟩ = some (.int .i64 x) := by
            rw [hown.cellAt (q + 1) (by omega), List.getElem?_map, List.getElem?_eq_getElem (by rw [mix_len]; omega), mix_at, if_neg (by omega), hx]; rfl
          have h2 : wr.cell? ⟨w.heap.size, q, none⟩ = some (.int .i64 y) := by
            rw [hown.cellAt q (by omega), List.getElem?_map, List.getElem?_eq_getElem (by rw [mix_len]; omega), mix_at, if_neg (by omega), hy]; rfl
          have hf : wr.frozen? ⟨w.heap.size, q + 1, none⟩ = false := hown.frozenAt (q + 1)
          have HD : Hid (Below w.heap.size w (wr.drew.setCell ⟨w.heap.size, q + 1, none⟩ (.int .i64 (x + y))) ∧ (wr.drew.setCell ⟨w.heap.size, q + 1, none⟩ (.int .i64 (x + y))).ownsRow w.heap.size 3 1 (.slice (some ⟨w.heap.size, 0, none⟩) (K + 1) (K + 1)) (K + 1) ((mixI p q K).map (Value.int .i64))) := Lib.hid (by
            have o2 : wr.drew.ownsRow w.heap.size 3 1 (.slice (some ⟨w.heap.size, 0, none⟩) (K + 1) (K + 1)) (K + 1) ((mixI p (q + 1) K).map (Value.int .i64)) := own_below hown (Below.refl _ _).drew
            have o3 := (o2.stored (q + 1) (.int .i64 (x + y))).1
            rw [map_setC, hx, hy, ← mix_step p q K hm, ← hx, ← hy] at o3
            exact ⟨B.drew.setCell (Nat.le_refl _) _, o3⟩)
          clear hx hy hown B
          have qa : (0 : Int) ≤ (q : Int) + 1 := by omega
          have qb : (q : Int) < (K : Int) := by omega
          have qb2 : (q : Int) < (K : Int) + 1 := by omega
          have qb3 : q < K := by omega
          have qb4 : q < K + 1 := by omega
          have qc : ((q : Int) + 1).toNat = q + 1 := by omega
          have qd : IntKind.i64.wrap (q : Int) = (q : Int) := IntWalk.i64_in _ (by omega)
          have qe : IntKind.i64.wrap (x + y) = x + y := IntWalk.i64_in _ (by omega)
          go_wp2_with fail
          go_still_tail 13, (by kernel_rfl)
          clear qa qc qd qe
          go_wp2_with fail
          go_roundw
          case rel => exact ⟨q, by omega, by first | rfl | go_num, HD.out.1, HD.out.2⟩
          case measure => simp [intOf]
        · obtain rfl : m = 0 := by omega
          rw [mix_end] at hown
          go_wp2_with fail
          go_roundw
          case rel => exact ⟨p + 1, by omega, by first | rfl | go_num, B, hown⟩
          case measure => simp [intOf]; omega
    · obtain rfl : p = N := by omega
      have h1 : wr.cell? ⟨w.heap.size, K, none⟩ = some (.int .i64 r) := by
        rw [hown.cellAt K (by omega), List.getElem?_map, List.getElem?_eq_getElem (by rw [row_len]; omega), row_at, Hr.out]; rfl
      clear hown
      go_wp2_with fail
      go_ret
      exact ⟨rfl, B⟩

def tN (n : Nat) : Nat := n * (n + 1) / 2
theorem tN_step (n : Nat) : tN (n + 1) = tN n + (n + 1) := by
  unfold tN
  have h1 : (n + 1) * (n + 1 + 1) = n * (n + 1) + 2 * (n + 1) := by rw [Nat.mul_add (n + 1) (n + 1) 1, Nat.add_mul n 1 (n + 1)]; omega
  rw [h1]; omega
theorem tN_le {n : Nat} (h : n ≤ 54) : tN n ≤ 1485 := by
  unfold tN
  have : n * (n + 1) ≤ 54 * 55 := Nat.mul_le_mul h (by omega)
  omega
theorem tN_mono {a b : Nat} (h : a ≤ b) : tN a ≤ tN b := by
  unfold tN
  have : a * (a + 1) ≤ b * (b + 1) := Nat.mul_le_mul h (by omega)
  omega
def rowL (n k : Nat) : List Int := (List.range k).map fun (m : Nat) => (binom n m : Int)
/-- The rows 0 to n - 1. -/
def triL : Nat → List Int
  | 0 => []
  | n + 1 => triL n ++ rowL n (n + 1)
theorem rowL_len (n k : Nat) : (rowL n k).length = k := by simp [rowL]
theorem rowL_step (n k : Nat) : rowL n (k + 1) = rowL n k ++ [(binom n k : Int)] := by simp [rowL, List.range_succ]
theorem tri_len (n : Nat) : (triL n).length = tN n := by
  induction n with
  | zero => rfl
  | succ n ih => rw [triL, List.length_append, ih, rowL_len, tN_step]
theorem tri_at (n r m : Nat) (hr : r < n) (hm : m ≤ r) : (triL n)[tN r + m]? = some (binom r m : Int) := by
  induction n with
  | zero => omega
  | succ n ih =>
    rw [triL]
    by_cases h : r < n
    · have h1 := tN_mono (show r + 1 ≤ n from h)
      rw [tN_step] at h1
      rw [List.getElem?_append_left (by rw [tri_len]; omega), ih h]
    · obtain rfl : r = n := by omega
      rw [List.getElem?_append_right (by rw [tri_len]; omega), tri_len, show tN r + m - tN r = m from by omega]
      simp [rowL, List.getElem?_range (show m < r + 1 by omega)]
def partL (n k : Nat) : List Int := triL n ++ rowL n k
theorem part_len (n k : Nat) : (partL n k).length = tN n + k := by rw [partL, List.length_append, tri_len, rowL_len]
theorem part_step (n k : Nat) : partL n (k + 1) = partL n k ++ [(binom n k : Int)] := by rw [partL, partL, rowL_step, List.append_assoc]
theorem part_0 (n : Nat) : partL n 0 = triL n := by simp [partL, rowL]
theorem part_end (n : Nat) : partL n (n + 1) = triL (n + 1) := rfl
theorem part_at (n k m : Nat) (hm : m ≤ n) : (partL (n + 1) k)[tN n + m]? = some (binom n m : Int) := by
  rw [partL, List.getElem?_append_left (by rw [tri_len, tN_step]; omega), tri_at _ _ _ (by omega) hm]
theorem tri_wf (n : Nat) (hn : n ≤ 53) : ∀ x ∈ triL n, (Lit.int .i64 x).wf = true := by
  induction n with
  | zero => intro x hx; cases hx
  | succ r ih =>
    intro x hx
    rcases List.mem_append.1 hx with h | h
    · exact ih (by omega) x h
    · obtain ⟨j, -, rfl⟩ := List.mem_map.1 h
      have := two52 r j (by omega)
      exact WalkArith.wf_i64 (by omega)
theorem part_wf (n k : Nat) (hn : n ≤ 52) : ∀ x ∈ partL n k, (Lit.int .i64 x).wf = true := by
  have hrow : ∀ r m, r ≤ 52 → ∀ x ∈ rowL r m, (Lit.int .i64 x).wf = true := fun r m hr x hx => by
    obtain ⟨j, -, rfl⟩ := List.mem_map.1 hx
    have := two52 r j hr
    exact WalkArith.wf_i64 (by omega)
  intro x hx
  rcases List.mem_append.1 hx with h | h
  · exact tri_wf n (by omega) x h
  · exact hrow n k hn x h
theorem part_at' (n k m : Nat) (hn : 1 ≤ n) (hm : m + 1 ≤ n) : (partL n k)[tN (n - 1) + m]? = some (binom (n - 1) m : Int) := by
  obtain ⟨q, rfl⟩ : ∃ q, n = q + 1 := ⟨n - 1, by omega⟩
  exact part_at q k m (by omega)
theorem choose_val (n k : Nat) : binom n k = if k = 0 ∨ k = n then 1 else binom n k := by
  split
  · next h => rcases h with rfl | rfl
              · exact binom_0 _
              · exact binom_self _
  · rfl
theorem binom_in (n k : Nat) (h : 1 ≤ k) : (binom (n + 1) k : Int) = (binom n (k - 1) : Int) + (binom n k : Int) := by
  obtain ⟨q, rfl⟩ : ∃ q, k = q + 1 := ⟨k - 1, by omega⟩
  rw [binom_step]; simp

theorem startOfRow_any (n : Nat) (hn : n ≤ 54) (w : World) :
    Calls Try.prog 51 #[.int .i64 n] w fun e w' => e = .returned (.int .i64 (tN n : Nat)) ∧ w = w' := by
  have hp : (n : Int) * ((n : Int) + 1) = ((n * (n + 1) : Nat) : Int) := by simp
  have hp0 : n * (n + 1) ≤ 54 * 55 := Nat.mul_le_mul hn (by omega)
  have hp1 : 0 ≤ (n : Int) * ((n : Int) + 1) := by omega
  have hp2 : (n : Int) * ((n : Int) + 1) ≤ 2970 := by omega
  have hq : Hid ((n : Int) * ((n : Int) + 1) / 2 = ((tN n : Nat) : Int)) := Lib.hid (by rw [hp]; unfold tN; omega)
  have hq0 : (0 : Int) ≤ (n : Int) * ((n : Int) + 1) / 2 := by omega
  clear hp hp0
  go_enter Try.func51, Try.ntmps51
  go_wp2
  go_ret
  exact ⟨by rw [← hq.out]; rfl, rfl⟩
theorem startOfRow_neg (w : World) :
    Calls Try.prog 51 #[.int .i64 (-1)] w fun e w' => e = .returned (.int .i64 0) ∧ w = w' := by
  go_enter Try.func51, Try.ntmps51
  go_wp2
  go_ret
  exact ⟨rfl, rfl⟩

theorem cell_blkC {w : World} {b : Nat} {c : Array Value} {t : TypeId} {fr : Nat × Nat} (h : w.heap[b]? = some (.cells c t fr)) (i : Nat) : w.cell? ⟨b, i, none⟩ = c[i]? := by
  simp [World.cell?, h]
theorem frozen_blkC {w : World} {b : Nat} {c : Array Value} {t : TypeId} (h : w.heap[b]? = some (.cells c t (0, 0))) (i : Nat) : w.frozen? ⟨b, i, none⟩ = false := by
  simp [World.frozen?, h]
theorem own_made_lt {w : World} {B b E size n cap : Nat} {xs : List Value} (h : w.ownsRow B E size (.slice (some ⟨b, 0, none⟩) n cap) n xs) : b < w.heap.size := by
  rcases h.2 with hn | ⟨g, cap', cur, hv, hb, hg, rest⟩
  · simp at hn
  · have := (Array.getElem?_eq_some_iff.1 hg).1
    simp at hv
    omega
theorem grown_reflC (w : World) (r : Option Nat) : w.grownBy w r := ⟨rfl, rfl, rfl, Nat.le_refl _, fun _ _ _ => rfl⟩
/-- The variable at tb holds the numbers xs, in memory of its own. -/
def TriSt (w : World) (tb B : Nat) (xs : List Int) : Prop :=
  ∃ o, w.heap[tb]? = some (.cells #[o] 55 (0, 0)) ∧ (∀ g, o.ownBlock = some g → g ≠ tb) ∧ w.ownsRow B 3 1 o xs.length (xs.map (Value.int .i64))
theorem TriSt.below {w w' : World} {tb B : Nat} {xs : List Int} (h : TriSt w tb B xs) (hb : Below w.heap.size w w') : TriSt w' tb B xs := by
  obtain ⟨o, h1, h2, h3⟩ := h
  exact ⟨o, (hb.block _ (Array.getElem?_eq_some_iff.1 h1).1).trans h1, h2, own_below h3 hb⟩
theorem TriSt.lt {w : World} {tb B : Nat} {xs : List Int} (h : TriSt w tb B xs) : tb < w.heap.size := by
  obtain ⟨o, h1, h2, h3⟩ := h
  exact (Array.getElem?_eq_some_iff.1 h1).1
theorem tri_put {w w1 : World} {tb B : Nat} {o v : Value} {F : List Int} {y : Int} {ob : Obj} (h1 : w.heap[tb]? = some (.cells #[o] 55 (0, 0))) (h2 : ∀ g, o.ownBlock = some g → g ≠ tb)
    (ho : w1.ownsRow B 3 1 v (F.length + 1) (F.map (Value.int .i64) ++ [.int .i64 y])) (hg : (w.alloc ob).grownBy w1 o.ownBlock) (hloc : v.ownBlock = o.ownBlock ∨ ∃ s, v.ownBlock = some s ∧ tb < s) :
    w1.heap[tb]? = some (.cells #[o] 55 (0, 0)) ∧ TriSt (w1.setCell ⟨tb, 0, none⟩ v) tb B (F ++ [y]) := by
  have hlt := (Array.getElem?_eq_some_iff.1 h1).1
  have k1 : w1.heap[tb]? = some (.cells #[o] 55 (0, 0)) := by
    rw [hg.block tb (by simp; omega) (fun e => h2 tb e.symm rfl)]
    exact (((Below.refl w.heap.size w).alloc (Nat.le_refl _) ob).block tb hlt).trans h1
  have k2 : ∀ g, v.ownBlock = some g → g ≠ tb := fun g hgg => by
    rcases hloc with e | ⟨s, e, hs⟩
    · exact h2 g (by rw [← e]; exact hgg)
    · rw [e] at hgg
      have := Option.some.inj hgg
      omega
  refine ⟨k1, v, by simp [World.setCell, Array.getElem?_modify, k1], k2, ?_⟩
  exact (own_snoc ho).kept (grown_store (grown_reflC _ _) ⟨tb, 0, none⟩ rfl _) (.inr (fun e => k2 tb e rfl))

set_option maxRecDepth 100000 in
set_option maxHeartbeats 2000000 in
theorem addRow_any (n tb B : Nat) (w : World) (hn : n ≤ 52) (hB : B ≤ tb) (hBw : B ≤ w.heap.size) (h : TriSt w tb B (triL n)) :
    Calls Try.prog 52 #[.pointer (some ⟨tb, 0, none⟩), .int .i64 n] w fun e w' => e = .returned (.tuple #[]) ∧ TriSt w' tb B (triL (n + 1)) ∧ Below B w w' := by
  obtain ⟨i0, hi, hz0, hz1, hz2⟩ := info_parts info_i64
  obtain ⟨A, hA⟩ : ∃ A : Nat, A = tN (n - 1) := ⟨_, rfl⟩
  have hA1 : A ≤ 1485 := by rw [hA]; exact tN_le (by omega)
  have HS : Hid (Calls Try.prog 51 #[.int .i64 ((n : Int) - 1)] w fun e w' => e = .returned (.int .i64 (A : Int)) ∧ w = w') := Lib.hid (by
    cases n with
    | zero => rw [hA]; exact startOfRow_neg w
    | succ m =>
      rw [hA, show (((m + 1 : Nat) : Int) - 1) = (m : Int) from by omega]
      exact startOfRow_any m (by omega) w)
  have HA := Lib.hid hA
  rw [← part_0] at h
  have hs0 : Hid (TriSt w tb B (partL n 0)) := Lib.hid h
  clear hA h
  go_enter Try.func52, Try.ntmps52
  go_wp2_with fail
  refine HS.out.mono ?_
  rintro e _w ⟨rfl, rfl⟩
  clear HS
  go_wp2_with fail
  go_loopw [5, 6, 12] (fun _ _ i wr => ∃ k : Nat, k ≤ n + 1 ∧ i = .int .i64 k ∧ Hid (TriSt wr tb B (partL n k)) ∧ Below B w wr) (fun _ _ i _ => n + 1 - (intOf i).toNat)
  case atStart => exact ⟨0, Nat.zero_le _, rfl, hs0, Below.refl _ _⟩
  case round =>
    clear hs0
    obtain ⟨k, hk, rfl, hst, HBl⟩ := hrel
    by_cases hlt : k < n + 1
    · have hlti : (k : Int) < (n : Int) + 1 := by omega
      have hsz := Nat.le_trans hBw HBl.size
      obtain ⟨o, hc, hne, hown⟩ := hst.out
      have hlt0 := hst.out.lt
      have hpl := part_len n k
      have htn : tN n ≤ 1485 := tN_le (by omega)
      have hple : (partL n k).length ≤ 1539 := by omega
      have hstep := Lib.hid (part_step n k)
      have hcell := cell_blkC hc 0
      simp at hcell
      by_cases hin : 1 ≤ k ∧ k + 1 ≤ n
      · have HI := Lib.hid (fun wx => inR_any (k : Int) 1 ((n : Int) - 1) wx true (by simp; omega))
        obtain ⟨hin1, hin2⟩ := hin
        have hAm : A = tN (n - 1) := HA.out
        have hs2 := tN_step (n - 1)
        rw [show n - 1 + 1 = n from by omega] at hs2
        obtain ⟨bb, -, hwr⟩ := own_wr hown (part_wf n k (by omega))
        rcases hwr.rd.open with ⟨h0, -⟩ | ⟨-, off, cap, rfl, hcap, hcs⟩
        · have := congrArg List.length h0; rw [hpl] at this; simp at this; omega
        have e1 := part_at' n k (k - 1) (by omega) (by omega)
        have e2 := part_at' n k k (by omega) (by omega)
        obtain ⟨x, hx⟩ : ∃ x : Int, Hid (x = (binom (n - 1) (k - 1) : Int)) := ⟨_, Lib.hid rfl⟩
        obtain ⟨y, hy⟩ : ∃ y : Int, Hid (y = (binom (n - 1) k : Int)) := ⟨_, Lib.hid rfl⟩
        have hb := two52 (n - 1) (k - 1) (by omega)
        have hb2 := two52 (n - 1) k (by omega)
        rw [← hx.out] at e1 hb
        rw [← hy.out] at e2 hb2
        rw [← hAm] at e1 e2 hs2
        have hx0 : 0 ≤ x := by rw [hx.out]; omega
        have hy0 : 0 ≤ y := by rw [hy.out]; omega
        have hval : Hid ((binom n k : Int) = x + y) := Lib.hid (by
          rw [hx.out, hy.out]
          have := binom_in (n - 1) k hin1
          rw [show n - 1 + 1 = n from by omega] at this
          exact this)
        obtain ⟨L, hL⟩ : ∃ L, L = (partL n k).length := ⟨_, rfl⟩
        obtain ⟨P1, hP1⟩ : ∃ P, P = A + (k - 1) := ⟨_, rfl⟩
        obtain ⟨P2, hP2⟩ : ∃ P, P = A + k := ⟨_, rfl⟩
        have l1 : P1 < L := by omega
        have l2 : P2 < L := by omega
        rw [← hP1] at e1
        rw [← hP2] at e2
        have h1 : wr.cell? ⟨bb, off + P1, none⟩ = some (.int .i64 x) := by
          rw [hcs P1 (by omega)]; rw [List.getElem?_eq_getElem (by omega)] at e1; rw [Option.some.inj e1]
        have h2 : wr.cell? ⟨bb, off + P2, none⟩ = some (.int .i64 y) := by
          rw [hcs P2 (by omega)]; rw [List.getElem?_eq_getElem (by omega)] at e2; rw [Option.some.inj e2]
        have q1 : IntKind.i64.wrap ((A : Int) + (k : Int)) = (P2 : Int) := by rw [IntWalk.i64_in _ (by omega)]; omega
        have q2 : IntKind.i64.wrap ((P2 : Int) - 1) = (P1 : Int) := by rw [IntWalk.i64_in _ (by omega)]; omega
        have q3 : IntKind.i64.wrap (x + y) = x + y := IntWalk.i64_in _ (by omega)
        have hcap2 : L ≤ cap := by rw [hL]; exact hcap.1
        generalize partL n k = F at *
        subst hL
        clear hpl e1 e2 hwr hcs hP1 hP2 hAm hs2
        go_wp2_with fail
        refine (HI.out _).mono ?_
        rintro e _w ⟨rfl, rfl⟩
        clear HI
        go_wp2_with fail
        go_quiet (fail)
        clear q1 q2 q3
        go_wp2_with (at_builtin; refine wpList_append_own_at _ rfl _ _ 55 rfl B 3 i0 (.int .i64 0) 1 8 Try.underlying55 hi hz0 hz1 hz2 rfl (by decide) _ _ _ rfl ((own_below hown (below_drewN (Below.refl _ _) _)).alloc _) ⟨wr.heap.size, 0, none⟩ 1 1 [.int .i64 (x + y)] rfl rfl ?c1 ?c2 ?c3 ?c4 ?c5 ?_)
        case c1 => exact cell_one_new _ _ _
        case c2 => intro u hu; simp at hu; subst hu; rfl
        case c3 => unfold maxLen; omega
        case c4 => omega
        case c5 => simp; omega
        intro v' w1 hown' hgrow _ hloc
        obtain ⟨a', cap', rfl⟩ := own_shape hown'
        obtain ⟨k1, hnew⟩ := tri_put (((below_drewN (Below.refl wr.heap.size wr) _).block _ (Array.getElem?_eq_some_iff.1 hc).1).trans hc) hne hown' hgrow (hloc.imp id fun e => ⟨_, e, by omega⟩)
        have hB6 : Below B w (w1.setCell ⟨tb, 0, none⟩ (.slice a' (F.length + 1) cap')) := (((below_drewN HBl _).alloc hsz _).grown hgrow (by simp; omega) (own_block hown)).setCell hB _
        rw [← hval.out, ← hstep.out] at hnew
        have hnew := Lib.hid hnew
        have hcell1 := cell_blkC k1 0
        simp at hcell1
        have hfr1 := frozen_blkC k1 0
        clear hown' hgrow hloc k1
        go_wp2_with fail
        go_roundw
        case rel => exact ⟨k + 1, by omega, by go_num, hnew, hB6⟩
        case measure => simp [intOf]; omega
      · have HI := Lib.hid (fun wx => inR_any (k : Int) 1 ((n : Int) - 1) wx false (by simp; omega))
        have hval : Hid ((binom n k : Int) = 1) := Lib.hid (by
          have : k = 0 ∨ k = n := by omega
          rcases this with e | e
          · rw [e, binom_0]; rfl
          · rw [e, binom_self]; rfl)
        obtain ⟨a, cap, rfl⟩ := own_shape hown
        generalize partL n k = F at *
        clear hin hpl
        go_wp2_with fail
        refine (HI.out _).mono ?_
        rintro e _w ⟨rfl, rfl⟩
        clear HI
        go_wp2_with (at_builtin; refine wpList_append_own_at _ rfl _ _ 55 rfl B 3 i0 (.int .i64 0) 1 8 Try.underlying55 hi hz0 hz1 hz2 rfl (by decide) _ _ _ rfl (hown.alloc _) ⟨wr.heap.size, 0, none⟩ 1 1 [.int .i64 1] rfl rfl ?c1 ?c2 ?c3 ?c4 ?c5 ?_)
        case c1 => exact cell_one_new _ _ _
        case c2 => intro u hu; simp at hu; subst hu; rfl
        case c3 => unfold maxLen; omega
        case c4 => omega
        case c5 => simp; omega
        intro v' w1 hown' hgrow _ hloc
        obtain ⟨a', cap', rfl⟩ := own_shape hown'
        obtain ⟨k1, hnew⟩ := tri_put hc hne hown' hgrow (hloc.imp id fun e => ⟨_, e, by omega⟩)
        have hB6 : Below B w (w1.setCell ⟨tb, 0, none⟩ (.slice a' (F.length + 1) cap')) := ((HBl.alloc hsz _).grown hgrow (by simp; omega) (own_block hown)).setCell hB _
        rw [← hval.out, ← hstep.out] at hnew
        have hnew := Lib.hid hnew
        have hcell1 := cell_blkC k1 0
        simp at hcell1
        have hfr1 := frozen_blkC k1 0
        clear hown' hgrow hloc k1
        go_wp2_with fail
        go_roundw
        case rel => exact ⟨k + 1, by omega, by go_num, hnew, hB6⟩
        case measure => simp [intOf]; omega
    · obtain rfl : k = n + 1 := by omega
      go_wp2_with fail
      go_end0
      exact ⟨rfl, hst.out, HBl⟩
set_option maxRecDepth 100000 in
set_option maxHeartbeats 2000000 in
theorem choose_any (n k : Int) (w : World) :
    Calls Try.prog 28 #[.int .i64 n, .int .i64 k] w fun e w' => e = .returned (.int .i64 (chooseI n k)) ∧ Below w.heap.size w w' := by
  by_cases hn : 0 ≤ n ∧ n ≤ 52
  case neg =>
    rw [choose_out (fun h => hn ⟨h.1, h.2.1⟩)]
    have H1 := Lib.hid (fun wx => inR_any n 0 52 wx false (by simp only [decide_eq_false hn]))
    clear hn
    go_enter Try.func28, Try.ntmps28
    go_wp2_with fail
    refine (H1.out _).mono ?_
    rintro e _w ⟨rfl, rfl⟩
    go_wp2_with fail
    go_ret
    exact ⟨rfl, Below.refl _ _⟩
  have H1 := Lib.hid (fun wx => inR_any n 0 52 wx true (by simpa using hn))
  by_cases hk : 0 ≤ k ∧ k ≤ n
  case neg =>
    rw [choose_out (fun h => hk h.2.2)]
    have H2 := Lib.hid (fun wx => inR_any k 0 n wx false (by simp only [decide_eq_false hk]))
    clear hn hk
    go_enter Try.func28, Try.ntmps28
    go_wp2_with fail
    refine (H1.out _).mono ?_
    rintro e _w ⟨rfl, rfl⟩
    go_wp2_with fail
    refine (H2.out _).mono ?_
    rintro e _w ⟨rfl, rfl⟩
    go_wp2_with fail
    go_ret
    exact ⟨rfl, Below.refl _ _⟩
  have H2 := Lib.hid (fun wx => inR_any k 0 n wx true (by simpa using hk))
  obtain ⟨N, rfl⟩ : ∃ N : Nat, n = N := ⟨n.toNat, by omega⟩
  obtain ⟨K, rfl⟩ : ∃ K : Nat, k = K := ⟨k.toNat, by omega⟩
  have hN : N ≤ 52 := by omega
  have hK : K ≤ N := by omega
  rw [choose_in N K hN hK]
  obtain ⟨r, hr⟩ : ∃ r : Int, r = (binom N K : Int) := ⟨_, rfl⟩
  have Hr := Lib.hid hr
  rw [← hr]
  clear hn hk hr
  obtain ⟨i0, hi, hz0, hz1, hz2⟩ := info_parts info_i64
  obtain ⟨C, hC⟩ : ∃ C, C = tN (N + 1) := ⟨_, rfl⟩
  have hC1 : C ≤ 1485 := by rw [hC]; exact tN_le (by omega)
  have HS : Hid (∀ wx, Calls Try.prog 51 #[.int .i64 ((N : Int) + 1)] wx fun e w' => e = .returned (.int .i64 (C : Int)) ∧ wx = w') := Lib.hid (fun wx => by
    rw [hC]; exact startOfRow_any (N + 1) (by omega) wx)
  obtain ⟨E, hE⟩ : ∃ E, E = tN N := ⟨_, rfl⟩
  have hE1 : E ≤ 1485 := by rw [hE]; exact tN_le (by omega)
  have HS2 : Hid (∀ wx, Calls Try.prog 51 #[.int .i64 N] wx fun e w' => e = .returned (.int .i64 (E : Int)) ∧ wx = w') := Lib.hid (fun wx => by
    rw [hE]; exact startOfRow_any N (by omega) wx)
  have HE := Lib.hid hE
  have HC := Lib.hid hC
  clear hC hE
  go_enter Try.func28, Try.ntmps28
  go_wp2_with fail
  refine (H1.out _).mono ?_
  rintro e _w ⟨rfl, rfl⟩
  go_wp2_with fail
  refine (H2.out _).mono ?_
  rintro e _w ⟨rfl, rfl⟩
  go_wp2_with fail
  refine (HS.out _).mono ?_
  rintro e _w ⟨rfl, rfl⟩
  clear HS H1 H2
  go_wp2_with (at_make; refine wpList_make_own _ rfl _ _ 55 rfl w.heap.size 3 i0 (.int .i64 0) 1 Try.underlying55 hi hz0 hz1 .i64 .i64 (C : Int) C rfl rfl (by omega) ?c1 ?c2 ?c3 ?_)
  case c1 => rw [hz2]; omega
  case c2 => unfold maxLen; omega
  case c3 => simp
  intro w1 hown hgr
  have hb1 : Below w.heap.size w w1 := (Below.refl _ _).grown hgr (Nat.le_refl _) (fun k hk => by cases hk)
  have hsz1 : w.heap.size < w1.heap.size := own_made_lt hown
  have hb2 := hb1.alloc hb1.size (.cells #[.slice (some ⟨w.heap.size, 0, none⟩) 0 C] 55)
  have hts : Hid (TriSt (w1.alloc (.cells #[.slice (some ⟨w.heap.size, 0, none⟩) 0 C] 55)) w1.heap.size w.heap.size (triL 0)) := Lib.hid
    ⟨_, heap_alloc_new _ _, fun g hg => by simp [Value.ownBlock] at hg; omega, hown.alloc _⟩
  obtain ⟨tb, htb⟩ : ∃ tb, tb = w1.heap.size := ⟨_, rfl⟩
  have hBt : w.heap.size ≤ tb := by omega
  clear hgr hown hsz1 hb1
  go_wp2_with fail
  rw [← htb] at hts ⊢
  clear htb
  go_loopw [6, 22] (fun _ i wr => ∃ k : Nat, k ≤ N + 1 ∧ i = .int .i64 k ∧ Hid (TriSt wr tb w.heap.size (triL k)) ∧ Below w.heap.size w wr) (fun _ i _ => N + 1 - (intOf i).toNat)
  case atStart => exact ⟨0, Nat.zero_le _, rfl, hts, hb2⟩
  case round =>
    clear hts hb2
    obtain ⟨k, hk, rfl, hst, B⟩ := hrel
    by_cases hlt : k < N + 1
    · have hlti : (k : Int) < (N : Int) + 1 := by omega
      have HA := Lib.hid (addRow_any k tb w.heap.size wr (by omega) hBt B.size hst.out)
      go_wp2_with fail
      refine HA.out.mono ?_
      rintro e w2 ⟨rfl, hst2, b2⟩
      have B2 := B.trans b2
      have hst2 := Lib.hid hst2
      clear b2 HA B hst
      go_wp2_with fail
      go_roundw
      case rel => exact ⟨k + 1, by omega, by go_num, hst2, B2⟩
      case measure => simp [intOf]; omega
    · obtain rfl : k = N + 1 := by omega
      obtain ⟨o, hc, hne, hown⟩ := hst.out
      obtain ⟨bb, -, hwr⟩ := own_wr hown (tri_wf (N + 1) (by omega))
      have htl := tri_len (N + 1)
      have hst3 := tN_step N
      rcases hwr.rd.open with ⟨h0, -⟩ | ⟨-, off, cap, rfl, hcap, hcs⟩
      · have := congrArg List.length h0; rw [htl] at this; simp at this; omega
      have e1 := tri_at (N + 1) N K (by omega) hK
      rw [← HE.out] at e1 hst3
      rw [← Hr.out] at e1
      obtain ⟨P, hP⟩ : ∃ P, P = E + K := ⟨_, rfl⟩
      rw [← hP] at e1
      have hPl : P < (triL (N + 1)).length := by omega
      have h1 : wr.cell? ⟨bb, off + P, none⟩ = some (.int .i64 r) := by
        rw [hcs P hPl]; rw [List.getElem?_eq_getElem hPl] at e1; rw [Option.some.inj e1]
      have hcell := cell_blkC hc 0
      simp at hcell
      have q1 : IntKind.i64.wrap ((E : Int) + (K : Int)) = (P : Int) := by rw [IntWalk.i64_in _ (by omega)]; omega
      generalize triL (N + 1) = F at *
      clear hst hown hwr hcs hc e1 hP htl hst3 hcap
      go_wp2_with fail
      go_quiet ((go_at_call 51; exact Calls.quiet_of_same (flip_same (HS2.out _) rfl)))
      go_wp2_with fail
      go_ret
      exact ⟨rfl, below_drewN B _⟩
end Go.Proofs.Ytljpeiffpkfnlaa
