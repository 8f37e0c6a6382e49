/-
  The hands of five, the model's side: numbers of each rank, straight, has, flush, KindOf, KeyOf.
-/
import Derived.Test.YtcafbnddbddijaaFive0
import Derived.Test.YtcafbnddbddijaaMarksI
import Derived.Test.YtcafbnddbddijaaModel05
import Derived.BigQuiet
namespace Go.Proofs.Ytcafbnddbddijaa
open Go.RowKit
set_option linter.unusedVariables false
set_option linter.unusedSimpArgs false

def ofN (n : List Nat) : List Int := n.map fun (x : Nat) => (x : Int)
theorem ofN_len (n : List Nat) : (ofN n).length = n.length := by simp [ofN]
theorem ofN_at (n : List Nat) (j : Nat) (h : j < (ofN n).length) : (ofN n)[j] = ((n.getD j 0 : Nat) : Int) := by
  have : j < n.length := by rw [← ofN_len]; exact h
  simp [ofN, this]
theorem made13 : (madeCells #[Value.int .i64 0] 13).toList = (ofN (cntV [])).map (Value.int .i64) := by simp [madeCells, List.range, List.range.loop, ofN, cntV, cntR]
theorem cntV_one (zs : List Int) (k : Nat) (h : k < zs.length) (s : Nat) (hs : rankOf zs[k] = s) :
    ofN (cntV (zs.take (k + 1))) = (ofN (cntV (zs.take k))).set s (((cntR (zs.take k) s : Nat) : Int) + 1) := by
  have l1 : ∀ l : List Int, (ofN (cntV l)).length = 13 := fun l => by rw [ofN_len, cntV_len]
  refine List.ext_getElem (by rw [l1, List.length_set, l1]) fun j h1 h2 => ?_
  have hj : j < 13 := by rw [l1] at h1; exact h1
  rw [ofN_at, cntV_at _ hj, cntR_take zs k h, hs]
  by_cases e : s = j
  · subst e; rw [List.getElem_set_self, if_pos rfl]; rfl
  · rw [List.getElem_set_ne e, ofN_at, cntV_at _ hj, if_neg (by omega)]; rfl
theorem cntV_wf (zs : List Int) (hl : zs.length ≤ 1099511627776) : ∀ x ∈ ofN (cntV zs), (Lit.int .i64 x).wf = true := by
  intro x hx
  obtain ⟨y, hy, rfl⟩ := List.mem_map.1 hx
  obtain ⟨r, -, rfl⟩ := List.mem_map.1 hy
  have := cntR_le zs r
  exact WalkArith.wf_i64 (by omega)

set_option maxRecDepth 100000 in
set_option maxHeartbeats 1000000 in
theorem sCount14_any (v : Value) (zs : List Int) (b : Nat) (w : World) (h : RdAt .i64 w v zs b) (hl : zs.length ≤ 1048576) (hcd : ∀ x ∈ zs, isCard x = true) :
    Calls Try.prog 37 #[v] w fun e w' => ∃ v' b', e = .returned v' ∧ w.heap.size ≤ b' ∧ WrAt .i64 w' v' (ofN (cntV zs)) b' ∧ Below w.heap.size w w' := by
  obtain ⟨i0, hi, hz0, hz1, hz2⟩ := info_parts info_i64
  obtain ⟨a, cap, rfl, -, -, hcell⟩ := h
  obtain ⟨n, hn⟩ : ∃ n, n = zs.length := ⟨_, rfl⟩
  have Hn := Lib.hid hn
  rw [← hn] at hl ⊢
  clear hn
  go_enter Try.func37, Try.ntmps37
  go_wp2_with (at_make; refine wpList_make_full _ rfl _ _ 22 rfl w.heap.size 3 i0 (.int .i64 0) 1 Try.underlying22 hi hz0 hz1 _ _ _ _ 13 rfl rfl rfl rfl ?c1 ?c2 ?c3 ?_)
  case c1 => rw [hz2]; omega
  case c2 => unfold maxLen; omega
  case c3 => exact Nat.le_refl _
  intro w1 hown hgr
  have hb1 : Below w.heap.size w w1 := (Below.refl _ _).grown hgr (Nat.le_refl _) (fun k hk => by cases hk)
  clear hgr hi hz0 hz1 hz2
  go_wp2_with fail
  go_loopw [4, 5] (fun i _ wr => ∃ k : Nat, k ≤ n ∧ i = .int .i64 k ∧ Below w.heap.size w wr ∧ wr.ownsRow w.heap.size 3 1 (.slice (some ⟨w.heap.size, 0, none⟩) 13 13) 13 ((ofN (cntV (zs.take k))).map (Value.int .i64))) (fun i _ _ => n - (intOf i).toNat)
  case atStart => exact ⟨0, Nat.zero_le _, rfl, hb1, by rw [made13] at hown; exact hown⟩
  case round =>
    clear hown hb1
    obtain ⟨k, hk, rfl, hb2, hown⟩ := hrel
    by_cases hlt : k < n
    · have hz : k < zs.length := by rw [← Hn.out]; exact hlt
      rcases hcell with h0 | ⟨off, rfl, hc⟩
      · subst h0; simp at hz
      obtain ⟨y, hy⟩ : ∃ y, Hid (y = zs[k]) := ⟨_, Lib.hid rfl⟩
      have h1 : wr.cell? ⟨b, off + k, none⟩ = some (.int .i64 y) := by
        have h1 := hc k hz
        rw [hb2.cell (World.block_lt_of_cell? _ _ h1), h1, hy.out]
      clear hc
      have hcy : isCard y = true := by rw [hy.out]; exact hcd _ (List.getElem_mem hz)
      have hrng := isCard_t hcy
      obtain ⟨s, hs⟩ : ∃ s : Nat, rankOf y = s := ⟨(y % 13).toNat, by rw [rank_in hcy]; omega⟩
      have h4 : s < 13 := by have := rank_in hcy; omega
      have HC := Lib.hid (sRankOf_r y wr _ hs)
      obtain ⟨m, hm⟩ : ∃ m, m = cntR (zs.take k) s := ⟨_, rfl⟩
      have hst : Hid (ofN (cntV (zs.take (k + 1))) = (ofN (cntV (zs.take k))).set s ((m : Int) + 1)) := Lib.hid (by rw [hm]; exact cntV_one zs k hz s (by rw [← hy.out]; exact hs))
      have hml : m ≤ 1048576 := by have := cntR_le (zs.take k) s; rw [List.length_take] at this; omega
      have hlen : s < (ofN (cntV (zs.take k))).length := by rw [ofN_len, cntV_len]; exact h4
      have hc2 : wr.cell? ⟨w.heap.size, s, none⟩ = some (.int .i64 m) := by
        rw [hown.cellAt s (by omega), List.getElem?_map, List.getElem?_eq_getElem hlen, ofN_at, cntV_at _ h4, hm]; rfl
      have hf2 : wr.frozen? ⟨w.heap.size, s, none⟩ = false := hown.frozenAt s
      have hst2 := (hown.stored s (.int .i64 ((m : Int) + 1))).1
      rw [List.map_set.symm, ← hst.out] at hst2
      have hb3 : Below w.heap.size w (wr.setCell ⟨w.heap.size, s, none⟩ (.int .i64 ((m : Int) + 1))) := hb2.setCell (Nat.le_refl _) _
      clear hcd hcy hrng hs hm hst hown hlen
      go_wp2_with fail
      refine HC.out.mono ?_
      rintro e _w ⟨rfl, rfl⟩
      go_wp2_with fail
      go_roundw
      case rel => exact ⟨k + 1, by omega, by go_num, hb3, hst2⟩
      case measure => simp [intOf]; omega
    · obtain rfl : k = n := by omega
      have he : Hid (ofN (cntV (zs.take k)) = ofN (cntV zs)) := Lib.hid (by rw [List.take_of_length_le (by rw [Hn.out]; exact Nat.le_refl _)])
      rw [he.out] at hown
      have hown2 : wr.ownsRow w.heap.size 3 1 (.slice (some ⟨w.heap.size, 0, none⟩) 13 13) (ofN (cntV zs)).length ((ofN (cntV zs)).map (Value.int .i64)) := by rw [ofN_len, cntV_len]; exact hown
      have HW := Lib.hid (own_wr hown2 (cntV_wf zs (by rw [← Hn.out]; omega)))
      clear hown hown2
      go_wp2_with fail
      go_ret
      obtain ⟨b2, hb2', hw2⟩ := HW.out
      exact ⟨_, b2, rfl, hb2', hw2, hb2⟩

theorem has14_take (n : List Nat) (c k : Nat) (h : k < n.length) : fiveHas (n.take (k + 1)) c = if n.getD k 0 = c then fiveHas (n.take k) c + 1 else fiveHas (n.take k) c := by
  have e : n.getD k 0 = n[k] := by simp [h]
  unfold fiveHas
  rw [List.take_succ_eq_append_getElem h, List.foldl_append, e]
  simp only [List.foldl_cons, List.foldl_nil, Nat.beq_eq]
theorem has14_le (n : List Nat) (c : Nat) : ∀ k, k ≤ n.length → fiveHas (n.take k) c ≤ k
  | 0, _ => by simp [fiveHas]
  | k + 1, h => by
    have := has14_le n c k (by omega)
    rw [has14_take n c k (by omega)]
    split <;> omega

set_option maxRecDepth 100000 in
theorem sHas14_any (v : Value) (ns : List Nat) (b c : Nat) (w : World) (h : RdAt .i64 w v (ofN ns) b) (hl : ns.length = 13) :
    Calls Try.prog 40 #[v, .int .i64 c] w fun e w' => e = .returned (.int .i64 (fiveHas ns c : Nat)) ∧ w = w' := by
  obtain ⟨a, cap, rfl, -, -, hcell⟩ := h
  have hln : (ofN ns).length = 13 := by rw [ofN_len, hl]
  have Hc := Lib.hid hcell
  have Hl := Lib.hid hl
  have Hln := Lib.hid hln
  rw [hln]
  clear hcell hl hln
  obtain ⟨r, hr⟩ : ∃ r, r = fiveHas ns c := ⟨_, rfl⟩
  have Hr := Lib.hid hr
  rw [← hr]
  clear hr
  go_enter Try.func40, Try.ntmps40
  go_wp2_with fail
  go_loop [5, 6] (fun s i => ∃ k m : Nat, k ≤ 13 ∧ m ≤ k ∧ i = .int .i64 k ∧ s = .int .i64 m ∧ Hid (m = fiveHas (ns.take k) c)) (fun _ i => 13 - (intOf i).toNat)
  case atStart => exact ⟨0, 0, Nat.zero_le _, Nat.zero_le _, rfl, rfl, Lib.hid rfl⟩
  case round =>
    obtain ⟨k, m, hk, hmk, rfl, rfl, hm⟩ := hrel
    by_cases hlt : k < 13
    · have hz : k < (ofN ns).length := by rw [Hln.out]; exact hlt
      rcases Hc.out with h0 | ⟨off, rfl, hc⟩
      · rw [h0] at hz; simp at hz
      obtain ⟨y, hy⟩ : ∃ y, Hid (y = ns.getD k 0) := ⟨_, Lib.hid rfl⟩
      have h1 : w.cell? ⟨b, off + k, none⟩ = some (.int .i64 y) := by rw [hc k hz, ofN_at, hy.out]
      have hs := has14_take ns c k (by rw [Hl.out]; exact hlt)
      rw [← hm.out, ← hy.out] at hs
      clear hc hz
      by_cases hyc : y = c
      · subst hyc
        rw [if_pos rfl] at hs
        have Hs := Lib.hid hs
        clear hs
        go_wp2_with fail
        go_round
        case rel => exact ⟨k + 1, m + 1, by omega, by omega, by go_num, by go_num, Lib.hid Hs.out.symm⟩
        case measure => simp [intOf]; omega
      · have hq : ((y : Int) == (c : Int)) = false := by simp; omega
        rw [if_neg hyc] at hs
        have Hs := Lib.hid hs
        clear hs hyc
        go_wp2_with fail
        go_round
        case rel => exact ⟨k + 1, m, by omega, by omega, by go_num, rfl, Lib.hid Hs.out.symm⟩
        case measure => simp [intOf]; omega
    · obtain rfl : k = 13 := by omega
      have hr1 : Hid (r = m) := Lib.hid (by rw [Hr.out, hm.out, List.take_of_length_le (by rw [Hl.out]; exact Nat.le_refl _)])
      go_wp2_with fail
      go_ret
      exact ⟨by rw [hr1.out]; rfl, rfl⟩

/-- The place that the model looks at. -/
def strPl (t i : Nat) : Nat := if t < i then 12 else t - i
theorem strAt_eq (n : List Nat) (t : Nat) : fiveStraightAt n t = true ↔ ∀ i, i < 5 → n.getD (strPl t i) 0 = 1 := by
  have e : ∀ i, Nat.beq (n.getD (strPl t i) 0) 1 = decide (n.getD (strPl t i) 0 = 1) := fun i => by
    by_cases h : n.getD (strPl t i) 0 = 1
    · rw [h]; rfl
    · rw [decide_eq_false h]; cases hb : Nat.beq (n.getD (strPl t i) 0) 1 with
      | false => rfl
      | true => exact absurd (Nat.eq_of_beq_eq_true hb) h
  show ([0,1,2,3,4].all fun i => Nat.beq (n.getD (strPl t i) 0) 1) = true ↔ _
  simp only [e, List.all_cons, List.all_nil, Bool.and_true, Bool.and_eq_true, decide_eq_true_eq]
  constructor
  · rintro ⟨h0, h1, h2, h3, h4⟩ i hi
    match i, hi with
    | 0, _ => exact h0
    | 1, _ => exact h1
    | 2, _ => exact h2
    | 3, _ => exact h3
    | 4, _ => exact h4
  · intro h
    exact ⟨h 0 (by omega), h 1 (by omega), h 2 (by omega), h 3 (by omega), h 4 (by omega)⟩
theorem straight_from (n : List Nat) : ∀ (ts : List Nat) (k : Nat) (hk : k < ts.length), (∀ j (hj : j < ts.length), j < k → fiveStraightAt n ts[j] = false) → fiveStraightAt n ts[k] = true → fiveStraightFrom n ts = some ts[k]
  | t :: ts, 0, hk, hno, hy => by
    have hy : fiveStraightAt n t = true := hy
    simp [fiveStraightFrom, hy]
  | t :: ts, k + 1, hk, hno, hy => by
    have h0 : fiveStraightAt n t = false := hno 0 (by simp) (by omega)
    rw [fiveStraightFrom, h0]
    exact straight_from n ts k (by simpa using hk) (fun j hj hjk => hno (j + 1) (by simpa using hj) (by omega)) hy
theorem straight_none (n : List Nat) : ∀ (ts : List Nat), (∀ j (hj : j < ts.length), fiveStraightAt n ts[j] = false) → fiveStraightFrom n ts = none
  | [], _ => rfl
  | t :: ts, hno => by
    have h0 : fiveStraightAt n t = false := hno 0 (by simp)
    rw [fiveStraightFrom, h0]
    exact straight_none n ts (fun j hj => hno (j + 1) (by simpa using hj))
theorem tops_at : ∀ k (hk : k < 10), ([12,11,10,9,8,7,6,5,4,3] : List Nat)[k]'(by simpa using hk) = 12 - k := by decide
theorem straight_hit {n : List Nat} {k : Nat} (hk : k < 10) (hno : ∀ j, j < k → fiveStraightAt n (12 - j) = false) (hy : fiveStraightAt n (12 - k) = true) : fiveStraight n = some (12 - k) := by
  have := straight_from n [12,11,10,9,8,7,6,5,4,3] k (by simpa using hk) (fun j hj hjk => by rw [tops_at j (by simpa using hj)]; exact hno j hjk) (by rw [tops_at k hk]; exact hy)
  rw [tops_at k hk] at this
  exact this
theorem straight_miss {n : List Nat} (hno : ∀ j, j < 10 → fiveStraightAt n (12 - j) = false) : fiveStraight n = none :=
  straight_none n _ (fun j hj => by rw [tops_at j (by simpa using hj)]; exact hno j (by simpa using hj))
def straightI (n : List Nat) : Int := match fiveStraight n with | some t => (t : Int) | none => -1
theorem straightI_rng (n : List Nat) : -1 ≤ straightI n ∧ straightI n ≤ 12 := by
  by_cases h : ∀ j, j < 10 → fiveStraightAt n (12 - j) = false
  · unfold straightI; rw [straight_miss h]; simp
  · have hx : ∃ k, k < 10 ∧ fiveStraightAt n (12 - k) = true := by
      refine Classical.byContradiction fun hc => h fun j hj => ?_
      cases e : fiveStraightAt n (12 - j) with
      | false => rfl
      | true => exact absurd ⟨j, hj, e⟩ hc
    have key : ∀ m, m ≤ 10 → (∀ j, j < m → fiveStraightAt n (12 - j) = false) ∨ ∃ k, k < 10 ∧ fiveStraight n = some (12 - k) := by
      intro m
      induction m with
      | zero => intro _; exact .inl fun j hj => by omega
      | succ m ih =>
        intro hm
        rcases ih (by omega) with h1 | h1
        · cases e : fiveStraightAt n (12 - m) with
          | false => exact .inl fun j hj => (by
              rcases Nat.lt_or_ge j m with hjm | hjm
              · exact h1 j hjm
              · obtain rfl : j = m := (by omega)
                exact e)
          | true => exact .inr ⟨m, by omega, straight_hit (by omega) h1 e⟩
        · exact .inr h1
    rcases key 10 (by omega) with h1 | ⟨k, hk, e⟩
    · exact absurd h1 h
    · unfold straightI; rw [e]; simp only []; omega

set_option maxRecDepth 100000 in
set_option maxHeartbeats 1000000 in
theorem sStraight14_any (v : Value) (ns : List Nat) (b : Nat) (w : World) (h : RdAt .i64 w v (ofN ns) b) (hl : ns.length = 13) :
    Calls Try.prog 38 #[v] w fun e w' => e = .returned (.int .i64 (straightI ns)) ∧ w = w' := by
  obtain ⟨a, cap, rfl, -, -, hcell⟩ := h
  have hln : (ofN ns).length = 13 := by rw [ofN_len, hl]
  obtain ⟨off, rfl, hc⟩ : ∃ off, a = some ⟨b, off, none⟩ ∧ ∀ j, j < 13 → w.cell? ⟨b, off + j, none⟩ = some (.int .i64 (ns.getD j 0 : Nat)) := by
    rcases hcell with h0 | ⟨off, rfl, hc⟩
    · rw [h0] at hln; simp at hln
    · exact ⟨off, rfl, fun j hj => by rw [hc j (by rw [hln]; exact hj), ofN_at]⟩
  have Hc := Lib.hid hc
  have Hl := Lib.hid hl
  rw [hln]
  clear hcell hl hln hc
  obtain ⟨r, hr⟩ : ∃ r, r = straightI ns := ⟨_, rfl⟩
  have Hr := Lib.hid hr
  rw [← hr]
  clear hr
  go_enter Try.func38, Try.ntmps38
  go_wp2_with fail
  go_loop [3, 4, 5, 6] (fun t _ _ _ => ∃ k : Nat, k ≤ 10 ∧ t = .int .i64 (12 - (k : Int)) ∧ Hid (∀ j, j < k → fiveStraightAt ns (12 - j) = false)) (fun t _ _ _ => (intOf t).toNat)
  case atStart => exact ⟨0, Nat.zero_le _, rfl, Lib.hid (fun j hj => by omega)⟩
  case round =>
    obtain ⟨k, hk, rfl, hno⟩ := hrel
    by_cases hlt : k < 10
    · go_wp2_with fail
      go_loop [4, 5, 6] (fun g i _ => ∃ m : Nat, m ≤ 5 ∧ i = .int .i64 m ∧ ∃ gb : Bool, g = .bool gb ∧ Hid (gb = true ↔ ∀ i, i < m → ns.getD (strPl (12 - k) i) 0 = 1)) (fun _ i _ => 5 - (intOf i).toNat)
      case atStart => exact ⟨0, Nat.zero_le _, rfl, true, rfl, Lib.hid (by simp)⟩
      case round =>
        obtain ⟨m, hm, rfl, gb, rfl, hg⟩ := hrel
        by_cases hlt2 : m < 5
        · obtain ⟨y, hy⟩ : ∃ y, Hid (y = ns.getD (strPl (12 - k) m) 0) := ⟨_, Lib.hid rfl⟩
          have hp : strPl (12 - k) m < 13 := by unfold strPl; split <;> omega
          have h1 := Hc.out _ hp
          rw [← hy.out] at h1
          have hg2 : Hid ((gb && ((y : Int) == 1)) = true ↔ ∀ i, i < m + 1 → ns.getD (strPl (12 - k) i) 0 = 1) := Lib.hid (by
            have e1 : ((y : Int) == 1) = true ↔ y = 1 := by simp; omega
            rw [Bool.and_eq_true, hg.out, e1]
            constructor
            · rintro ⟨h1, h2⟩ i hi
              by_cases e : i = m
              · subst e; rw [← hy.out]; exact h2
              · exact h1 i (by omega)
            · intro h
              exact ⟨fun i hi => h i (by omega), by rw [hy.out]; exact h m (by omega)⟩)
          by_cases hneg : 12 - k < m
          · have e1 : strPl (12 - k) m = 12 := by unfold strPl; rw [if_pos hneg]
            rw [e1] at h1
            have hq : decide ((12 - (k : Int)) - (m : Int) < 0) = true := by simp; omega
            have hq' : (12 - (k : Int)) - (m : Int) < 0 := by omega
            clear hp hy
            cases gb with
            | true =>
              go_wp2_with fail
              go_round
              case rel => exact ⟨m + 1, by omega, by go_num, _, rfl, hg2⟩
              case measure => simp [intOf]; omega
            | false =>
              go_wp2_with fail
              go_round
              case rel => exact ⟨m + 1, by omega, by go_num, _, rfl, hg2⟩
              case measure => simp [intOf]; omega
          · obtain ⟨p, hpe⟩ : ∃ p : Nat, p = 12 - k - m := ⟨_, rfl⟩
            have e1 : strPl (12 - k) m = p := by unfold strPl; rw [if_neg hneg, hpe]
            rw [e1] at h1
            have hq : (12 - (k : Int)) - (m : Int) = (p : Int) := by omega
            have hp13 : p < 13 := by omega
            have hnn : ¬ ((12 - (k : Int)) - (m : Int) < 0) := by omega
            clear hp hy hneg hpe
            cases gb with
            | true =>
              go_wp2_with fail
              go_round
              case rel => exact ⟨m + 1, by omega, by go_num, _, rfl, hg2⟩
              case measure => simp [intOf]; omega
            | false =>
              go_wp2_with fail
              go_round
              case rel => exact ⟨m + 1, by omega, by go_num, _, rfl, hg2⟩
              case measure => simp [intOf]; omega
        · obtain rfl : m = 5 := by omega
          have hat : Hid (fiveStraightAt ns (12 - k) = gb) := Lib.hid (by rw [Bool.eq_iff_iff, strAt_eq]; exact hg.out.symm)
          cases gb with
          | true =>
            have hr1 : Hid (r = 12 - (k : Int)) := Lib.hid (by
              rw [Hr.out]; unfold straightI; rw [straight_hit hlt hno.out hat.out]; simp only []; omega)
            go_wp2_with fail
            go_ret
            exact ⟨by rw [hr1.out]; rfl, rfl⟩
          | false =>
            have hno2 : Hid (∀ j, j < k + 1 → fiveStraightAt ns (12 - j) = false) := Lib.hid (fun j hj => by
              by_cases e : j = k
              · subst e; exact hat.out
              · exact hno.out j (by omega))
            go_wp2_with fail
            go_round
            case rel => exact ⟨k + 1, by omega, by go_num, hno2⟩
            case measure => simp [intOf]; omega
    · obtain rfl : k = 10 := by omega
      have hr1 : Hid (r = -1) := Lib.hid (by
        rw [Hr.out]; unfold straightI; rw [straight_miss hno.out])
      go_wp2_with fail
      go_ret
      exact ⟨by rw [hr1.out]; rfl, rfl⟩
end Go.Proofs.Ytcafbnddbddijaa
