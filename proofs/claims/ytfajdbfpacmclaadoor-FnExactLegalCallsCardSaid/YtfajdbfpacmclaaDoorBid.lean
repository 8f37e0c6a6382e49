/-
  IsCalls, Declarer, LegalCalls by contract, both sides.
-/
import Derived.Test.YtfajdbfpacmclaaDoorBidAll
namespace Go.Proofs.YtfajdbfpacmclaaDoor
open Go.RowKit

set_option maxRecDepth 100000 in
set_option maxHeartbeats 1000000 in
theorem isCalls_any (s : Addr) (p : Int) (v : Value) (zs : List Int) (b : Nat) (w : World) (h : RdAt .i64 w v zs b) (hl : zs.length ≤ 1048576) (hS : Sent1 s w) :
    Calls Tryd.prog 12 #[.int .i64 p, v] w fun e w' => e = .returned (.bool (isCallsB p zs)) ∧ Below w.heap.size w w' := by
  have HB := bidAll_any s p v zs b w h hl hS
  obtain ⟨x0, x1, x2, x3, x4, hx⟩ : ∃ x0 x1 x2 x3 x4, bidSt p zs = .agg #[.int .i64 x0, .int .i64 x1, .int .i64 x2, .int .i64 x3, .int .i64 x4] := by
    unfold bidSt; split
    · exact ⟨_, _, _, _, _, rfl⟩
    · exact ⟨_, _, _, _, _, rfl⟩
  rw [hx] at HB
  have HB := Lib.hid HB
  obtain ⟨p0, cap0, rfl, -⟩ := id h
  clear h hS hx
  go_enter Tryd.func12, Tryd.ntmps12
  go_wp2_with fail
  refine HB.out.mono ?_
  rintro e w1 ⟨rfl, B⟩
  go_wp2_with fail
  go_ret
  exact ⟨rfl, B.alloc B.size _⟩

set_option maxRecDepth 100000 in
set_option maxHeartbeats 1000000 in
theorem declarer_any (s : Addr) (p : Int) (v : Value) (zs : List Int) (b : Nat) (w : World) (h : RdAt .i64 w v zs b) (hl : zs.length ≤ 1048576) (hS : Sent1 s w) :
    Calls Tryd.prog 14 #[.int .i64 p, v] w fun e w' => e = .returned (.int .i64 (if isCallsB p zs = true ∧ endk p zs zs.length = true then decl p zs zs.length else -1)) ∧ Below w.heap.size w w' := by
  have HB := bidAll_any s p v zs b w h hl hS
  obtain ⟨p0, cap0, rfl, -⟩ := id h
  cases hc : isCallsB p zs with
  | false =>
    rw [hc] at HB
    have hx : bidSt p zs = .agg #[.int .i64 0, .int .i64 0, .int .i64 0, .int .i64 0, .int .i64 0] := by unfold bidSt; rw [hc]; rfl
    rw [hx] at HB
    have HB := Lib.hid HB
    have Hr : Hid ((if false = true ∧ endk p zs zs.length = true then decl p zs zs.length else -1) = -1) := Lib.hid (if_neg (by simp))
    rw [Hr.out]
    clear h hS hx hc Hr
    go_enter Tryd.func14, Tryd.ntmps14
    go_wp2_with fail
    refine HB.out.mono ?_
    rintro e w1 ⟨rfl, B⟩
    go_wp2_with fail
    go_ret
    exact ⟨rfl, B.alloc B.size _⟩
  | true =>
    rw [hc] at HB
    have hp : 2 ≤ p ∧ p ≤ 4 := by unfold isCallsB at hc; simp only [Bool.and_eq_true, decide_eq_true_eq] at hc; exact hc.1
    have hx : bidSt p zs = .agg #[.int .i64 p, .int .i64 zs.length, .int .i64 (pz zs zs.length), .int .i64 (hik zs zs.length), .int .i64 (decl p zs zs.length)] := by unfold bidSt; rw [hc]; rfl
    rw [hx] at HB
    have HB := Lib.hid HB
    obtain ⟨n, hn⟩ : ∃ n, n = zs.length := ⟨_, rfl⟩
    rw [← hn] at HB ⊢
    have HE : Hid (∀ wx : World, Stt wx w.heap.size p n (pz zs n) (hik zs n) (decl p zs n) → True) := Lib.hid (fun _ _ => trivial)
    obtain ⟨d, hd⟩ : ∃ d, d = decl p zs n := ⟨_, rfl⟩
    obtain ⟨g, hg⟩ : ∃ g, g = hik zs n := ⟨_, rfl⟩
    obtain ⟨m, hm⟩ : ∃ m, m = pz zs n := ⟨_, rfl⟩
    obtain ⟨q, hq⟩ : ∃ q, q = endk p zs n := ⟨_, rfl⟩
    have hq2 : endB p n m = q := by rw [hm, hq]; rfl
    rw [← hd, ← hg, ← hm] at HB
    rw [← hd, ← hq]
    clear h hS hx hc HE hd hg hm hq hn
    go_enter Tryd.func14, Tryd.ntmps14
    go_wp2_with fail
    refine HB.out.mono ?_
    rintro e w1 ⟨rfl, B⟩
    have hst : Stt (w1.alloc (.cells #[.int .i64 p, .int .i64 n, .int .i64 m, .int .i64 g, .int .i64 d] 42)) w1.heap.size p n m g d := start_blk w1 _
    have HI := isEnd_any w1.heap.size p n m _ hst.bid ⟨by omega, by omega⟩
    rw [hq2] at HI
    have HI := Lib.hid HI
    have c4 := cell_blk hst 4
    simp at c4
    have hB2 := B.alloc B.size (.cells #[.int .i64 p, .int .i64 n, .int .i64 m, .int .i64 g, .int .i64 d] 42)
    cases q with
    | false =>
      go_wp2_with fail
      refine HI.out.mono ?_
      rintro e w2 ⟨rfl, k, rfl⟩
      go_wp2_with fail
      go_ret
      exact ⟨by simp, below_drewN hB2 _⟩
    | true =>
      go_wp2_with fail
      refine HI.out.mono ?_
      rintro e w2 ⟨rfl, k, rfl⟩
      go_wp2_with fail
      go_ret
      exact ⟨by simp, below_drewN hB2 _⟩

/-- The calls that can come next. -/
def legK (g : Int) (k : Nat) : List Int := 0 :: (List.range k).map fun (i : Nat) => g + 1 + (i : Int)
theorem legK_succ (g : Int) (k : Nat) : legK g (k + 1) = legK g k ++ [g + 1 + (k : Int)] := by unfold legK; rw [List.range_succ, List.map_append]; rfl
theorem legK_len (g : Int) (k : Nat) : (legK g k).length = k + 1 := by simp [legK]
theorem legK_wf (g : Int) (k : Nat) (hg : 0 ≤ g ∧ g ≤ 35) (hk : g + k ≤ 35) : ∀ x ∈ legK g k, (Lit.int .i64 x).wf = true := by
  intro x hx
  simp only [legK, List.mem_cons, List.mem_map, List.mem_range] at hx
  rcases hx with rfl | ⟨i, hi, rfl⟩
  · exact WalkArith.wf_i64 (by omega)
  · exact WalkArith.wf_i64 (by omega)
def legalI (p : Int) (zs : List Int) : List Int := if isCallsB p zs = true ∧ endk p zs zs.length = false then legK (hik zs zs.length) (35 - hik zs zs.length).toNat else []
theorem legalI_len (p : Int) (zs : List Int) : (legalI p zs).length ≤ 1000000 := by
  unfold legalI; split
  · have := hik_pos zs zs.length (Nat.le_refl _)
    rw [legK_len]; omega
  · simp
theorem isCalls_range {p : Int} {zs : List Int} (h : isCallsB p zs = true) : (2 ≤ p ∧ p ≤ 4) ∧ (∀ k, k < zs.length → okB p zs k = true) := by
  unfold isCallsB okAll at h
  simp only [Bool.and_eq_true, decide_eq_true_eq] at h
  exact h

set_option maxRecDepth 100000 in
set_option maxHeartbeats 4000000 in
theorem legalCalls_any (s : Addr) (p : Int) (v : Value) (zs : List Int) (b : Nat) (w : World) (h : RdAt .i64 w v zs b) (hl : zs.length ≤ 1048576) (hS : Sent1 s w) :
    Calls Tryd.prog 10 #[.int .i64 p, v] w fun e w' => ∃ v' b', e = .returned v' ∧ w.heap.size ≤ b' ∧ WrAt .i64 w' v' (legalI p zs) b' ∧ Below w.heap.size w w' := by
  obtain ⟨i0, hi, hz0, hz1, hz2⟩ := info_parts info_i64
  have hB0 : Below w.heap.size w (w.alloc (.cells #[] 3)) := (Below.refl _ _).alloc (Nat.le_refl _) _
  have hown0 := World.ownsRow_lit (base := w.heap.size) (e := 3) (size := 1) w #[] 0 (Nat.le_refl _) (Nat.zero_le _) rfl
  have HB := bidAll_any s p v zs b (w.alloc (.cells #[] 3)) (h.below hB0) hl (hS.below hB0)
  obtain ⟨p0, cap0, rfl, -⟩ := id h
  cases hc : isCallsB p zs with
  | false =>
    rw [hc] at HB
    have hx : bidSt p zs = .agg #[.int .i64 0, .int .i64 0, .int .i64 0, .int .i64 0, .int .i64 0] := by unfold bidSt; rw [hc]; rfl
    rw [hx] at HB
    have HB := Lib.hid HB
    have Hr : Hid (legalI p zs = []) := Lib.hid (by unfold legalI; rw [if_neg (by rw [hc]; simp)])
    have HB1 := Lib.hid hB0
    clear h hS hx hc hown0 hi hz0 hz1 hz2 hB0
    go_enter Tryd.func10, Tryd.ntmps10
    go_wp2_with fail
    refine HB.out.mono ?_
    rintro e w1 ⟨rfl, B1⟩
    have B := HB1.out.trans (B1.mono HB1.out.size)
    go_wp2_with fail
    go_ret
    exact ⟨_, w.heap.size, rfl, Nat.le_refl _, by rw [Hr.out]; exact WrAt.nil _ _ _ _ _ ⟨Nat.zero_le _, fun h => by cases h⟩, B.alloc B.size _⟩
  | true =>
    rw [hc] at HB
    obtain ⟨hp, hok⟩ := isCalls_range hc
    have hx : bidSt p zs = .agg #[.int .i64 p, .int .i64 zs.length, .int .i64 (pz zs zs.length), .int .i64 (hik zs zs.length), .int .i64 (decl p zs zs.length)] := by unfold bidSt; rw [hc]; rfl
    rw [hx] at HB
    have HB := Lib.hid HB
    have hg0 := hik_pos zs zs.length (Nat.le_refl _)
    have hg1 := hik_le zs.length (Nat.le_refl _) hok
    obtain ⟨n, hn⟩ : ∃ n, n = zs.length := ⟨_, rfl⟩
    obtain ⟨d, hd⟩ : ∃ d, d = decl p zs zs.length := ⟨_, rfl⟩
    obtain ⟨g, hg⟩ : ∃ g, g = hik zs zs.length := ⟨_, rfl⟩
    obtain ⟨m, hm⟩ : ∃ m, m = pz zs zs.length := ⟨_, rfl⟩
    obtain ⟨q, hq⟩ : ∃ q, q = endk p zs zs.length := ⟨_, rfl⟩
    have hq2 : endB p n m = q := by rw [hm, hq, hn]; rfl
    have Hr0 : Hid (legalI p zs = if q = false then legK g (35 - g).toNat else []) := Lib.hid (by unfold legalI; rw [hc, ← hq, ← hg]; simp)
    rw [← hd, ← hg, ← hm] at HB
    rw [← hg] at hg0 hg1
    rw [← hn] at HB ⊢
    have Hq2 := Lib.hid hq2
    clear h hS hx hc hd hg hm hq hn hok
    have Hww : Hid (w.heap.size < (w.alloc (.cells #[] 3)).heap.size) := Lib.hid (by simp)
    have B0 := Lib.hid hB0
    have O0 := Lib.hid hown0
    clear hB0 hown0 hq2
    go_enter Tryd.func10, Tryd.ntmps10
    go_wp2_with fail
    refine HB.out.mono ?_
    rintro e w1 ⟨rfl, B1⟩
    have B := B0.out.trans (B1.mono B0.out.size)
    have B1s := Lib.hid B1.size
    have hown1 := (own_below O0.out B1).alloc (.cells #[.int .i64 p, .int .i64 n, .int .i64 m, .int .i64 g, .int .i64 d] 42)
    have hst : Stt (w1.alloc (.cells #[.int .i64 p, .int .i64 n, .int .i64 m, .int .i64 g, .int .i64 d] 42)) w1.heap.size p n m g d := start_blk w1 _
    have hB2 := B.alloc B.size (.cells #[.int .i64 p, .int .i64 n, .int .i64 m, .int .i64 g, .int .i64 d] 42)
    have hszw : w.heap.size ≤ w1.heap.size := B.size
    have HI := isEnd_any w1.heap.size p n m _ hst.bid ⟨by omega, by omega⟩
    rw [Hq2.out] at HI
    have HI := Lib.hid HI
    have c3 := cell_blk hst 3
    simp at c3
    clear B B1 HB
    cases q with
    | true =>
      have Hr : Hid (legalI p zs = []) := Lib.hid (by rw [Hr0.out]; rfl)
      clear hown1
      go_wp2_with fail
      refine HI.out.mono ?_
      rintro e w2 ⟨rfl, k, rfl⟩
      go_wp2_with fail
      go_ret
      exact ⟨_, w.heap.size, rfl, Nat.le_refl _, by rw [Hr.out]; exact WrAt.nil _ _ _ _ _ ⟨Nat.zero_le _, fun h => by cases h⟩, below_drewN hB2 _⟩
    | false =>
      have Hr : Hid (legalI p zs = legK g (35 - g).toNat) := Lib.hid (by rw [Hr0.out]; rfl)
      go_wp2_with fail
      refine HI.out.mono ?_
      rintro e w2 ⟨rfl, k, rfl⟩
      have B3 := below_drewN hB2 k
      have hown2 := own_below hown1 (below_drewN (Below.refl _ _) k)
      have hs2 : Stt ((w1.alloc (.cells #[.int .i64 p, .int .i64 n, .int .i64 m, .int .i64 g, .int .i64 d] 42)).drewN k) w1.heap.size p n m g d := hst
      have hlt2 : w1.heap.size < ((w1.alloc (.cells #[.int .i64 p, .int .i64 n, .int .i64 m, .int .i64 g, .int .i64 d] 42)).drewN k).heap.size := (Array.getElem?_eq_some_iff.1 hs2).1
      have hww : w.heap.size < w1.heap.size := by have := Hww.out; have := B1s.out; omega
      generalize (w1.alloc (.cells #[.int .i64 p, .int .i64 n, .int .i64 m, .int .i64 g, .int .i64 d] 42)).drewN k = w2 at B3 hown2 hs2 hlt2 ⊢
      clear hown1 hst hB2 HI c3
      have hsz2 := B3.size
      go_wp2_with (at_builtin; refine wpList_append_own _ rfl _ _ 24 rfl w.heap.size 3 i0 (.int .i64 0) 1 8 Tryd.underlying24 hi hz0 hz1 hz2 rfl (by decide) _ _ _ rfl (hown2.alloc _) ⟨w2.heap.size, 0, none⟩ 1 1 [.int .i64 0] rfl rfl (cell_one_new _ _ _) (one_cell _ _) ?f3 ?f4 (by simp; omega) ?_)
      case f3 => unfold maxLen; omega
      case f4 => omega
      intro v3 w3 hown3 hgr3 _
      have B4 : Below w.heap.size w w3 := (B3.alloc hsz2 _).grown hgr3 (by simp; omega) (own_block hown2)
      have hs3 : Stt w3 w1.heap.size p n m g d := by
        unfold Stt
        rw [hgr3.block w1.heap.size (by simp; omega) (by simp [Value.ownBlock]; omega), (((Below.refl w2.heap.size w2).alloc (Nat.le_refl _) _).block _ hlt2)]
        exact hs2
      have c3 := cell_blk hs3 3
      simp at c3
      have hown4 : w3.ownsRow w.heap.size 3 1 v3 (0 + 1) ((legK g 0).map (Value.int .i64)) := hown3
      clear hown3 hgr3 hown2 B3 hs2 hs3
      go_wp2_with fail
      go_loopw [5, 8] (fun o i wr => ∃ k : Nat, Hid (g + 1 + (k : Int) ≤ 36) ∧ i = .int .i64 (g + 1 + (k : Int)) ∧ Below w.heap.size w wr ∧ wr.ownsRow w.heap.size 3 1 o (k + 1) ((legK g k).map (Value.int .i64))) (fun _ i _ => (36 - intOf i).toNat)
      case atStart => exact ⟨0, Lib.hid (by omega), by simp, B4, hown4⟩
      case round =>
        clear hown4 B4
        obtain ⟨k, hk0, rfl, B, hown⟩ := hrel
        have hk := hk0.out
        have hsz := B.size
        have hk2 : k ≤ 35 := by omega
        by_cases hlt : g + 1 + (k : Int) ≤ 35
        · go_wp2_with (at_builtin; refine wpList_append_own _ rfl _ _ 24 rfl w.heap.size 3 i0 (.int .i64 0) 1 8 Tryd.underlying24 hi hz0 hz1 hz2 rfl (by decide) _ _ _ rfl (hown.alloc _) ⟨wr.heap.size, 0, none⟩ 1 1 [.int .i64 (g + 1 + (k : Int))] rfl rfl (cell_one_new _ _ _) (one_cell _ _) ?g3 ?g4 (by simp; omega) ?_)
          case g3 => unfold maxLen; omega
          case g4 => omega
          intro v5 w5 hown5 hgr5 _
          have B5 : Below w.heap.size w w5 := (B.alloc hsz _).grown hgr5 (by simp; omega) (own_block hown)
          have hown6 : w5.ownsRow w.heap.size 3 1 v5 (k + 1 + 1) ((legK g (k + 1)).map (Value.int .i64)) := by
            rw [legK_succ, List.map_append]; exact hown5
          clear hown5 hgr5 hown B
          go_wp2_with fail
          go_roundw
          case rel => exact ⟨k + 1, Lib.hid (by omega), by simp; omega, B5, hown6⟩
          case measure => simp [intOf]; omega
        · have hke : Hid ((35 - g).toNat = k) := Lib.hid (by omega)
          have hwr := Lib.hid (own_wr (zs := legK g k) (by rw [legK_len]; exact hown) (legK_wf g k ⟨hg0, hg1⟩ (by omega)))
          clear hown
          go_wp2_with fail
          go_ret
          obtain ⟨b', hb', hw'⟩ := hwr.out
          exact ⟨_, rfl, b', hb', by rw [Hr.out, hke.out]; exact hw', B⟩

def okS (p : Int) (zs : List Int) (k : Nat) : Bool := decide (0 ≤ zs.getD k 0 ∧ zs.getD k 0 ≤ 35) && (!(decide (0 < zs.getD k 0 ∧ zs.getD k 0 ≤ hik zs k)) && !(callsEnd p (zs.take k)))
theorem okS_eq {p : Int} {zs : List Int} {k : Nat} (hp : 2 ≤ p ∧ p ≤ 4) (hk : k ≤ zs.length) : okS p zs k = okB p zs k := by
  unfold okS okB; rw [callsEnd_take hk (by omega)]
theorem okS_no {p : Int} {zs : List Int} {k : Nat} (hk : k < zs.length) (h : okS p zs k = false) : isCallsB p zs = false := by
  unfold isCallsB
  by_cases hp : 2 ≤ p ∧ p ≤ 4
  · rw [okAll_f hk (by rw [← okS_eq hp (Nat.le_of_lt hk)]; exact h), Bool.and_false]
  · rw [decide_eq_false hp]; rfl
theorem okS_yes {p : Int} {zs : List Int} (h : ∀ k, k < zs.length → okS p zs k = true) : isCallsB p zs = decide (2 ≤ p ∧ p ≤ 4) := by
  unfold isCallsB
  by_cases hp : 2 ≤ p ∧ p ≤ 4
  · rw [okAll_t (fun k hk => by rw [← okS_eq hp (Nat.le_of_lt hk)]; exact h k hk), Bool.and_true]
  · rw [decide_eq_false hp]; rfl
theorem inS_any (n lo hi : Int) (w : World) (r : Bool) (hr : r = decide (lo ≤ n ∧ n ≤ hi)) :
    Calls Tryd.prog 34 #[.int .i64 n, .int .i64 lo, .int .i64 hi] w fun e w' => e = .returned (.bool r) ∧ w = w' := by
  by_cases h0 : lo ≤ n
  · by_cases h1 : n ≤ hi
    · have e : r = true := by rw [hr]; simp; omega
      subst e; clear hr
      go_enter Tryd.func34, Tryd.ntmps34
      go_wp2
      go_ret
      exact ⟨rfl, rfl⟩
    · have e : r = false := by rw [hr]; simp; omega
      have hd : decide (n ≤ hi) = false := by simp; omega
      subst e; clear hr
      go_enter Tryd.func34, Tryd.ntmps34
      go_wp2
      go_ret
      exact ⟨rfl, rfl⟩
  · have e : r = false := by rw [hr]; simp; omega
    subst e; clear hr
    go_enter Tryd.func34, Tryd.ntmps34
    go_wp2
    go_ret
    exact ⟨rfl, rfl⟩

set_option maxRecDepth 100000 in
set_option maxHeartbeats 4000000 in
theorem sIsCalls_any (p : Int) (v : Value) (zs : List Int) (b : Nat) (w : World) (h : RdAt .i64 w v zs b) (hl : zs.length ≤ 1048576) (wp : (Lit.int .i64 p).wf = true) :
    Calls Tryd.prog 24 #[.int .i64 p, v] w fun e w' => e = .returned (.bool (isCallsB p zs)) ∧ Below w.heap.size w w' := by
  obtain ⟨a, cap, rfl, hcap, hwf, hcell⟩ := h
  obtain ⟨n, hn⟩ : ∃ n, n = zs.length := ⟨_, rfl⟩
  have Hn := Lib.hid hn
  have Hcap := Lib.hid (show zs.length ≤ cap ∧ cap ≤ maxLen from ⟨hcap.1, hcap.2.1⟩)
  have hcap1 : n ≤ cap := by omega
  have hcap2 : cap ≤ 9223372036854775807 := by have := hcap.2.1; unfold maxLen at this; omega
  rw [← hn] at hl ⊢
  clear hn hcap
  obtain ⟨r, hr⟩ : ∃ r, r = isCallsB p zs := ⟨_, rfl⟩
  have Hr := Lib.hid hr
  rw [← hr]
  clear hr
  go_enter Tryd.func24, Tryd.ntmps24
  go_wp2_with fail
  go_loopw [5] (fun i wr => ∃ k : Nat, k ≤ n ∧ i = .int .i64 k ∧ (∃ q, wr = w.drewN q) ∧ Hid (∀ j, j < k → okS p zs j = true)) (fun i _ => n - (intOf i).toNat)
  case atStart => exact ⟨0, Nat.zero_le _, rfl, ⟨0, rfl⟩, Lib.hid (fun j h => by omega)⟩
  case round =>
    obtain ⟨k, hk, rfl, hq, hok⟩ := hrel
    have Hq := Lib.hid hq
    clear hq
    by_cases hlt : k < n
    · have hz : k < zs.length := by rw [← Hn.out]; exact hlt
      rcases hcell with h0 | ⟨off, rfl, hc⟩
      · subst h0; simp at hz
      have hrd : ∀ m, RdAt .i64 (wr.drewN m) (.slice (some ⟨b, off, none⟩) k cap) (zs.take k) b := fun m => by
        obtain ⟨q, e⟩ := Hq.out
        subst e
        exact RdAt.take (w := (w.drewN q).drewN m) Hcap.out hwf (fun j hj => hc j hj) k (by omega)
      have hlk : (zs.take k).length ≤ 1099511627776 := by rw [List.length_take]; omega
      have HH : Hid (∀ m, Calls Tryd.prog 39 #[.slice (some ⟨b, off, none⟩) k cap] (wr.drewN m) fun e w' => e = .returned (.int .i64 (hik zs k)) ∧ wr.drewN m = w') := Lib.hid (fun m => sHighBid_any _ _ b _ (hrd m) hlk)
      obtain ⟨g, hg⟩ : ∃ g, g = hik zs k := ⟨_, rfl⟩
      obtain ⟨en, hen⟩ : ∃ en, en = callsEnd p (zs.take k) := ⟨_, rfl⟩
      have HE : Hid (∀ m, Calls Tryd.prog 40 #[.int .i64 p, .slice (some ⟨b, off, none⟩) k cap] (wr.drewN m) fun e w' => e = .returned (.bool en) ∧ wr.drewN m = w') := Lib.hid (fun m => by rw [hen]; exact sCallsEnd_any p _ _ b _ (hrd m) hlk wp)
      rw [← hg] at HH
      obtain ⟨y, hy⟩ : ∃ y, y = zs.getD k 0 := ⟨_, rfl⟩
      have h1 : wr.cell? ⟨b, off + k, none⟩ = some (.int .i64 y) := by
        obtain ⟨q, e⟩ := Hq.out
        subst e
        show w.cell? _ = _
        rw [hc k hz, hy]; simp [List.getD, hz]
      have hoks : Hid (okS p zs k = (decide (0 ≤ y ∧ y ≤ 35) && (!(decide (0 < y ∧ y ≤ g)) && !en))) := Lib.hid (by unfold okS; rw [← hy, ← hg, ← hen])
      clear hc hrd hg hen hy
      by_cases hin : 0 ≤ y ∧ y ≤ 35
      · have HI : Hid (true = decide ((0 : Int) ≤ y ∧ y ≤ 35)) := Lib.hid (by simp; omega)
        by_cases hb : 0 < y ∧ y ≤ g
        · have hr1 : Hid (r = false) := Lib.hid (by rw [Hr.out]; exact okS_no hz (by rw [hoks.out, decide_eq_true hb]; simp))
          obtain ⟨hb1, hb2⟩ := hb
          have hd1 : decide (0 < y) = true := by simpa using hb1
          have hd2 : decide (y ≤ g) = true := by simpa using hb2
          go_wp2_with fail
          go_quiet (first | (go_at_call 34; exact Calls.quiet_of_same (flip_same (inS_any _ _ _ _ true HI.out) rfl)) | (go_at_call 39; exact Calls.quiet_of_same (flip_same (HH.out _) rfl)))
          go_wp2_with fail
          go_ret
          exact ⟨by rw [hr1.out]; rfl, by obtain ⟨q, e⟩ := Hq.out; subst e; exact below_drewN (below_drewN (Below.refl _ _) _) _⟩
        · by_cases hy0 : 0 < y
          · cases en with
            | true =>
              have hr1 : Hid (r = false) := Lib.hid (by rw [Hr.out]; exact okS_no hz (by rw [hoks.out]; simp))
              have hd1 : decide (0 < y) = true := by simpa using hy0
              have hd2 : decide (y ≤ g) = false := by simp; omega
              have hd3 : ¬ y ≤ g := by omega
              go_wp2_with fail
              go_quiet (first | (go_at_call 34; exact Calls.quiet_of_same (flip_same (inS_any _ _ _ _ true HI.out) rfl)) | (go_at_call 39; exact Calls.quiet_of_same (flip_same (HH.out _) rfl)) | (go_at_call 40; exact Calls.quiet_of_same (flip_same (HE.out _) rfl)))
              go_wp2_with fail
              go_ret
              exact ⟨by rw [hr1.out]; rfl, by obtain ⟨q, e⟩ := Hq.out; subst e; exact below_drewN (below_drewN (Below.refl _ _) _) _⟩
            | false =>
              have hok2 : Hid (∀ j, j < k + 1 → okS p zs j = true) := Lib.hid (fun j hj => by
                by_cases e : j = k
                · subst e; rw [hoks.out, decide_eq_true hin, decide_eq_false hb]; rfl
                · exact hok.out j (by omega))
              have hd1 : decide (0 < y) = true := by simpa using hy0
              have hd2 : decide (y ≤ g) = false := by simp; omega
              have hd3 : ¬ y ≤ g := by omega
              clear hb
              go_wp2_with fail
              go_quiet (first | (go_at_call 34; exact Calls.quiet_of_same (flip_same (inS_any _ _ _ _ true HI.out) rfl)) | (go_at_call 39; exact Calls.quiet_of_same (flip_same (HH.out _) rfl)) | (go_at_call 40; exact Calls.quiet_of_same (flip_same (HE.out _) rfl)))
              go_wp2_with fail
              go_roundw
              case rel => exact ⟨k + 1, by omega, by go_num, by obtain ⟨q, e⟩ := Hq.out; subst e; exact ⟨_, World.drewN_drewN _ _ _⟩, hok2⟩
              case measure => simp [intOf]; omega
          · cases en with
            | true =>
              have hr1 : Hid (r = false) := Lib.hid (by rw [Hr.out]; exact okS_no hz (by rw [hoks.out]; simp))
              have hd1 : decide (0 < y) = false := by simpa using hy0
              go_wp2_with fail
              go_quiet (first | (go_at_call 34; exact Calls.quiet_of_same (flip_same (inS_any _ _ _ _ true HI.out) rfl)) | (go_at_call 39; exact Calls.quiet_of_same (flip_same (HH.out _) rfl)) | (go_at_call 40; exact Calls.quiet_of_same (flip_same (HE.out _) rfl)))
              go_wp2_with fail
              go_ret
              exact ⟨by rw [hr1.out]; rfl, by obtain ⟨q, e⟩ := Hq.out; subst e; exact below_drewN (below_drewN (Below.refl _ _) _) _⟩
            | false =>
              have hok2 : Hid (∀ j, j < k + 1 → okS p zs j = true) := Lib.hid (fun j hj => by
                by_cases e : j = k
                · subst e; rw [hoks.out, decide_eq_true hin, decide_eq_false hb]; rfl
                · exact hok.out j (by omega))
              have hd1 : decide (0 < y) = false := by simpa using hy0
              clear hb
              go_wp2_with fail
              go_quiet (first | (go_at_call 34; exact Calls.quiet_of_same (flip_same (inS_any _ _ _ _ true HI.out) rfl)) | (go_at_call 39; exact Calls.quiet_of_same (flip_same (HH.out _) rfl)) | (go_at_call 40; exact Calls.quiet_of_same (flip_same (HE.out _) rfl)))
              go_wp2_with fail
              go_roundw
              case rel => exact ⟨k + 1, by omega, by go_num, by obtain ⟨q, e⟩ := Hq.out; subst e; exact ⟨_, World.drewN_drewN _ _ _⟩, hok2⟩
              case measure => simp [intOf]; omega
      · have HI : Hid (false = decide ((0 : Int) ≤ y ∧ y ≤ 35)) := Lib.hid (by simp; omega)
        have hr1 : Hid (r = false) := Lib.hid (by rw [Hr.out]; exact okS_no hz (by rw [hoks.out, decide_eq_false hin]; rfl))
        go_wp2_with fail
        go_quiet ((go_at_call 34; exact Calls.quiet_of_same (flip_same (inS_any _ _ _ _ false HI.out) rfl)))
        go_wp2_with fail
        go_ret
        exact ⟨by rw [hr1.out]; rfl, by obtain ⟨q, e⟩ := Hq.out; subst e; exact below_drewN (below_drewN (Below.refl _ _) _) _⟩
    · obtain rfl : k = n := by omega
      have hr1 : Hid (r = decide (2 ≤ p ∧ p ≤ 4)) := Lib.hid (by rw [Hr.out]; exact okS_yes (fun j hj => hok.out j (by rw [Hn.out]; exact hj)))
      go_wp2_with fail
      refine (inS_any _ _ _ _ r hr1.out).mono ?_
      rintro e _w ⟨rfl, rfl⟩
      go_wp2_with fail
      go_ret
      exact ⟨rfl, by obtain ⟨q, e⟩ := Hq.out; subst e; exact below_drewN (Below.refl _ _) _⟩

theorem decl_none {p : Int} {zs : List Int} (hok : ∀ k, k < zs.length → okB p zs k = true) (h : hik zs zs.length = 0) : decl p zs zs.length = -1 := by
  rcases decl_is zs.length (Nat.le_refl _) hok with ⟨-, h2⟩ | ⟨i, -, -, -, h4, -⟩
  · exact h2
  · omega
theorem decl_some {p : Int} {zs : List Int} (hok : ∀ k, k < zs.length → okB p zs k = true) (h : ¬ hik zs zs.length = 0) :
    ∃ i, i < zs.length ∧ decl p zs zs.length = (i : Int) % p ∧ zs.getD i 0 = hik zs zs.length ∧ ∀ j, j < i → zs.getD j 0 ≠ hik zs zs.length := by
  rcases decl_is zs.length (Nat.le_refl _) hok with ⟨h1, -⟩ | ⟨i, h1, h2, h3, -, h5⟩
  · exact absurd h1 h
  · exact ⟨i, h1, h2, h3, h5⟩
theorem hik_all (zs : List Int) : hik zs zs.length = hiI 0 zs := by unfold hik; rw [List.take_length]

set_option maxRecDepth 100000 in
set_option maxHeartbeats 4000000 in
theorem sDeclarer_any (p : Int) (v : Value) (zs : List Int) (b : Nat) (w : World) (h : RdAt .i64 w v zs b) (hl : zs.length ≤ 1048576) (wp : (Lit.int .i64 p).wf = true) :
    Calls Tryd.prog 25 #[.int .i64 p, v] w fun e w' => e = .returned (.int .i64 (if isCallsB p zs = true ∧ endk p zs zs.length = true then decl p zs zs.length else -1)) ∧ Below w.heap.size w w' := by
  have HI := sIsCalls_any p v zs b w h hl wp
  have HE : Hid (∀ wx, Below w.heap.size w wx → Calls Tryd.prog 40 #[.int .i64 p, v] wx fun e w' => e = .returned (.bool (callsEnd p zs)) ∧ wx = w') := Lib.hid (fun wx hb => sCallsEnd_any p v zs b wx (h.below hb) (by omega) wp)
  have HH : Hid (∀ wx, Below w.heap.size w wx → Calls Tryd.prog 39 #[v] wx fun e w' => e = .returned (.int .i64 (hik zs zs.length)) ∧ wx = w') := Lib.hid (fun wx hb => by rw [hik_all]; exact sHighBid_any v zs b wx (h.below hb) (by omega))
  have HC : ∀ wx, Below w.heap.size w wx → ∀ j (hj : j < zs.length), ∃ off cap, v = .slice (some ⟨b, off, none⟩) zs.length cap ∧ wx.cell? ⟨b, off + j, none⟩ = some (.int .i64 (zs.getD j 0)) := fun wx hb j hj => by
    rcases (h.below hb).open with ⟨h0, -⟩ | ⟨-, off, cap, hv, -, hc⟩
    · rw [h0] at hj; simp at hj
    · exact ⟨off, cap, hv, by rw [hc j hj]; simp [List.getD, hj]⟩
  obtain ⟨p0, cap0, rfl, -⟩ := id h
  cases hcc : isCallsB p zs with
  | false =>
    rw [hcc] at HI
    have HI := Lib.hid HI
    have Hr : Hid ((if false = true ∧ endk p zs zs.length = true then decl p zs zs.length else -1) = -1) := Lib.hid (if_neg (by simp))
    rw [Hr.out]
    clear h hcc Hr HC
    go_enter Tryd.func25, Tryd.ntmps25
    go_wp2_with fail
    refine HI.out.mono ?_
    rintro e w1 ⟨rfl, B⟩
    go_wp2_with fail
    go_ret
    exact ⟨rfl, B⟩
  | true =>
    rw [hcc] at HI
    obtain ⟨hp, hok⟩ := isCalls_range hcc
    have HI := Lib.hid HI
    rw [callsEnd_all (by omega)] at HE
    have hno := decl_none hok
    have hso := decl_some hok
    obtain ⟨n, hn⟩ : ∃ n, n = zs.length := ⟨_, rfl⟩
    rw [← hn] at HI HE HH HC hno hso hl ⊢
    obtain ⟨d, hd⟩ : ∃ d, d = decl p zs n := ⟨_, rfl⟩
    obtain ⟨g, hg⟩ : ∃ g, g = hik zs n := ⟨_, rfl⟩
    obtain ⟨q, hq⟩ : ∃ q, q = endk p zs n := ⟨_, rfl⟩
    rw [← hq] at HE
    rw [← hg] at HH hno hso
    rw [← hd] at hno hso
    rw [← hd, ← hq]
    clear h hcc hok hd hg hq
    cases q with
    | false =>
      clear HC hno hso hn
      go_enter Tryd.func25, Tryd.ntmps25
      go_wp2_with fail
      refine HI.out.mono ?_
      rintro e w1 ⟨rfl, B⟩
      go_wp2_with fail
      refine (HE.out _ B).mono ?_
      rintro e _w ⟨rfl, rfl⟩
      go_wp2_with fail
      go_ret
      exact ⟨by simp, B⟩
    | true =>
      by_cases hg0 : g = 0
      · have Hd : Hid (d = -1) := Lib.hid (hno hg0)
        subst hg0
        clear HC hno hso hn
        go_enter Tryd.func25, Tryd.ntmps25
        go_wp2_with fail
        refine HI.out.mono ?_
        rintro e w1 ⟨rfl, B⟩
        go_wp2_with fail
        refine (HE.out _ B).mono ?_
        rintro e _w ⟨rfl, rfl⟩
        go_wp2_with fail
        refine (HH.out _ B).mono ?_
        rintro e _w ⟨rfl, rfl⟩
        go_wp2_with fail
        go_ret
        exact ⟨by rw [Hd.out]; simp, B⟩
      · obtain ⟨i, hin, hdi, hgi, hmin⟩ := hso hg0
        have Hd : Hid (d = (i : Int).tmod p) := Lib.hid (by rw [hdi, tmod_pos1 _ _ (by omega)])
        have Hgi := Lib.hid hgi
        have Hmin := Lib.hid hmin
        have HC := Lib.hid HC
        have Hn := Lib.hid hn
        have hgz : (g == 0) = false := by simpa using hg0
        have hpp : ¬ p = 0 := by omega
        clear hno hso hdi hgi hmin hn hg0
        go_enter Tryd.func25, Tryd.ntmps25
        go_wp2_with fail
        refine HI.out.mono ?_
        rintro e w1 ⟨rfl, B⟩
        go_wp2_with fail
        refine (HE.out _ B).mono ?_
        rintro e _w ⟨rfl, rfl⟩
        go_wp2_with fail
        refine (HH.out _ B).mono ?_
        rintro e _w ⟨rfl, rfl⟩
        go_wp2_with fail
        go_loopw [5] (fun t wr => ∃ k : Nat, k ≤ i ∧ t = .int .i64 k ∧ Below w.heap.size w wr) (fun t _ => n - (intOf t).toNat)
        case atStart => exact ⟨0, Nat.zero_le _, rfl, B⟩
        case round =>
          clear B
          obtain ⟨k, hk, rfl, B⟩ := hrel
          obtain ⟨off, cap, hv, hc1⟩ := HC.out wr B k (by have := Hn.out; omega)
          have ha := (Value.slice.inj hv).1
          clear hv
          subst ha
          have hkn : k < n := by omega
          have HQ : Hid (∀ m, Calls Tryd.prog 39 #[.slice (some ⟨b, off, none⟩) n cap0] (wr.drewN m) fun e w' => e = .returned (.int .i64 g) ∧ wr.drewN m = w') := Lib.hid (fun m => HH.out _ (below_drewN B m))
          by_cases hki : k = i
          · subst hki
            rw [Hgi.out] at hc1
            go_wp2_with fail
            go_quiet ((go_at_call 39; exact Calls.quiet_of_same (flip_same (HQ.out _) rfl)))
            go_wp2_with fail
            go_ret
            exact ⟨by rw [Hd.out]; simp [tmod_pos1 (k : Int) p (by omega)], below_drewN B _⟩
          · obtain ⟨y, hy⟩ : ∃ y, y = zs.getD k 0 := ⟨_, rfl⟩
            have hyg : (y == g) = false := by
              have := Hmin.out k (by omega)
              rw [← hy] at this
              simpa using this
            rw [← hy] at hc1
            clear hy
            go_wp2_with fail
            go_quiet ((go_at_call 39; exact Calls.quiet_of_same (flip_same (HQ.out _) rfl)))
            go_wp2_with fail
            go_roundw
            case rel => exact ⟨k + 1, by omega, by go_num, below_drewN B _⟩
            case measure => simp [intOf]; omega

set_option maxRecDepth 100000 in
set_option maxHeartbeats 4000000 in
theorem sLegalCalls_any (p : Int) (v : Value) (zs : List Int) (b : Nat) (w : World) (h : RdAt .i64 w v zs b) (hl : zs.length ≤ 1048576) (wp : (Lit.int .i64 p).wf = true) :
    Calls Tryd.prog 26 #[.int .i64 p, v] w fun e w' => ∃ v' b', e = .returned v' ∧ w.heap.size ≤ b' ∧ WrAt .i64 w' v' (legalI p zs) b' ∧ Below w.heap.size w w' := by
  obtain ⟨i0, hi, hz0, hz1, hz2⟩ := info_parts info_i64
  have hB0 : Below w.heap.size w (w.alloc (.cells #[] 3)) := (Below.refl _ _).alloc (Nat.le_refl _) _
  have hown0 := World.ownsRow_lit (base := w.heap.size) (e := 3) (size := 1) w #[] 0 (Nat.le_refl _) (Nat.zero_le _) rfl
  have HI := sIsCalls_any p v zs b (w.alloc (.cells #[] 3)) (h.below hB0) hl wp
  have HE : Hid (∀ wx, Below w.heap.size w wx → Calls Tryd.prog 40 #[.int .i64 p, v] wx fun e w' => e = .returned (.bool (callsEnd p zs)) ∧ wx = w') := Lib.hid (fun wx hb => sCallsEnd_any p v zs b wx (h.below hb) (by omega) wp)
  have HH : Hid (∀ wx, Below w.heap.size w wx → Calls Tryd.prog 39 #[v] wx fun e w' => e = .returned (.int .i64 (hik zs zs.length)) ∧ wx = w') := Lib.hid (fun wx hb => by rw [hik_all]; exact sHighBid_any v zs b wx (h.below hb) (by omega))
  obtain ⟨p0, cap0, rfl, -⟩ := id h
  cases hc : isCallsB p zs with
  | false =>
    rw [hc] at HI
    have HI := Lib.hid HI
    have Hr : Hid (legalI p zs = []) := Lib.hid (by unfold legalI; rw [if_neg (by rw [hc]; simp)])
    have HB1 := Lib.hid hB0
    clear h hc hown0 hi hz0 hz1 hz2 hB0
    go_enter Tryd.func26, Tryd.ntmps26
    go_wp2_with fail
    refine HI.out.mono ?_
    rintro e w1 ⟨rfl, B1⟩
    have B := HB1.out.trans (B1.mono HB1.out.size)
    go_wp2_with fail
    go_ret
    exact ⟨_, w.heap.size, rfl, Nat.le_refl _, by rw [Hr.out]; exact WrAt.nil _ _ _ _ _ ⟨Nat.zero_le _, fun h => by cases h⟩, B⟩
  | true =>
    rw [hc] at HI
    obtain ⟨hp, hok⟩ := isCalls_range hc
    have HI := Lib.hid HI
    rw [callsEnd_all (by omega)] at HE
    have hg0 := hik_pos zs zs.length (Nat.le_refl _)
    have hg1 := hik_le zs.length (Nat.le_refl _) hok
    obtain ⟨g, hg⟩ : ∃ g, g = hik zs zs.length := ⟨_, rfl⟩
    obtain ⟨q, hq⟩ : ∃ q, q = endk p zs zs.length := ⟨_, rfl⟩
    have Hr0 : Hid (legalI p zs = if q = false then legK g (35 - g).toNat else []) := Lib.hid (by unfold legalI; rw [hc, ← hq, ← hg]; simp)
    rw [← hg] at hg0 hg1 HH
    rw [← hq] at HE
    obtain ⟨n, hn⟩ : ∃ n, n = zs.length := ⟨_, rfl⟩
    rw [← hn] at HI HE HH ⊢
    clear h hc hg hq hn hok
    have B0 := Lib.hid hB0
    have O0 := Lib.hid hown0
    clear hB0 hown0
    go_enter Tryd.func26, Tryd.ntmps26
    go_wp2_with fail
    refine HI.out.mono ?_
    rintro e w1 ⟨rfl, B1⟩
    have B3 := B0.out.trans (B1.mono B0.out.size)
    have hown2 := own_below O0.out B1
    cases q with
    | true =>
      have Hr : Hid (legalI p zs = []) := Lib.hid (by rw [Hr0.out]; rfl)
      clear hown2
      go_wp2_with fail
      refine (HE.out _ B3).mono ?_
      rintro e _w ⟨rfl, rfl⟩
      go_wp2_with fail
      go_ret
      exact ⟨_, w.heap.size, rfl, Nat.le_refl _, by rw [Hr.out]; exact WrAt.nil _ _ _ _ _ ⟨Nat.zero_le _, fun h => by cases h⟩, B3⟩
    | false =>
      have Hr : Hid (legalI p zs = legK g (35 - g).toNat) := Lib.hid (by rw [Hr0.out]; rfl)
      go_wp2_with fail
      refine (HE.out _ B3).mono ?_
      rintro e _w ⟨rfl, rfl⟩
      have hsz2 := B3.size
      go_wp2_with (at_builtin; refine wpList_append_own _ rfl _ _ 24 rfl w.heap.size 3 i0 (.int .i64 0) 1 8 Tryd.underlying24 hi hz0 hz1 hz2 rfl (by decide) _ _ _ rfl (hown2.alloc _) ⟨w1.heap.size, 0, none⟩ 1 1 [.int .i64 0] rfl rfl (cell_one_new _ _ _) (one_cell _ _) ?f3 ?f4 (by simp; omega) ?_)
      case f3 => unfold maxLen; omega
      case f4 => omega
      intro v3 w3 hown3 hgr3 _
      have B4 : Below w.heap.size w w3 := (B3.alloc hsz2 _).grown hgr3 (by simp; omega) (own_block hown2)
      have hown4 : w3.ownsRow w.heap.size 3 1 v3 (0 + 1) ((legK g 0).map (Value.int .i64)) := hown3
      clear hown3 hgr3 hown2 B3
      go_wp2_with fail
      refine (HH.out _ B4).mono ?_
      rintro e _w ⟨rfl, rfl⟩
      go_wp2_with fail
      go_loopw [5, 6] (fun o i wr => ∃ k : Nat, Hid (g + 1 + (k : Int) ≤ 36) ∧ i = .int .i64 (g + 1 + (k : Int)) ∧ Below w.heap.size w wr ∧ wr.ownsRow w.heap.size 3 1 o (k + 1) ((legK g k).map (Value.int .i64))) (fun _ i _ => (36 - intOf i).toNat)
      case atStart => exact ⟨0, Lib.hid (by omega), by simp, B4, hown4⟩
      case round =>
        clear hown4 B4
        obtain ⟨k, hk0, rfl, B, hown⟩ := hrel
        have hk := hk0.out
        have hsz := B.size
        have hk2 : k ≤ 35 := by omega
        by_cases hlt : g + 1 + (k : Int) ≤ 35
        · go_wp2_with (at_builtin; refine wpList_append_own _ rfl _ _ 24 rfl w.heap.size 3 i0 (.int .i64 0) 1 8 Tryd.underlying24 hi hz0 hz1 hz2 rfl (by decide) _ _ _ rfl (hown.alloc _) ⟨wr.heap.size, 0, none⟩ 1 1 [.int .i64 (g + 1 + (k : Int))] rfl rfl (cell_one_new _ _ _) (one_cell _ _) ?g3 ?g4 (by simp; omega) ?_)
          case g3 => unfold maxLen; omega
          case g4 => omega
          intro v5 w5 hown5 hgr5 _
          have B5 : Below w.heap.size w w5 := (B.alloc hsz _).grown hgr5 (by simp; omega) (own_block hown)
          have hown6 : w5.ownsRow w.heap.size 3 1 v5 (k + 1 + 1) ((legK g (k + 1)).map (Value.int .i64)) := by
            rw [legK_succ, List.map_append]; exact hown5
          clear hown5 hgr5 hown B
          go_wp2_with fail
          go_roundw
          case rel => exact ⟨k + 1, Lib.hid (by omega), by simp; omega, B5, hown6⟩
          case measure => simp [intOf]; omega
        · have hke : Hid ((35 - g).toNat = k) := Lib.hid (by omega)
          have hwr := Lib.hid (own_wr (zs := legK g k) (by rw [legK_len]; exact hown) (legK_wf g k ⟨hg0, hg1⟩ (by omega)))
          clear hown
          go_wp2_with fail
          go_ret
          obtain ⟨b', hb', hw'⟩ := hwr.out
          exact ⟨_, rfl, b', hb', by rw [Hr.out, hke.out]; exact hw', B⟩
end Go.Proofs.YtfajdbfpacmclaaDoor
