/-
  Cut by contract, both sides.
-/
import Derived.Test.YtjigglnepcabmaaCatI
import Derived.Test.YtjigglnepcabmaaIn
import Derived.Test.YtjigglnepcabmaaSort
import Derived.Deep.RegionLaw
import Derived.Deep.RegionHeld3
namespace Go.Proofs.Ytjigglnepcabmaa
open Go.RowKit

/-- append of any values to what the call owns, as one step of a region that draws its order. -/
theorem step_append_vals {P : Program} {ops : Array Oper} {o : Oper} {a : Act} {w : World} {K : Act → World → Prop} {Q : Exit → Act → World → Prop} {E : Prop}
    (hg : o.guard = none) (s x : Operand) (t : TypeId) (hop : o.op = Op.call { callee := Callee.builtin Builtin.append, args := #[s, x], argTypes := #[t, t] })
    (base : Nat) (e : TypeId) (i : TypeInfo) (z : Value) (bytes : Nat) (h1 : P.underlying t = some (.slice e)) (h2 : P.info? e = some i) (h3 : i.zero = some z) (h4 : i.size = 1) (h5 : i.bytes = bytes) (h6 : z.cells.size = 1)
    (v : Value) (n : Nat) (xs : List Value) (hs : a.eval s = v) (hown : w.ownsRow base e 1 v n xs) (vx : Value) (us : List Value) (hx : a.eval x = vx) (hv : RdVals w vx us) (one : ∀ u ∈ us, u.oneCell' = true)
    (b1 : n + us.length ≤ maxLen) (b2 : (n + us.length) * bytes ≤ 140737488355328) (hbase : base ≤ w.heap.size)
    (hK : ∀ v' w', w'.ownsRow base e 1 v' (n + us.length) (xs ++ us) → w.grownBy w' v.ownBlock → K (a.put o.dst v') w') :
    if Region.wanted o (yielded ops a.tmps) = true then Oper.wp P o a w K Q else E := by
  have hw : Region.wanted o (yielded ops a.tmps) = true := by simp [Region.wanted, hg]
  rw [if_pos hw]
  obtain ⟨v', w', hrun, r1, r2⟩ := run_append_vals (P := P) w base t o.type e i z bytes h1 h2 h3 h4 h5 h6 v n xs hown vx us hv one b1 b2 hbase
  unfold Oper.wp
  simp [execOp, hop, resolve, invoke, builtin, hs, hx, hrun, Result.andThen]
  exact hK v' w' r1 r2

theorem two_c0 (w : World) (a b : Value) (t : TypeId) : (w.drew.alloc (.cells #[a, b] t)).cell? ⟨w.heap.size, 0, none⟩ = some a := by
  have h : (w.drew.alloc (.cells #[a, b] t)).heap[w.heap.size]? = some (.cells #[a, b] t (0, 0)) := heap_alloc_new w.drew _
  simp only [World.cell?, h]; rfl
theorem two_c1 (w : World) (a b : Value) (t : TypeId) : (w.drew.alloc (.cells #[a, b] t)).cell? ⟨w.heap.size, 0 + 1, none⟩ = some b := by
  have h : (w.drew.alloc (.cells #[a, b] t)).heap[w.heap.size]? = some (.cells #[a, b] t (0, 0)) := heap_alloc_new w.drew _
  simp only [World.cell?, h]; rfl
theorem own_baseC {w : World} {B B' : Nat} {E : TypeId} {n : Nat} {v : Value} {xs : List Value} (h : w.ownsRow B E 1 v n xs) (hb : B' ≤ B) : w.ownsRow B' E 1 v n xs := by
  refine ⟨h.1, ?_⟩
  rcases h.2 with h2 | ⟨g, cap, cur, h2, h3, h4⟩
  · exact .inl h2
  · exact .inr ⟨g, cap, cur, h2, Nat.le_trans hb h3, h4⟩
theorem vals_none (w : World) : RdVals w (.slice none 0 0) [] := ⟨none, 0, rfl, ⟨Nat.le_refl _, Nat.zero_le _, fun _ => rfl⟩, .inl rfl⟩
theorem vals_empty (w : World) (a : Addr) (c : Nat) (h : c ≤ maxLen) : RdVals w (.slice (some a) 0 c) [] := ⟨some a, c, rfl, ⟨Nat.zero_le _, h, fun h => by cases h⟩, .inl rfl⟩
theorem vals_drop {w : World} {b off cap : Nat} {zs : List Int} (hcap : zs.length ≤ cap ∧ cap ≤ maxLen) (h : Cells .i64 w b off zs) (k : Nat) (hk : k ≤ zs.length) : RdVals w (.slice (some ⟨b, off + k, none⟩) (zs.length - k) (cap - k)) ((zs.drop k).map (.int .i64)) := by
  refine ⟨some ⟨b, off + k, none⟩, cap - k, by simp, ⟨by simp; omega, by omega, fun h => by cases h⟩, .inr ⟨b, off + k, rfl, fun j hj => ?_⟩⟩
  simp only [List.length_map, List.length_drop] at hj
  have := h (k + j) (by omega)
  rw [show off + k + j = off + (k + j) by omega, this]
  simp
theorem vals_take {w : World} {b off cap : Nat} {zs : List Int} (hcap : zs.length ≤ cap ∧ cap ≤ maxLen) (h : Cells .i64 w b off zs) (k : Nat) (hk : k ≤ zs.length) : RdVals w (.slice (some ⟨b, off, none⟩) k cap) ((zs.take k).map (.int .i64)) := by
  refine ⟨_, _, by simp; omega, ⟨by simp; omega, hcap.2, fun h => by cases h⟩, .inr ⟨b, off, rfl, fun j hj => ?_⟩⟩
  simp only [List.length_map, List.length_take] at hj
  have := h j (by omega)
  rw [this]
  simp

/-- From the place on, and then those before it. -/
def cutI (zs : List Int) (at_ : Int) : List Int := if 0 ≤ at_ ∧ at_ ≤ zs.length then zs.drop at_.toNat ++ zs.take at_.toNat else zs
theorem cutI_len (zs : List Int) (c : Int) : (cutI zs c).length = zs.length := by
  unfold cutI; split
  · rw [List.length_append, List.length_drop, List.length_take]; omega
  · rfl
theorem cutI_wf {zs : List Int} {c : Int} (h : ∀ x ∈ zs, (Lit.int .i64 x).wf = true) : ∀ x ∈ cutI zs c, (Lit.int .i64 x).wf = true := by
  unfold cutI; split
  · intro x hx
    rcases List.mem_append.1 hx with hx | hx
    · exact h x (List.mem_of_mem_drop hx)
    · exact h x (List.mem_of_mem_take hx)
  · exact h
theorem cutI_at {zs : List Int} {k : Nat} (hk : k ≤ zs.length) : cutI zs k = zs.drop k ++ zs.take k := by
  unfold cutI; rw [if_pos (by omega)]; rfl

set_option linter.unusedVariables false in
set_option maxRecDepth 100000 in
set_option maxHeartbeats 1000000 in
theorem cut_any (v : Value) (zs : List Int) (b : Nat) (c : Int) (w : World) (h : RdAt .i64 w v zs b) (hl : zs.length ≤ 1048576) (wc : (Lit.int .i64 c).wf = true) :
    Calls Try.prog 39 #[v, .int .i64 c] w fun e w' => ∃ v' b', e = .returned v' ∧ w.heap.size ≤ b' ∧ WrAt .i64 w' v' (cutI zs c) b' ∧ Below w.heap.size w w' := by
  obtain ⟨i0, hi, hz0, hz1, hz2⟩ := info_parts info_i64
  have Hwf := Lib.hid (cutI_wf (c := c) h.wf)
  have bc := bounds_i64 wc
  by_cases hr : 0 ≤ c ∧ c ≤ (zs.length : Int)
  · obtain ⟨hr0, hr1⟩ := hr
    obtain ⟨k, rfl⟩ := Int.eq_ofNat_of_zero_le hr0
    have hk : k ≤ zs.length := by omega
    have HI := Lib.hid (fun wx => inR_any k 0 (zs.length : Int) wx true (by simp; omega))
    have Hcut := Lib.hid (cutI_at hk)
    obtain ⟨n, hn⟩ : ∃ n, n = zs.length := ⟨_, rfl⟩
    have Hn := Lib.hid hn
    rcases h.open with ⟨rfl, a, cap, rfl, hcap, hnil⟩ | ⟨hne, off, cap, rfl, hcap, hcell⟩
    · obtain rfl : k = 0 := by simpa using hk
      cases a with
      | none =>
        obtain rfl : cap = 0 := hnil rfl
        have HCat := Lib.hid (catI_any (.slice none 0 0) (.slice none 0 0) (([] : List Value)) (([] : List Value)) w.heap.size 0 2 (w.drew.alloc (.cells #[.slice none 0 0, .slice none 0 0] 35)) (vals_none _) (vals_none _) (two_c0 _ _ _ _) (two_c1 _ _ _ _) (Nat.le_refl _) (by simp) (by simp) (by simp) (by simp))
        have HB0 : Hid (Below w.heap.size w w.drew) := Lib.hid (Below.refl _ _).drew
        go_enter Try.func39, Try.ntmps39
        go_wp2_with fail
        refine (HI.out _).mono ?_
        rintro e _w ⟨rfl, rfl⟩
        go_wp2_with fail
        go_region_held3 (fun _ => True) (trivial) (first
          | (go_at_call 84; refine HCat.out.mono ?_; rintro e w4 ⟨v4, rfl, hown4, B4⟩))
        all_goals
          have hB4 := (HB0.out.alloc HB0.out.size _).trans (B4.mono (by simp))
          have hown5 : w4.ownsRow w.heap.size 3 1 v4 (cutI [] ((0 : Nat) : Int)).length ((cutI [] ((0 : Nat) : Int)).map (.int .i64)) := by
            rw [Hcut.out, List.length_append, List.map_append]
            have := own_baseC (B' := w.heap.size) hown4 (by simp)
            simpa using this
          obtain ⟨b', hb', hw'⟩ := own_wr hown5 Hwf.out
          clear hown4 hown5 B4
          go_wp2_with fail
          go_ret
          exact ⟨_, b', rfl, hb', hw', hB4⟩
      | some a =>
        have hcap2 : cap ≤ 9223372036854775807 := by unfold maxLen at hcap; omega
        have HC0 := Lib.hid hcap
        by_cases hc0 : cap = 0
        · subst hc0
          have HCat := Lib.hid (catI_any (.slice (some a) 0 0) (.slice (some a) 0 0) (([] : List Value)) (([] : List Value)) w.heap.size 0 2 (w.drew.alloc (.cells #[.slice (some a) 0 0, .slice (some a) 0 0] 35)) (vals_empty _ _ _ HC0.out) (vals_empty _ _ _ HC0.out) (two_c0 _ _ _ _) (two_c1 _ _ _ _) (Nat.le_refl _) (by simp) (by simp) (by simp) (by simp))
          have HB0 : Hid (Below w.heap.size w w.drew) := Lib.hid (Below.refl _ _).drew
          go_enter Try.func39, Try.ntmps39
          go_wp2_with fail
          refine (HI.out _).mono ?_
          rintro e _w ⟨rfl, rfl⟩
          go_wp2_with fail
          go_region_held3 (fun _ => True) (trivial) (first
            | (go_at_call 84; refine HCat.out.mono ?_; rintro e w4 ⟨v4, rfl, hown4, B4⟩))
          all_goals
            have hB4 := (HB0.out.alloc HB0.out.size _).trans (B4.mono (by simp))
            have hown5 : w4.ownsRow w.heap.size 3 1 v4 (cutI [] ((0 : Nat) : Int)).length ((cutI [] ((0 : Nat) : Int)).map (.int .i64)) := by
              rw [Hcut.out, List.length_append, List.map_append]
              have := own_baseC (B' := w.heap.size) hown4 (by simp)
              simpa using this
            obtain ⟨b', hb', hw'⟩ := own_wr hown5 Hwf.out
            clear hown4 hown5 B4
            go_wp2_with fail
            go_ret
            exact ⟨_, b', rfl, hb', hw', hB4⟩
        · have HCat := Lib.hid (catI_any (.slice (some (a.add 0)) 0 cap) (.slice (some a) 0 cap) (([] : List Value)) (([] : List Value)) w.heap.size 0 2 (w.drew.alloc (.cells #[.slice (some (a.add 0)) 0 cap, .slice (some a) 0 cap] 35)) (vals_empty _ _ _ HC0.out) (vals_empty _ _ _ HC0.out) (two_c0 _ _ _ _) (two_c1 _ _ _ _) (Nat.le_refl _) (by simp) (by simp) (by simp) (by simp))
          have HB0 : Hid (Below w.heap.size w w.drew) := Lib.hid (Below.refl _ _).drew
          go_enter Try.func39, Try.ntmps39
          go_wp2_with fail
          refine (HI.out _).mono ?_
          rintro e _w ⟨rfl, rfl⟩
          go_wp2_with fail
          go_region_held3 (fun _ => True) (trivial) (first
            | (go_at_call 84; refine HCat.out.mono ?_; rintro e w4 ⟨v4, rfl, hown4, B4⟩))
          all_goals
            have hB4 := (HB0.out.alloc HB0.out.size _).trans (B4.mono (by simp))
            have hown5 : w4.ownsRow w.heap.size 3 1 v4 (cutI [] ((0 : Nat) : Int)).length ((cutI [] ((0 : Nat) : Int)).map (.int .i64)) := by
              rw [Hcut.out, List.length_append, List.map_append]
              have := own_baseC (B' := w.heap.size) hown4 (by simp)
              simpa using this
            obtain ⟨b', hb', hw'⟩ := own_wr hown5 Hwf.out
            clear hown4 hown5 B4
            go_wp2_with fail
            go_ret
            exact ⟨_, b', rfl, hb', hw', hB4⟩
    · have HC := Lib.hid (fun wx (hb : Below w.heap.size w wx) => h.below hb)
      have hcap2 : cap ≤ 9223372036854775807 := by have := hcap.2; unfold maxLen at this; omega
      have hnc : n ≤ cap := by omega
      have hkn : k ≤ n := by omega
      have hkc : k ≤ cap := by omega
      have Hcell := Lib.hid hcell
      have HCap := Lib.hid hcap
      rw [← hn] at HI hl ⊢
      by_cases hc0 : cap - k = 0
      · obtain rfl : k = n := by omega
        obtain rfl : cap = k := by omega
        have hdz : zs.drop cap = [] := List.drop_eq_nil_of_le (by have := Hn.out; omega)
        have HCat := Lib.hid (catI_any (.slice (some ⟨b, off, none⟩) 0 0) (.slice (some ⟨b, off, none⟩) cap cap) ((zs.drop cap).map (Value.int .i64)) ((zs.take cap).map (Value.int .i64)) w.heap.size 0 2 (w.drew.alloc (.cells #[.slice (some ⟨b, off, none⟩) 0 0, .slice (some ⟨b, off, none⟩) cap cap] 35)) ((by rw [hdz]; exact vals_empty _ _ _ (Nat.zero_le _))) (vals_take HCap.out (show Cells .i64 _ b off zs by rcases (HC.out _ ((Below.refl w.heap.size w).drew.alloc (Nat.le_refl _) _)).open with ⟨h0, -⟩ | ⟨-, off2, cap2, hv, -, hc2⟩; exact absurd h0 hne; injection hv with e1; injection e1 with e1; injection e1 with e2 e3; subst e3; exact hc2) cap (by have := Hn.out; omega)) (two_c0 _ _ _ _) (two_c1 _ _ _ _) (Nat.le_refl _) (by simp; have := Hn.out; omega) (by simp; have := Hn.out; omega) int_one int_one)
        have HB0 : Hid (Below w.heap.size w w.drew) := Lib.hid (Below.refl _ _).drew
        clear hcell hcap hn h hdz
        go_enter Try.func39, Try.ntmps39
        go_wp2_with fail
        refine (HI.out _).mono ?_
        rintro e _w ⟨rfl, rfl⟩
        go_wp2_with fail
        go_region_held3 (fun _ => True) (trivial) (first
          | (go_at_call 84; refine HCat.out.mono ?_; rintro e w4 ⟨v4, rfl, hown4, B4⟩))
        all_goals
          have hB4 := (HB0.out.alloc HB0.out.size _).trans (B4.mono (by simp))
          have hown5 : w4.ownsRow w.heap.size 3 1 v4 (cutI zs (cap : Int)).length ((cutI zs (cap : Int)).map (.int .i64)) := by
            rw [Hcut.out, List.length_append, List.map_append]
            have := own_baseC (B' := w.heap.size) hown4 (by simp)
            simpa using this
          obtain ⟨b', hb', hw'⟩ := own_wr hown5 Hwf.out
          clear hown4 hown5 B4
          go_wp2_with fail
          go_ret
          exact ⟨_, b', rfl, hb', hw', hB4⟩
      · have HCat := Lib.hid (catI_any (.slice (some ⟨b, off + k, none⟩) (n - k) (cap - k)) (.slice (some ⟨b, off, none⟩) k cap) ((zs.drop k).map (Value.int .i64)) ((zs.take k).map (Value.int .i64)) w.heap.size 0 2 (w.drew.alloc (.cells #[.slice (some ⟨b, off + k, none⟩) (n - k) (cap - k), .slice (some ⟨b, off, none⟩) k cap] 35)) ((by rw [Hn.out]; exact vals_drop HCap.out (show Cells .i64 _ b off zs by rcases (HC.out _ ((Below.refl w.heap.size w).drew.alloc (Nat.le_refl _) _)).open with ⟨h0, -⟩ | ⟨-, off2, cap2, hv, -, hc2⟩; exact absurd h0 hne; injection hv with e1; injection e1 with e1; injection e1 with e2 e3; subst e3; exact hc2) k (by have := Hn.out; omega))) (vals_take HCap.out (show Cells .i64 _ b off zs by rcases (HC.out _ ((Below.refl w.heap.size w).drew.alloc (Nat.le_refl _) _)).open with ⟨h0, -⟩ | ⟨-, off2, cap2, hv, -, hc2⟩; exact absurd h0 hne; injection hv with e1; injection e1 with e1; injection e1 with e2 e3; subst e3; exact hc2) k (by have := Hn.out; omega)) (two_c0 _ _ _ _) (two_c1 _ _ _ _) (Nat.le_refl _) (by simp; have := Hn.out; omega) (by simp; have := Hn.out; omega) int_one int_one)
        have HB0 : Hid (Below w.heap.size w w.drew) := Lib.hid (Below.refl _ _).drew
        have g1 : (0 : Int) ≤ (k : Int) := by omega
        have g2 : (k : Int) ≤ (n : Int) := by omega
        have g3 : (n : Int) ≤ (cap : Int) := by omega
        have g4 : (k : Int) ≤ (cap : Int) := by omega
        have hck : ¬ cap = k := by omega
        clear hcell hcap hn h
        go_enter Try.func39, Try.ntmps39
        go_wp2_with fail
        refine (HI.out _).mono ?_
        rintro e _w ⟨rfl, rfl⟩
        go_wp2_with fail
        go_region_held3 (fun _ => True) (trivial) (first
          | (go_at_call 84; refine HCat.out.mono ?_; rintro e w4 ⟨v4, rfl, hown4, B4⟩))
        all_goals
          have hB4 := (HB0.out.alloc HB0.out.size _).trans (B4.mono (by simp))
          have hown5 : w4.ownsRow w.heap.size 3 1 v4 (cutI zs (k : Int)).length ((cutI zs (k : Int)).map (.int .i64)) := by
            rw [Hcut.out, List.length_append, List.map_append]
            have := own_baseC (B' := w.heap.size) hown4 (by simp)
            simpa using this
          obtain ⟨b', hb', hw'⟩ := own_wr hown5 Hwf.out
          clear hown4 hown5 B4
          go_wp2_with fail
          go_ret
          exact ⟨_, b', rfl, hb', hw', hB4⟩
  · have HI := Lib.hid (fun wx => inR_any c 0 (zs.length : Int) wx false (by simp; omega))
    have hcI : cutI zs c = zs := if_neg hr
    rw [hcI] at Hwf ⊢
    have HK := Lib.hid (copyInts_own v zs b w h (by omega))
    obtain ⟨a, cap, rfl, -⟩ := id h
    clear hr hcI h
    go_enter Try.func39, Try.ntmps39
    go_wp2_with fail
    refine (HI.out _).mono ?_
    rintro e _w ⟨rfl, rfl⟩
    go_wp2_with fail
    refine HK.out.mono ?_
    rintro e w2 ⟨v2, rfl, hown, B⟩
    obtain ⟨b', hb', hw'⟩ := own_wr hown Hwf.out
    clear hown
    go_wp2_with fail
    go_ret
    exact ⟨_, b', rfl, hb', hw', B⟩

set_option linter.unusedVariables false in
set_option maxRecDepth 100000 in
set_option maxHeartbeats 1000000 in
theorem sCut_any (v : Value) (zs : List Int) (b : Nat) (c : Int) (w : World) (h : RdAt .i64 w v zs b) (hl : zs.length ≤ 1048576) (wc : (Lit.int .i64 c).wf = true) :
    Calls Try.prog 37 #[v, .int .i64 c] w fun e w' => ∃ v' b', e = .returned v' ∧ w.heap.size ≤ b' ∧ WrAt .i64 w' v' (cutI zs c) b' ∧ Below w.heap.size w w' := by
  obtain ⟨i0, hi, hz0, hz1, hz2⟩ := info_parts info_i64
  have Hwf := Lib.hid (cutI_wf (c := c) h.wf)
  have bc := bounds_i64 wc
  by_cases hr : 0 ≤ c ∧ c ≤ (zs.length : Int)
  · obtain ⟨hr0, hr1⟩ := hr
    obtain ⟨k, rfl⟩ := Int.eq_ofNat_of_zero_le hr0
    have hk : k ≤ zs.length := by omega
    have HI := Lib.hid (fun wx => inM_any k 0 (zs.length : Int) wx true (by simp; omega))
    have Hcut := Lib.hid (cutI_at hk)
    obtain ⟨n, hn⟩ : ∃ n, n = zs.length := ⟨_, rfl⟩
    have Hn := Lib.hid hn
    rcases h.open with ⟨rfl, a, cap, rfl, hcap, hnil⟩ | ⟨hne, off, cap, rfl, hcap, hcell⟩
    · obtain rfl : k = 0 := by simpa using hk
      cases a with
      | none =>
        obtain rfl : cap = 0 := hnil rfl
        have B1 : Hid (Below w.heap.size w (w.drew.alloc (.cells #[] 3))) := Lib.hid ((Below.refl _ _).drew.alloc (Nat.le_refl _) _)
        go_enter Try.func37, Try.ntmps37
        go_wp2_with fail
        refine (HI.out _).mono ?_
        rintro e _w ⟨rfl, rfl⟩
        go_wp2_with fail
        go_region_law (fail)
        all_goals
          go_wp2_with fail
          go_ret
          exact ⟨_, w.heap.size, rfl, Nat.le_refl _, by rw [show cutI [] ((0 : Nat) : Int) = [] from Hcut.out]; exact WrAt.nil _ _ _ _ _ ⟨by unfold maxLen; omega, fun h => by cases h⟩, B1.out⟩
      | some a =>
        have hcap2 : cap ≤ 9223372036854775807 := by unfold maxLen at hcap; omega
        have HC0 := Lib.hid hcap
        by_cases hc0 : cap = 0
        · subst hc0
          have B1 : Hid (Below w.heap.size w (w.drew.alloc (.cells #[] 3))) := Lib.hid ((Below.refl _ _).drew.alloc (Nat.le_refl _) _)
          go_enter Try.func37, Try.ntmps37
          go_wp2_with fail
          refine (HI.out _).mono ?_
          rintro e _w ⟨rfl, rfl⟩
          go_wp2_with fail
          go_region_law (fail)
          all_goals
            go_wp2_with fail
            go_ret
            exact ⟨_, w.heap.size, rfl, Nat.le_refl _, by rw [show cutI [] ((0 : Nat) : Int) = [] from Hcut.out]; exact WrAt.nil _ _ _ _ _ ⟨by unfold maxLen; omega, fun h => by cases h⟩, B1.out⟩
        · have B1 : Hid (Below w.heap.size w (w.drew.alloc (.cells #[] 3))) := Lib.hid ((Below.refl _ _).drew.alloc (Nat.le_refl _) _)
          go_enter Try.func37, Try.ntmps37
          go_wp2_with fail
          refine (HI.out _).mono ?_
          rintro e _w ⟨rfl, rfl⟩
          go_wp2_with fail
          go_region_law (fail)
          all_goals
            go_wp2_with fail
            go_ret
            exact ⟨_, w.heap.size, rfl, Nat.le_refl _, by rw [show cutI [] ((0 : Nat) : Int) = [] from Hcut.out]; exact WrAt.nil _ _ _ _ _ ⟨by unfold maxLen; omega, fun h => by cases h⟩, B1.out⟩
    · have HC := Lib.hid (fun wx (hb : Below w.heap.size w wx) => h.below hb)
      have hcap2 : cap ≤ 9223372036854775807 := by have := hcap.2; unfold maxLen at this; omega
      have hnc : n ≤ cap := by omega
      have hkn : k ≤ n := by omega
      have hkc : k ≤ cap := by omega
      have Hcell := Lib.hid hcell
      have HCap := Lib.hid hcap
      rw [← hn] at HI hl ⊢
      by_cases hc0 : cap - k = 0
      · obtain rfl : k = n := by omega
        obtain rfl : cap = k := by omega
        have hdz : zs.drop cap = [] := List.drop_eq_nil_of_le (by have := Hn.out; omega)
        have O1 : Hid ((w.drew.alloc (.cells #[] 3)).ownsRow w.heap.size 3 1 (.slice (some ⟨w.heap.size, 0, none⟩) 0 0) 0 []) := Lib.hid ((World.ownsRow_lit (base := w.heap.size) (e := 3) (size := 1) w.drew #[] 0 (Nat.le_refl _) (Nat.zero_le _) rfl))
        have B1 : Hid (Below w.heap.size w (w.drew.alloc (.cells #[] 3))) := Lib.hid ((Below.refl _ _).drew.alloc (Nat.le_refl _) _)
        have HA : Hid (RdVals (w.drew.alloc (.cells #[] 3)) (.slice (some ⟨b, off, none⟩) 0 0) ((zs.drop cap).map (Value.int .i64))) := Lib.hid ((by rw [hdz]; exact vals_empty _ _ _ (Nat.zero_le _)))
        have HBv : Hid (∀ wx, Below w.heap.size w wx → RdVals wx (.slice (some ⟨b, off, none⟩) cap cap) ((zs.take cap).map (Value.int .i64))) := Lib.hid (fun wx hb => vals_take HCap.out (show Cells .i64 _ b off zs by rcases (HC.out _ hb).open with ⟨h0, -⟩ | ⟨-, off2, cap2, hv, -, hc2⟩; exact absurd h0 hne; injection hv with e1; injection e1 with e1; injection e1 with e2 e3; subst e3; exact hc2) cap (by have := Hn.out; omega))
        have la : ((zs.drop cap).map (Value.int .i64)).length ≤ 1048576 := (by simp; have := Hn.out; omega)
        have lb : ((zs.take cap).map (Value.int .i64)).length ≤ 1048576 := (by simp; have := Hn.out; omega)
        have e1 : 0 + ((zs.drop cap).map (Value.int .i64)).length ≤ maxLen := by unfold maxLen; omega
        have e2 : (0 + ((zs.drop cap).map (Value.int .i64)).length) * 8 ≤ 140737488355328 := by omega
        have e3 : 0 + ((zs.drop cap).map (Value.int .i64)).length + ((zs.take cap).map (Value.int .i64)).length ≤ maxLen := by unfold maxLen; omega
        have e4 : (0 + ((zs.drop cap).map (Value.int .i64)).length + ((zs.take cap).map (Value.int .i64)).length) * 8 ≤ 140737488355328 := by omega
        have E := Lib.hid (And.intro e1 (And.intro e2 (And.intro e3 e4)))
        clear e1 e2 e3 e4 la lb
        clear hcell hcap hn h hdz
        go_enter Try.func37, Try.ntmps37
        go_wp2_with fail
        refine (HI.out _).mono ?_
        rintro e _w ⟨rfl, rfl⟩
        go_wp2_with fail
        go_region_law (first
          | (refine step_append_vals rfl (.tmp 17) (.tmp 20) 35 rfl w.heap.size 3 i0 (.int .i64 0) 8 Try.underlying35 hi hz0 hz1 hz2 rfl (.slice (some ⟨w.heap.size, 0, none⟩) 0 0) 0 [] rfl O1.out _ ((zs.take cap).map (Value.int .i64)) rfl (HBv.out _ B1.out) int_one (by have := E.out.2.2.1; omega) (by have := E.out.2.2.2; omega) B1.out.size ?_; intro v21 w21 hown21 hgr21; have hB21 := B1.out.grown hgr21 B1.out.size (own_block O1.out)))
        all_goals
          have hown5 : w21.ownsRow w.heap.size 3 1 v21 (cutI zs (cap : Int)).length ((cutI zs (cap : Int)).map (.int .i64)) := by
            rw [Hcut.out, List.length_append, List.map_append]
            have hl : (zs.drop cap).length = 0 := by rw [List.length_drop]; have := Hn.out; omega
            rw [hl, List.length_eq_zero_iff.1 hl]
            simpa using hown21
          obtain ⟨b', hb', hw'⟩ := own_wr hown5 Hwf.out
          clear hown21 hown5 hgr21
          go_wp2_with fail
          go_ret
          exact ⟨_, b', rfl, hb', hw', hB21⟩
      · have O1 : Hid ((w.drew.alloc (.cells #[] 3)).ownsRow w.heap.size 3 1 (.slice (some ⟨w.heap.size, 0, none⟩) 0 0) 0 []) := Lib.hid ((World.ownsRow_lit (base := w.heap.size) (e := 3) (size := 1) w.drew #[] 0 (Nat.le_refl _) (Nat.zero_le _) rfl))
        have B1 : Hid (Below w.heap.size w (w.drew.alloc (.cells #[] 3))) := Lib.hid ((Below.refl _ _).drew.alloc (Nat.le_refl _) _)
        have HA : Hid (RdVals (w.drew.alloc (.cells #[] 3)) (.slice (some ⟨b, off + k, none⟩) (n - k) (cap - k)) ((zs.drop k).map (Value.int .i64))) := Lib.hid ((by rw [Hn.out]; exact vals_drop HCap.out (show Cells .i64 _ b off zs by rcases (HC.out _ ((Below.refl w.heap.size w).drew.alloc (Nat.le_refl _) _)).open with ⟨h0, -⟩ | ⟨-, off2, cap2, hv, -, hc2⟩; exact absurd h0 hne; injection hv with e1; injection e1 with e1; injection e1 with e2 e3; subst e3; exact hc2) k (by have := Hn.out; omega)))
        have HBv : Hid (∀ wx, Below w.heap.size w wx → RdVals wx (.slice (some ⟨b, off, none⟩) k cap) ((zs.take k).map (Value.int .i64))) := Lib.hid (fun wx hb => vals_take HCap.out (show Cells .i64 _ b off zs by rcases (HC.out _ hb).open with ⟨h0, -⟩ | ⟨-, off2, cap2, hv, -, hc2⟩; exact absurd h0 hne; injection hv with e1; injection e1 with e1; injection e1 with e2 e3; subst e3; exact hc2) k (by have := Hn.out; omega))
        have la : ((zs.drop k).map (Value.int .i64)).length ≤ 1048576 := (by simp; have := Hn.out; omega)
        have lb : ((zs.take k).map (Value.int .i64)).length ≤ 1048576 := (by simp; have := Hn.out; omega)
        have e1 : 0 + ((zs.drop k).map (Value.int .i64)).length ≤ maxLen := by unfold maxLen; omega
        have e2 : (0 + ((zs.drop k).map (Value.int .i64)).length) * 8 ≤ 140737488355328 := by omega
        have e3 : 0 + ((zs.drop k).map (Value.int .i64)).length + ((zs.take k).map (Value.int .i64)).length ≤ maxLen := by unfold maxLen; omega
        have e4 : (0 + ((zs.drop k).map (Value.int .i64)).length + ((zs.take k).map (Value.int .i64)).length) * 8 ≤ 140737488355328 := by omega
        have E := Lib.hid (And.intro e1 (And.intro e2 (And.intro e3 e4)))
        clear e1 e2 e3 e4 la lb
        have g1 : (0 : Int) ≤ (k : Int) := by omega
        have g2 : (k : Int) ≤ (n : Int) := by omega
        have g3 : (n : Int) ≤ (cap : Int) := by omega
        have g4 : (k : Int) ≤ (cap : Int) := by omega
        have hck : ¬ cap = k := by omega
        clear hcell hcap hn h
        go_enter Try.func37, Try.ntmps37
        go_wp2_with fail
        refine (HI.out _).mono ?_
        rintro e _w ⟨rfl, rfl⟩
        go_wp2_with fail
        go_region_law (first
          | (refine step_append_vals rfl (.tmp 13) (.tmp 16) 35 rfl w.heap.size 3 i0 (.int .i64 0) 8 Try.underlying35 hi hz0 hz1 hz2 rfl (.slice (some ⟨w.heap.size, 0, none⟩) 0 0) 0 [] rfl O1.out _ ((zs.drop k).map (Value.int .i64)) rfl HA.out int_one E.out.1 E.out.2.1 B1.out.size ?_; intro v17 w17 hown17 hgr17; have hB17 := B1.out.grown hgr17 B1.out.size (own_block O1.out))
          | (refine step_append_vals rfl (.tmp 17) (.tmp 20) 35 rfl w.heap.size 3 i0 (.int .i64 0) 8 Try.underlying35 hi hz0 hz1 hz2 rfl v17 _ _ rfl hown17 _ ((zs.take k).map (Value.int .i64)) rfl (HBv.out _ hB17) int_one E.out.2.2.1 E.out.2.2.2 hB17.size ?_; intro v21 w21 hown21 hgr21; have hB21 := hB17.grown hgr21 hB17.size (own_block hown17)))
        all_goals
          have hown5 : w21.ownsRow w.heap.size 3 1 v21 (cutI zs (k : Int)).length ((cutI zs (k : Int)).map (.int .i64)) := by
            rw [Hcut.out, List.length_append, List.map_append]
            simpa using hown21
          obtain ⟨b', hb', hw'⟩ := own_wr hown5 Hwf.out
          clear hown21 hown17 hown5 hgr17 hgr21 hB17
          go_wp2_with fail
          go_ret
          exact ⟨_, b', rfl, hb', hw', hB21⟩
  · have HI := Lib.hid (fun wx => inM_any c 0 (zs.length : Int) wx false (by simp; omega))
    have hcI : cutI zs c = zs := if_neg hr
    rw [hcI] at Hwf ⊢
    have hown0 := World.ownsRow_lit (base := w.heap.size) (e := 3) (size := 1) w #[] 0 (Nat.le_refl _) (Nat.zero_le _) rfl
    have B0 := (Below.refl w.heap.size w).alloc (Nat.le_refl _) (.cells #[] 3)
    obtain ⟨v2, w2, hr2, hown2, hgr2⟩ := run_append_vals (w.alloc (.cells #[] 3)) w.heap.size 35 35 3 i0 (.int .i64 0) 8 Try.underlying35 hi hz0 hz1 hz2 rfl _ 0 [] hown0 v (zs.map (.int .i64)) (h.below B0).vals int_one (by simp; unfold maxLen; omega) (by simp; omega) B0.size
    have B := B0.grown hgr2 B0.size (own_block hown0)
    rw [Nat.zero_add, List.length_map, List.nil_append] at hown2
    obtain ⟨b', hb', hw'⟩ := own_wr hown2 Hwf.out
    obtain ⟨a, cap, rfl, -⟩ := id h
    have HR := Lib.hid hr2
    clear hr hcI h hr2 hown2 hown0 hgr2 B0
    go_enter Try.func37, Try.ntmps37
    go_wp2_with fail
    refine (HI.out _).mono ?_
    rintro e _w ⟨rfl, rfl⟩
    go_wp2_with (at_builtin; refine Lib.wpList_append_run _ rfl _ _ _ _ rfl _ _ rfl rfl _ _ HR.out ?_)
    go_ret
    exact ⟨_, b', rfl, hb', hw', B⟩

end Go.Proofs.Ytjigglnepcabmaa
