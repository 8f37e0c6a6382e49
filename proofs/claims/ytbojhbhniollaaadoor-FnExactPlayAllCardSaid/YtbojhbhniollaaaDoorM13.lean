/-
  Several texts in one: HasCard, EqualInts (the program's, by the library's contracts), EqualInts (the model's). MayPlay by contract, both sides. Without, both sides. PlayCard, what it says: who plays, what the trick's end does; pure. Without, both sides: the list returned is the call's own. The end of a trick: the program's endTrick.
-/
import Derived.Test.YtbojhbhniollaaaDoorM8
import Derived.Test.YtbojhbhniollaaaDoorM12
import Derived.Test.YtbojhbhniollaaaDoorM4
import Derived.Test.YtbojhbhniollaaaDoorM6
import Derived.Test.YtbojhbhniollaaaDoorEarly
import Derived.OpenShut
import Derived.IntWalk
namespace Go.Proofs.YtbojhbhniollaaaDoor
open Go.RowKit

theorem cells_getD {k : IntKind} {w : World} {b off : Nat} {zs : List Int} (h : Cells k w b off zs) : ∀ j, j < zs.length → w.cell? ⟨b, off + j, none⟩ = some (.int k (zs.getD j 0)) := by
  intro j hj
  rw [h j hj]
  simp [List.getD, hj]
theorem contains_has (zs : List Int) (c : Int) : zs.contains c = hasI zs c := by
  unfold hasI
  by_cases h : c ∈ zs
  · simp [h]
  · simp [h]

theorem hasCard_any (v : Value) (zs : List Int) (b : Nat) (c : Int) (w : World) (h : RdAt .i64 w v zs b) (hl : zs.length ≤ 1099511627776) :
    Calls Tryd.prog 76 #[v, .int .i64 c] w fun e w' => e = .returned (.bool (hasI zs c)) ∧ w = w' := by
  have hlib : Calls Tryd.prog 99 #[v, .int .i64 c] w fun e w' => e = .returned (.bool (hasI zs c)) ∧ w = w' := by
    rcases h.open with ⟨rfl, a, cap, rfl, hcm, hnil⟩ | ⟨hz, off, cap, rfl, hcap, hc⟩
    · exact (Tryd.slices_Contains_int_empty a cap c w).mono fun e w' ⟨h1, h2⟩ => ⟨by rw [h1]; rfl, h2.symm⟩
    · refine (Tryd.slices_Contains_int b off zs.length cap zs c w (Nat.le_refl _) (by omega) (cells_getD hc)).mono ?_
      rintro e w' ⟨rfl, h2⟩
      exact ⟨by rw [List.take_length, contains_has], h2.symm⟩
  have Hlib := Lib.hid hlib
  clear hlib
  obtain ⟨p0, cap0, rfl, -⟩ := id h
  go_enter Tryd.func76, Tryd.ntmps76
  go_wp2_with fail
  refine Hlib.out.mono ?_
  rintro e _w ⟨rfl, rfl⟩
  go_wp2_with fail
  go_ret
  exact ⟨rfl, rfl⟩

set_option maxRecDepth 100000 in
set_option maxHeartbeats 400000 in
theorem sEqualInts_any (va vb : Value) (za zb : List Int) (ba bb : Nat) (w : World) (ha : RdAt .i64 w va za ba) (hb : RdAt .i64 w vb zb bb) (hl : za.length ≤ 1099511627776) (hl2 : zb.length ≤ 1099511627776) :
    Calls Tryd.prog 58 #[va, vb] w fun e w' => e = .returned (.bool (decide (za = zb))) ∧ Below w.heap.size w w' := by
  obtain ⟨aa, ca, rfl, -, -, hca⟩ := ha
  obtain ⟨ab, cb, rfl, -, -, hcb⟩ := hb
  obtain ⟨n, hn⟩ : ∃ n, n = za.length := ⟨_, rfl⟩
  obtain ⟨m, hm⟩ : ∃ m, m = zb.length := ⟨_, rfl⟩
  have Hn := Lib.hid hn
  have Hm := Lib.hid hm
  rw [← hn] at hl ⊢
  rw [← hm] at hl2 ⊢
  clear hn hm
  obtain ⟨r, hr⟩ : ∃ r, r = decide (za = zb) := ⟨_, rfl⟩
  have Hr := Lib.hid hr
  rw [← hr]
  clear hr
  by_cases hnm : n = m
  · subst hnm
    have hq : ((n : Int) != (n : Int)) = false := by simp
    go_enter Tryd.func58, Tryd.ntmps58
    go_wp2_with fail
    go_loopw [5] (fun i wr => ∃ k : Nat, k ≤ n ∧ i = .int .i64 k ∧ (∃ q, wr = w.drewN q) ∧ Hid (∀ j (h1 : j < za.length) (h2 : j < zb.length), j < k → za[j] = zb[j])) (fun i _ => n - (intOf i).toNat)
    case atStart => exact ⟨0, Nat.zero_le _, rfl, ⟨0, rfl⟩, Lib.hid (fun j _ _ h => by omega)⟩
    case round =>
      obtain ⟨k, hk, rfl, ⟨q, rfl⟩, hsame⟩ := hrel
      by_cases hlt : k < n
      · have hza : k < za.length := by rw [← Hn.out]; exact hlt
        have hzb : k < zb.length := by rw [← Hm.out]; exact hlt
        rcases hca with h0 | ⟨oa, rfl, hc1⟩
        · subst h0; simp at hza
        rcases hcb with h0 | ⟨ob, rfl, hc2⟩
        · subst h0; simp at hzb
        obtain ⟨x, hx⟩ : ∃ x, Hid (x = za[k]) := ⟨_, Lib.hid rfl⟩
        obtain ⟨y, hy⟩ : ∃ y, Hid (y = zb[k]) := ⟨_, Lib.hid rfl⟩
        have h1 : w.cell? ⟨ba, oa + k, none⟩ = some (.int .i64 x) := by rw [hc1 k hza, hx.out]
        have h2 : w.cell? ⟨bb, ob + k, none⟩ = some (.int .i64 y) := by rw [hc2 k hzb, hy.out]
        clear hc1 hc2
        by_cases hxy : x = y
        · subst hxy
          have hs2 : Hid (∀ j (h1 : j < za.length) (h2 : j < zb.length), j < k + 1 → za[j] = zb[j]) := Lib.hid (fun j h1 h2 hj => by
            by_cases e : j = k
            · subst e; rw [← hx.out, ← hy.out]
            · exact hsame.out j h1 h2 (by omega))
          go_wp2_with fail
          go_quiet (fail)
          go_wp2_with fail
          go_roundw
          case rel => exact ⟨k + 1, by omega, by go_num, ⟨_, rfl⟩, hs2⟩
          case measure => simp [intOf]; omega
        · have hne : (x != y) = true := by simpa using hxy
          have hno : Hid (r = false) := Lib.hid (by rw [Hr.out]; simpa using list_ne_of hza hzb (by rw [← hx.out, ← hy.out]; exact hxy))
          clear hxy
          go_wp2_with fail
          go_quiet (fail)
          go_wp2_with fail
          go_ret
          exact ⟨by rw [hno.out]; rfl, below_drewN (below_drewN (Below.refl _ _) _) _⟩
      · obtain rfl : k = n := by omega
        have hyes : Hid (r = true) := Lib.hid (by rw [Hr.out]; simpa using list_eq_of (by rw [← Hn.out, ← Hm.out]) (fun j h1 h2 => hsame.out j h1 h2 (by rw [Hn.out]; exact h1)))
        go_wp2_with fail
        go_ret
        exact ⟨by rw [hyes.out]; rfl, below_drewN (Below.refl _ _) _⟩
  · have hq : ((n : Int) != (m : Int)) = true := by simp; omega
    have hno : Hid (r = false) := Lib.hid (by rw [Hr.out]; simpa using fun e => hnm (by rw [Hn.out, Hm.out, e]))
    clear hnm
    go_enter Tryd.func58, Tryd.ntmps58
    go_wp2_with fail
    go_ret
    exact ⟨by rw [hno.out]; rfl, Below.refl _ _⟩
end Go.Proofs.YtbojhbhniollaaaDoor
namespace Go.Proofs.YtbojhbhniollaaaDoor
open Go.RowKit

def suitIn (h : List Int) (s : Int) : Bool := decide (∃ x ∈ h, suitOf x = s)
def mayPlay (h t : List Int) (c : Int) : Bool := isHand h && (hasI h c && (match t with | [] => true | x :: _ => decide (suitOf c = suitOf x) || !(suitIn h (suitOf x))))
theorem may_0 {z t : List Int} {c : Int} (h : isHand z = false) : mayPlay z t c = false := by simp [mayPlay, h]
theorem may_1 {z t : List Int} {c : Int} (h : isHand z = true) (h2 : hasI z c = false) : mayPlay z t c = false := by simp [mayPlay, h, h2]
theorem may_2 {z : List Int} {c : Int} (h : isHand z = true) (h2 : hasI z c = true) : mayPlay z [] c = true := by simp [mayPlay, h, h2]
theorem may_3 {z t : List Int} {c x : Int} (h : isHand z = true) (h2 : hasI z c = true) (h3 : suitOf c = suitOf x) : mayPlay z (x :: t) c = true := by simp [mayPlay, h, h2, h3]
theorem may_4 {z t : List Int} {c x : Int} (h : isHand z = true) (h2 : hasI z c = true) (h3 : ¬ suitOf c = suitOf x) : mayPlay z (x :: t) c = !(suitIn z (suitOf x)) := by simp [mayPlay, h, h2, h3]
theorem suitIn_t {z : List Int} {s : Int} {k : Nat} (hk : k < z.length) (h : suitOf z[k] = s) : suitIn z s = true := by
  unfold suitIn; simp only [decide_eq_true_eq]; exact ⟨_, List.getElem_mem hk, h⟩
theorem suitIn_f {z : List Int} {s : Int} (h : ∀ j (hj : j < z.length), suitOf z[j] ≠ s) : suitIn z s = false := by
  unfold suitIn; simp only [decide_eq_false_iff_not]
  rintro ⟨x, hx, e⟩
  obtain ⟨j, hj, rfl⟩ := List.getElem_of_mem hx
  exact h j hj e

set_option maxRecDepth 100000 in
theorem hasSuit_any (v : Value) (zs : List Int) (b : Nat) (s : Int) (w : World) (h : RdAt .i64 w v zs b) (hl : zs.length ≤ 1099511627776) :
    Calls Tryd.prog 78 #[v, .int .i64 s] w fun e w' => e = .returned (.bool (suitIn zs s)) ∧ w = w' := by
  obtain ⟨a, cap, rfl, -, -, hcell⟩ := h
  obtain ⟨n, hn⟩ : ∃ n, n = zs.length := ⟨_, rfl⟩
  have Hn := Lib.hid hn
  rw [← hn] at hl ⊢
  clear hn
  obtain ⟨r, hr⟩ : ∃ r, r = suitIn zs s := ⟨_, rfl⟩
  have Hr := Lib.hid hr
  rw [← hr]
  clear hr
  go_enter Tryd.func78, Tryd.ntmps78
  go_wp2_with fail
  go_loop [9] (fun i => ∃ k : Nat, k ≤ n ∧ i = .int .i64 k ∧ Hid (∀ j (hj : j < zs.length), j < k → suitOf zs[j] ≠ s)) (fun i => n - (intOf i).toNat)
  case atStart => exact ⟨0, Nat.zero_le _, rfl, Lib.hid (fun j _ h => by omega)⟩
  case round =>
    obtain ⟨k, hk, rfl, hno⟩ := hrel
    by_cases hlt : k < n
    · have hz : k < zs.length := by rw [← Hn.out]; exact hlt
      rcases hcell with h0 | ⟨off, rfl, hc⟩
      · subst h0; simp at hz
      obtain ⟨y, hy⟩ : ∃ y, Hid (y = zs[k]) := ⟨_, Lib.hid rfl⟩
      have h1 : w.cell? ⟨b, off + k, none⟩ = some (.int .i64 y) := by rw [hc k hz, hy.out]
      clear hc
      obtain ⟨t, ht⟩ : ∃ t, Hid (suitOf y = t) := ⟨_, Lib.hid rfl⟩
      by_cases hyc : t = s
      · subst hyc
        have hr1 : Hid (r = true) := Lib.hid (by rw [Hr.out]; exact suitIn_t hz (by rw [← hy.out]; exact ht.out))
        go_wp2_with fail
        refine (suitOf_r _ _ _ ht.out).mono ?_
        rintro e _w ⟨rfl, rfl⟩
        go_wp2_with fail
        go_ret
        exact ⟨by rw [hr1.out]; rfl, rfl⟩
      · have hq : (t == s) = false := by simpa using hyc
        have hno2 : Hid (∀ j (hj : j < zs.length), j < k + 1 → suitOf zs[j] ≠ s) := Lib.hid (fun j hj h => by
          by_cases e : j = k
          · subst e; rw [← hy.out, ht.out]; exact hyc
          · exact hno.out j hj (by omega))
        clear hyc
        go_wp2_with fail
        refine (suitOf_r _ _ _ ht.out).mono ?_
        rintro e _w ⟨rfl, rfl⟩
        go_wp2_with fail
        go_round
        case rel => exact ⟨k + 1, by omega, by go_num, hno2⟩
        case measure => simp [intOf]; omega
    · obtain rfl : k = n := by omega
      have hr1 : Hid (r = false) := Lib.hid (by
        rw [Hr.out]
        exact suitIn_f (fun j hj => hno.out j hj (by rw [Hn.out]; exact hj)))
      go_wp2_with fail
      go_ret
      exact ⟨by rw [hr1.out]; rfl, rfl⟩

/-- The two checks that come first, as the walks want them. -/
theorem hid_hand {P : World → World → Prop} {w : World} (h : ∀ w', P w w') : Hid (∀ w', P w w') := Lib.hid h

set_option maxRecDepth 100000 in
set_option maxHeartbeats 1000000 in
theorem mayPlay_any (v : Value) (zs : List Int) (b : Nat) (v2 : Value) (ts : List Int) (b2 : Nat) (c : Int) (w : World) (h : RdAt .i64 w v zs b) (h2 : RdAt .i64 w v2 ts b2) (hl : zs.length ≤ 1099511627776) (hl2 : ts.length ≤ 1099511627776) :
    Calls Tryd.prog 55 #[v, v2, .int .i64 c] w fun e w' => e = .returned (.bool (mayPlay zs ts c)) ∧ Below w.heap.size w w' := by
  have HI0 := isHand_any v zs b w h hl
  have HC0 : ∀ wx, Below w.heap.size w wx → Calls Tryd.prog 76 #[v, .int .i64 c] wx fun e w' => e = .returned (.bool (hasI zs c)) ∧ wx = w' := fun wx hb => hasCard_any v zs b c wx (h.below hb) hl
  obtain ⟨p0, cap0, rfl, -⟩ := id h
  cases e1 : isHand zs with
  | false =>
    have Hr := Lib.hid (may_0 (t := ts) (c := c) e1)
    rw [e1] at HI0
    have HI := Lib.hid HI0
    obtain ⟨p2, cap2, rfl, -⟩ := id h2
    clear e1 HI0 HC0 h h2
    go_enter Tryd.func55, Tryd.ntmps55
    go_wp2_with fail
    refine HI.out.mono ?_
    rintro e w1 ⟨rfl, B⟩
    go_wp2_with fail
    go_ret
    exact ⟨by rw [Hr.out]; rfl, B⟩
  | true =>
    rw [e1] at HI0
    have HI := Lib.hid HI0
    cases e2 : hasI zs c with
    | false =>
      have Hr := Lib.hid (may_1 (t := ts) e1 e2)
      rw [e2] at HC0
      have HC := Lib.hid HC0
      obtain ⟨p2, cap2, rfl, -⟩ := id h2
      clear e1 e2 HI0 HC0 h h2
      go_enter Tryd.func55, Tryd.ntmps55
      go_wp2_with fail
      refine HI.out.mono ?_
      rintro e w1 ⟨rfl, B⟩
      go_wp2_with fail
      refine (HC.out _ B).mono ?_
      rintro e _w ⟨rfl, rfl⟩
      go_wp2_with fail
      go_ret
      exact ⟨by rw [Hr.out]; rfl, B⟩
    | true =>
      rw [e2] at HC0
      have HC := Lib.hid HC0
      rcases h2.open with ⟨rfl, a2, cap2, rfl, -⟩ | ⟨hz2, off2, cap2, rfl, -, hc2⟩
      · have Hr := Lib.hid (may_2 e1 e2)
        clear e1 e2 HI0 HC0 h h2
        go_enter Tryd.func55, Tryd.ntmps55
        go_wp2_with fail
        refine HI.out.mono ?_
        rintro e w1 ⟨rfl, B⟩
        go_wp2_with fail
        refine (HC.out _ B).mono ?_
        rintro e _w ⟨rfl, rfl⟩
        go_wp2_with fail
        go_ret
        exact ⟨by rw [Hr.out]; rfl, B⟩
      · have hlt2 := h2.lt hz2
        have HX : ∀ s, Hid (∀ wx, Below w.heap.size w wx → Calls Tryd.prog 78 #[.slice p0 zs.length cap0, .int .i64 s] wx fun e w' => e = .returned (.bool (suitIn zs s)) ∧ wx = w') := fun s => Lib.hid (fun wx hb => hasSuit_any _ zs b s wx (h.below hb) hl)
        cases ts with
        | nil => exact absurd rfl hz2
        | cons x ts' =>
        have hx0 := hc2 0 (by simp)
        have Hx0 : Hid (∀ wx, Below w.heap.size w wx → wx.cell? ⟨b2, off2, none⟩ = some (.int .i64 x)) := Lib.hid (fun wx hb => by rw [World.cell?_of_block (w := w) (a := ⟨b2, off2, none⟩) (hb.block _ hlt2)]; simpa using hx0)
        obtain ⟨n2, hn2⟩ : ∃ n2, n2 = (x :: ts').length := ⟨_, rfl⟩
        have hn0 : 0 < n2 := by rw [hn2]; simp
        have hq0 : ((n2 : Int) == 0) = false := by simp; omega
        rw [← hn2] at hl2 ⊢
        obtain ⟨s, hs⟩ : ∃ s, suitOf c = s := ⟨_, rfl⟩
        obtain ⟨t, ht⟩ : ∃ t, suitOf x = t := ⟨_, rfl⟩
        have Hs := Lib.hid hs
        have Ht := Lib.hid ht
        by_cases hst : suitOf c = suitOf x
        · have Hr := Lib.hid (may_3 (t := ts') e1 e2 hst)
          have hst2 : s = t := by rw [← hs, ← ht]; exact hst
          clear e1 e2 HI0 HC0 h h2 hn2 hx0 hc2 hst hs ht HX hz2 hlt2
          subst hst2
          go_enter Tryd.func55, Tryd.ntmps55
          go_wp2_with fail
          refine HI.out.mono ?_
          rintro e w1 ⟨rfl, B⟩
          have hcell := Hx0.out _ B
          go_wp2_with fail
          refine (HC.out _ B).mono ?_
          rintro e _w ⟨rfl, rfl⟩
          go_wp2_with fail
          refine (suitOf_r _ _ _ Ht.out).mono ?_
          rintro e _w ⟨rfl, rfl⟩
          go_wp2_with fail
          refine (suitOf_r _ _ _ Hs.out).mono ?_
          rintro e _w ⟨rfl, rfl⟩
          go_wp2_with fail
          go_ret
          exact ⟨by rw [Hr.out]; rfl, B⟩
        · have Hr := Lib.hid (may_4 (t := ts') e1 e2 hst)
          have hst2 : (s == t) = false := by simp; rw [← hs, ← ht]; exact hst
          rw [ht] at Hr
          have HX := HX t
          obtain ⟨q, hq⟩ : ∃ q, q = suitIn zs t := ⟨_, rfl⟩
          rw [← hq] at HX Hr
          clear e1 e2 HI0 HC0 h h2 hn2 hx0 hc2 hst hs ht hz2 hlt2 hq
          go_enter Tryd.func55, Tryd.ntmps55
          go_wp2_with fail
          refine HI.out.mono ?_
          rintro e w1 ⟨rfl, B⟩
          have hcell := Hx0.out _ B
          go_wp2_with fail
          refine (HC.out _ B).mono ?_
          rintro e _w ⟨rfl, rfl⟩
          go_wp2_with fail
          refine (suitOf_r _ _ _ Ht.out).mono ?_
          rintro e _w ⟨rfl, rfl⟩
          go_wp2_with fail
          refine (suitOf_r _ _ _ Hs.out).mono ?_
          rintro e _w ⟨rfl, rfl⟩
          go_wp2_with fail
          refine (HX.out _ B).mono ?_
          rintro e _w ⟨rfl, rfl⟩
          go_wp2_with fail
          go_ret
          exact ⟨by rw [Hr.out]; rfl, B⟩

set_option maxRecDepth 100000 in
set_option maxHeartbeats 4000000 in
theorem sMayPlay_any (v : Value) (zs : List Int) (b : Nat) (v2 : Value) (ts : List Int) (b2 : Nat) (c : Int) (w : World) (h : RdAt .i64 w v zs b) (h2 : RdAt .i64 w v2 ts b2) (hl : zs.length ≤ 1099511627776) (hl2 : ts.length ≤ 1099511627776) :
    Calls Tryd.prog 50 #[v, v2, .int .i64 c] w fun e w' => e = .returned (.bool (mayPlay zs ts c)) ∧ Below w.heap.size w w' := by
  have HI0 := sIsHand_any v zs b w h hl
  have HC0 : ∀ wx, Below w.heap.size w wx → Calls Tryd.prog 69 #[v, .int .i64 c] wx fun e w' => e = .returned (.bool (hasI zs c)) ∧ wx = w' := fun wx hb => sHasCard_any v zs b c wx (h.below hb) hl
  have hwf := h.wf
  obtain ⟨p0, cap0, rfl, -, -, hcell0⟩ := id h
  cases e1 : isHand zs with
  | false =>
    have Hr := Lib.hid (may_0 (t := ts) (c := c) e1)
    rw [e1] at HI0
    have HI := Lib.hid HI0
    obtain ⟨p2, cap2, rfl, -⟩ := id h2
    clear e1 HI0 HC0 h h2
    go_enter Tryd.func50, Tryd.ntmps50
    go_wp2_with fail
    refine HI.out.mono ?_
    rintro e w1 ⟨rfl, B⟩
    go_wp2_with fail
    go_ret
    exact ⟨by rw [Hr.out]; rfl, B⟩
  | true =>
    rw [e1] at HI0
    have HI := Lib.hid HI0
    cases e2 : hasI zs c with
    | false =>
      have Hr := Lib.hid (may_1 (t := ts) e1 e2)
      rw [e2] at HC0
      have HC := Lib.hid HC0
      obtain ⟨p2, cap2, rfl, -⟩ := id h2
      clear e1 e2 HI0 HC0 h h2
      go_enter Tryd.func50, Tryd.ntmps50
      go_wp2_with fail
      refine HI.out.mono ?_
      rintro e w1 ⟨rfl, B⟩
      go_wp2_with fail
      refine (HC.out _ B).mono ?_
      rintro e _w ⟨rfl, rfl⟩
      go_wp2_with fail
      go_ret
      exact ⟨by rw [Hr.out]; rfl, B⟩
    | true =>
      rw [e2] at HC0
      have HC := Lib.hid HC0
      rcases h2.open with ⟨rfl, a2, cap2, rfl, -⟩ | ⟨hz2, off2, cap2, rfl, -, hc2⟩
      · have Hr := Lib.hid (may_2 e1 e2)
        clear e1 e2 HI0 HC0 h h2
        go_enter Tryd.func50, Tryd.ntmps50
        go_wp2_with fail
        refine HI.out.mono ?_
        rintro e w1 ⟨rfl, B⟩
        go_wp2_with fail
        refine (HC.out _ B).mono ?_
        rintro e _w ⟨rfl, rfl⟩
        go_wp2_with fail
        go_quiet (fail)
        go_wp2_with fail
        go_ret
        exact ⟨by rw [Hr.out]; rfl, below_drewN B _⟩
      · have hlt2 := h2.lt hz2
        have Hlt : Hid (zs ≠ [] → b < w.heap.size) := Lib.hid h.lt
        cases ts with
        | nil => exact absurd rfl hz2
        | cons x ts' =>
        have hx0 := hc2 0 (by simp)
        have Hx0 : Hid (∀ wx, Below w.heap.size w wx → wx.cell? ⟨b2, off2, none⟩ = some (.int .i64 x)) := Lib.hid (fun wx hb => by rw [World.cell?_of_block (w := w) (a := ⟨b2, off2, none⟩) (hb.block _ hlt2)]; simpa using hx0)
        obtain ⟨n2, hn2⟩ : ∃ n2, n2 = (x :: ts').length := ⟨_, rfl⟩
        have hn0 : 0 < n2 := by rw [hn2]; simp
        have hq0 : ((n2 : Int) == 0) = false := by simp; omega
        rw [← hn2] at hl2 ⊢
        obtain ⟨s, hs⟩ : ∃ s, suitOf c = s := ⟨_, rfl⟩
        obtain ⟨t, ht⟩ : ∃ t, suitOf x = t := ⟨_, rfl⟩
        have Hs := Lib.hid hs
        have Ht := Lib.hid ht
        by_cases hst : suitOf c = suitOf x
        · have Hr := Lib.hid (may_3 (t := ts') e1 e2 hst)
          have hst2 : s = t := by rw [← hs, ← ht]; exact hst
          clear e1 e2 HI0 HC0 h h2 hn2 hx0 hc2 hst hs ht hz2 hlt2
          subst hst2
          go_enter Tryd.func50, Tryd.ntmps50
          go_wp2_with fail
          refine HI.out.mono ?_
          rintro e w1 ⟨rfl, B⟩
          have hcell := Hx0.out _ B
          go_wp2_with fail
          refine (HC.out _ B).mono ?_
          rintro e _w ⟨rfl, rfl⟩
          go_wp2_with fail
          go_quiet (first | (go_at_call 70; exact Calls.quiet_of_same (flip_same (sSuitOf_r _ _ _ Hs.out) rfl)) | (go_at_call 70; exact Calls.quiet_of_same (flip_same (sSuitOf_r _ _ _ Ht.out) rfl)))
          go_wp2_with fail
          go_ret
          exact ⟨by rw [Hr.out]; rfl, below_drewN B _⟩
        · have Hr := Lib.hid (may_4 (t := ts') e1 e2 hst)
          have hst2 : (s == t) = false := by simp; rw [← hs, ← ht]; exact hst
          rw [ht] at Hr
          obtain ⟨r, hr⟩ : ∃ r, r = mayPlay zs (x :: ts') c := ⟨_, rfl⟩
          rw [← hr] at Hr ⊢
          obtain ⟨n, hn⟩ : ∃ n, n = zs.length := ⟨_, rfl⟩
          have Hn := Lib.hid hn
          rw [← hn] at hl HI HC ⊢
          clear e1 e2 HI0 HC0 h h2 hn2 hx0 hc2 hst hs ht hz2 hlt2 hr hn
          go_enter Tryd.func50, Tryd.ntmps50
          go_wp2_with fail
          refine HI.out.mono ?_
          rintro e w1 ⟨rfl, B⟩
          have hcell := Hx0.out _ B
          go_wp2_with fail
          refine (HC.out _ B).mono ?_
          rintro e _w ⟨rfl, rfl⟩
          go_wp2_with fail
          go_quiet (first | (go_at_call 70; exact Calls.quiet_of_same (flip_same (sSuitOf_r _ _ _ Hs.out) rfl)) | (go_at_call 70; exact Calls.quiet_of_same (flip_same (sSuitOf_r _ _ _ Ht.out) rfl)))
          clear HI HC hcell
          go_wp2_with fail
          go_loopw [7] (fun i wr => ∃ k : Nat, k ≤ n ∧ i = .int .i64 k ∧ Hid (∀ j (hj : j < zs.length), j < k → suitOf zs[j] ≠ t) ∧ Below w.heap.size w wr) (fun i _ => n - (intOf i).toNat)
          case atStart => exact ⟨0, Nat.zero_le _, rfl, Lib.hid (fun j _ h => by omega), below_drewN B _⟩
          case round =>
            clear B
            obtain ⟨k, hk, rfl, hno, B⟩ := hrel
            have hcell := Hx0.out _ B
            by_cases hlt : k < n
            · have hz : k < zs.length := by rw [← Hn.out]; exact hlt
              rcases hcell0 with h0 | ⟨off, rfl, hc⟩
              · subst h0; simp at hz
              obtain ⟨y, hy⟩ : ∃ y, Hid (y = zs[k]) := ⟨_, Lib.hid rfl⟩
              have h1 : wr.cell? ⟨b, off + k, none⟩ = some (.int .i64 y) := by
                rw [World.cell?_of_block (w := w) (a := ⟨b, off + k, none⟩) (B.block _ (Hlt.out (fun e => by rw [e] at hz; simp at hz))), hc k hz, hy.out]
              clear hc
              obtain ⟨u, hu⟩ : ∃ u, Hid (suitOf y = u) := ⟨_, Lib.hid rfl⟩
              by_cases hyc : u = t
              · subst hyc
                have hr1 : Hid (r = false) := Lib.hid (by rw [Hr.out, suitIn_t hz (by rw [← hy.out]; exact hu.out)]; rfl)
                go_wp2_with fail
                go_quiet (first | (go_at_call 70; exact Calls.quiet_of_same (flip_same (sSuitOf_r _ _ _ hu.out) rfl)) | (go_at_call 70; exact Calls.quiet_of_same (flip_same (sSuitOf_r _ _ _ Ht.out) rfl)))
                go_wp2_with fail
                go_ret
                exact ⟨by rw [hr1.out]; rfl, below_drewN B _⟩
              · have hq : (u == t) = false := by simpa using hyc
                have hno2 : Hid (∀ j (hj : j < zs.length), j < k + 1 → suitOf zs[j] ≠ t) := Lib.hid (fun j hj h => by
                  by_cases e : j = k
                  · subst e; rw [← hy.out, hu.out]; exact hyc
                  · exact hno.out j hj (by omega))
                clear hyc
                go_wp2_with fail
                go_quiet (first | (go_at_call 70; exact Calls.quiet_of_same (flip_same (sSuitOf_r _ _ _ hu.out) rfl)) | (go_at_call 70; exact Calls.quiet_of_same (flip_same (sSuitOf_r _ _ _ Ht.out) rfl)))
                go_wp2_with fail
                go_roundw
                case rel => exact ⟨k + 1, by omega, by go_num, hno2, below_drewN B _⟩
                case measure => simp [intOf]; omega
            · obtain rfl : k = n := by omega
              have hr1 : Hid (r = true) := Lib.hid (by
                rw [Hr.out, suitIn_f (fun j hj => hno.out j hj (by rw [Hn.out]; exact hj))]; rfl)
              go_wp2_with fail
              go_ret
              exact ⟨by rw [hr1.out]; rfl, B⟩
end Go.Proofs.YtbojhbhniollaaaDoor
namespace Go.Proofs.YtbojhbhniollaaaDoor
open Go.RowKit

def without (zs : List Int) (c : Int) : List Int := zs.filter fun x => x != c
theorem without_take (zs : List Int) (c : Int) (k : Nat) (h : k < zs.length) : without (zs.take (k + 1)) c = without (zs.take k) c ++ if zs[k] != c then [zs[k]] else [] := by
  unfold without
  rw [List.take_succ_eq_append_getElem h, List.filter_append]
  congr 1
  by_cases e : zs[k] = c <;> simp [e]
theorem without_le (zs : List Int) (c : Int) : (without zs c).length ≤ zs.length := List.length_filter_le _ _

set_option maxRecDepth 100000 in
set_option maxHeartbeats 400000 in
theorem sWithout_any (v : Value) (zs : List Int) (b : Nat) (c : Int) (w : World) (h : RdAt .i64 w v zs b) (hl : zs.length ≤ 1099511627776) :
    Calls Tryd.prog 51 #[v, .int .i64 c] w fun e w' => ∃ v' b', e = .returned v' ∧ w.heap.size ≤ b' ∧ WrAt .i64 w' v' (without zs c) b' ∧ Below w.heap.size w w' := by
  obtain ⟨i0, hi, hz0, hz1, hz2⟩ := info_parts info_i64
  obtain ⟨a, cap, rfl, -, hwf, hcell⟩ := h
  obtain ⟨n, hn⟩ : ∃ n, n = zs.length := ⟨_, rfl⟩
  have Hn := Lib.hid hn
  rw [← hn] at hl ⊢
  clear hn
  go_enter Tryd.func51, Tryd.ntmps51
  go_wp2_with fail
  have hown0 := World.ownsRow_lit (base := w.heap.size) (e := 3) (size := 1) w #[] 0 (Nat.le_refl _) (Nat.zero_le _) rfl
  go_loopw [5, 6] (fun o i wr => ∃ k : Nat, k ≤ n ∧ i = .int .i64 k ∧ Below w.heap.size w wr ∧ wr.ownsRow w.heap.size 3 1 o (without (zs.take k) c).length ((without (zs.take k) c).map (Value.int .i64))) (fun _ i _ => n - (intOf i).toNat)
  case atStart => exact ⟨0, Nat.zero_le _, rfl, (Below.refl _ _).alloc (Nat.le_refl _) _, hown0⟩
  case round =>
    clear hown0
    obtain ⟨k, hk, rfl, hb2, hown⟩ := hrel
    by_cases hlt : k < n
    · have hzl : k < zs.length := by rw [← Hn.out]; exact hlt
      rcases hcell with h0 | ⟨off, rfl, hc⟩
      · subst h0; simp at hzl
      obtain ⟨y, hy⟩ : ∃ y, Hid (y = zs[k]) := ⟨_, Lib.hid rfl⟩
      have hc1 : wr.cell? ⟨b, off + k, none⟩ = some (.int .i64 y) := by
        have h1 := hc k hzl
        rw [hb2.cell (World.block_lt_of_cell? _ _ h1), h1, hy.out]
      have hstep := without_take zs c k hzl
      rw [← hy.out] at hstep
      clear hc
      by_cases hyc : y = c
      · subst hyc
        have hq : (y != y) = false := by simp
        rw [hq] at hstep
        have hrel2 : Hid (without (zs.take (k + 1)) y = without (zs.take k) y) := Lib.hid (by rw [hstep]; simp)
        clear hstep
        go_wp2_with fail
        go_roundw
        case rel => exact ⟨k + 1, by omega, by go_num, hb2, by rw [hrel2.out]; exact hown⟩
        case measure => simp [intOf]; omega
      · have hq : (y != c) = true := by simpa using hyc
        rw [hq] at hstep
        have hrel2 : Hid (without (zs.take (k + 1)) c = without (zs.take k) c ++ [y]) := Lib.hid (by rw [hstep]; simp)
        have hle := without_le (zs.take k) c
        have hle2 : (without (zs.take k) c).length ≤ n := Nat.le_trans hle (by rw [List.length_take, Hn.out]; omega)
        clear hstep hyc hle
        generalize without (zs.take k) c = F at *
        have hsz := hb2.size
        go_wp2_with (at_builtin; refine wpList_append_own _ rfl _ _ 23 rfl w.heap.size 3 i0 (.int .i64 0) 1 8 Tryd.underlying23 hi hz0 hz1 hz2 rfl (by decide) _ _ _ rfl (hown.alloc _) ⟨wr.heap.size, 0, none⟩ 1 1 [.int .i64 y] rfl rfl ?c1 ?c2 ?c3 ?c4 ?c5 ?_)
        case c1 => exact cell_one_new _ _ _
        case c2 => intro u hu; simp at hu; subst hu; rfl
        case c3 => unfold maxLen; omega
        case c4 => omega
        case c5 => simp; omega
        intro v' w1 hown' hgrow _
        have hb3 : Below w.heap.size w w1 := (hb2.alloc hsz _).grown hgrow (by simp; omega) (own_block hown)
        have hown2 := own_snoc hown'
        clear hown' hgrow hown hb2
        go_wp2_with fail
        go_roundw
        case rel => exact ⟨k + 1, by omega, by go_num, hb3, by rw [hrel2.out]; exact hown2⟩
        case measure => simp [intOf]; omega
    · obtain rfl : k = n := by omega
      have e : zs.take k = zs := List.take_of_length_le (by rw [Hn.out]; exact Nat.le_refl _)
      rw [e] at hown
      have hwr := Lib.hid (own_wr hown (fun x hx => hwf x (List.mem_filter.1 hx).1))
      clear hown e
      go_wp2_with fail
      go_ret
      obtain ⟨b', hb', hw'⟩ := hwr.out
      exact ⟨_, b', rfl, hb', hw', hb2⟩
set_option maxRecDepth 100000 in
set_option maxHeartbeats 400000 in
theorem without_any (v : Value) (zs : List Int) (b : Nat) (c : Int) (w : World) (h : RdAt .i64 w v zs b) (hl : zs.length ≤ 1099511627776) :
    Calls Tryd.prog 56 #[v, .int .i64 c] w fun e w' => ∃ v' b', e = .returned v' ∧ w.heap.size ≤ b' ∧ WrAt .i64 w' v' (without zs c) b' ∧ Below w.heap.size w w' := by
  obtain ⟨i0, hi, hz0, hz1, hz2⟩ := info_parts info_i64
  obtain ⟨a, cap, rfl, -, hwf, hcell⟩ := h
  obtain ⟨n, hn⟩ : ∃ n, n = zs.length := ⟨_, rfl⟩
  have Hn := Lib.hid hn
  rw [← hn] at hl ⊢
  clear hn
  go_enter Tryd.func56, Tryd.ntmps56
  go_wp2_with fail
  have hown0 := World.ownsRow_lit (base := w.heap.size) (e := 3) (size := 1) w #[] 0 (Nat.le_refl _) (Nat.zero_le _) rfl
  go_loopw [5, 11] (fun o i wr => ∃ k : Nat, k ≤ n ∧ i = .int .i64 k ∧ Below w.heap.size w wr ∧ wr.ownsRow w.heap.size 3 1 o (without (zs.take k) c).length ((without (zs.take k) c).map (Value.int .i64))) (fun _ i _ => n - (intOf i).toNat)
  case atStart => exact ⟨0, Nat.zero_le _, rfl, (Below.refl _ _).alloc (Nat.le_refl _) _, hown0⟩
  case round =>
    clear hown0
    obtain ⟨k, hk, rfl, hb2, hown⟩ := hrel
    by_cases hlt : k < n
    · have hzl : k < zs.length := by rw [← Hn.out]; exact hlt
      rcases hcell with h0 | ⟨off, rfl, hc⟩
      · subst h0; simp at hzl
      obtain ⟨y, hy⟩ : ∃ y, Hid (y = zs[k]) := ⟨_, Lib.hid rfl⟩
      have hc1 : wr.cell? ⟨b, off + k, none⟩ = some (.int .i64 y) := by
        have h1 := hc k hzl
        rw [hb2.cell (World.block_lt_of_cell? _ _ h1), h1, hy.out]
      have hstep := without_take zs c k hzl
      rw [← hy.out] at hstep
      clear hc
      by_cases hyc : y = c
      · subst hyc
        have hq : (y != y) = false := by simp
        rw [hq] at hstep
        have hrel2 : Hid (without (zs.take (k + 1)) y = without (zs.take k) y) := Lib.hid (by rw [hstep]; simp)
        clear hstep
        go_wp2_with fail
        go_roundw
        case rel => exact ⟨k + 1, by omega, by go_num, hb2, by rw [hrel2.out]; exact hown⟩
        case measure => simp [intOf]; omega
      · have hq : (y != c) = true := by simpa using hyc
        rw [hq] at hstep
        have hrel2 : Hid (without (zs.take (k + 1)) c = without (zs.take k) c ++ [y]) := Lib.hid (by rw [hstep]; simp)
        have hle := without_le (zs.take k) c
        have hle2 : (without (zs.take k) c).length ≤ n := Nat.le_trans hle (by rw [List.length_take, Hn.out]; omega)
        clear hstep hyc hle
        generalize without (zs.take k) c = F at *
        have hsz := hb2.size
        go_wp2_with (at_builtin; refine wpList_append_own _ rfl _ _ 23 rfl w.heap.size 3 i0 (.int .i64 0) 1 8 Tryd.underlying23 hi hz0 hz1 hz2 rfl (by decide) _ _ _ rfl (hown.alloc _) ⟨wr.heap.size, 0, none⟩ 1 1 [.int .i64 y] rfl rfl ?c1 ?c2 ?c3 ?c4 ?c5 ?_)
        case c1 => exact cell_one_new _ _ _
        case c2 => intro u hu; simp at hu; subst hu; rfl
        case c3 => unfold maxLen; omega
        case c4 => omega
        case c5 => simp; omega
        intro v' w1 hown' hgrow _
        have hb3 : Below w.heap.size w w1 := (hb2.alloc hsz _).grown hgrow (by simp; omega) (own_block hown)
        have hown2 := own_snoc hown'
        clear hown' hgrow hown hb2
        go_wp2_with fail
        go_roundw
        case rel => exact ⟨k + 1, by omega, by go_num, hb3, by rw [hrel2.out]; exact hown2⟩
        case measure => simp [intOf]; omega
    · obtain rfl : k = n := by omega
      have e : zs.take k = zs := List.take_of_length_le (by rw [Hn.out]; exact Nat.le_refl _)
      rw [e] at hown
      have hwr := Lib.hid (own_wr hown (fun x hx => hwf x (List.mem_filter.1 hx).1))
      clear hown e
      go_wp2_with fail
      go_ret
      obtain ⟨b', hb', hw'⟩ := hwr.out
      exact ⟨_, b', rfl, hb', hw', hb2⟩

end Go.Proofs.YtbojhbhniollaaaDoor
namespace Go.Proofs.YtbojhbhniollaaaDoor
open Go.RowKit
set_option linter.unusedVariables false
set_option linter.unusedSimpArgs false

def whoP (D : MDeal) : Nat := (turnOf D).toNat
def playOK (D : MDeal) (c : Int) : Bool := isDeal D && (decide (0 ≤ turnOf D) && mayPlay (D.hands.getD (whoP D) []) D.trick c)
def laidP (D : MDeal) (c : Int) : MDeal := { D with hands := D.hands.set (whoP D) (without (D.hands.getD (whoP D) []) c), trick := D.trick ++ [c] }
def winP (E : MDeal) : Nat := ((E.leader + winnerOf E.trick E.trump) % (E.hands.length : Int)).toNat
def endP (E : MDeal) : MDeal := { E with won := E.won.set (winP E) (IntKind.i64.wrap (E.won.getD (winP E) 0 + 1)), points := E.points.set (winP E) (IntKind.i64.wrap (E.points.getD (winP E) 0 + pts E.trick)), leader := (winP E : Int), trick := [] }
def playD (D : MDeal) (c : Int) : MDeal := if playOK D c then (if (laidP D c).trick.length = D.hands.length then endP (laidP D c) else laidP D c) else D
theorem playD_no {D : MDeal} {c : Int} (h : playOK D c = false) : playD D c = D := by unfold playD; rw [h]; rfl
theorem playD_on {D : MDeal} {c : Int} (h : playOK D c = true) (h2 : (laidP D c).trick.length ≠ D.hands.length) : playD D c = laidP D c := by unfold playD; rw [if_pos h, if_neg h2]
theorem playD_end {D : MDeal} {c : Int} (h : playOK D c = true) (h2 : (laidP D c).trick.length = D.hands.length) : playD D c = endP (laidP D c) := by unfold playD; rw [if_pos h, if_pos h2]
theorem turnOf_range {D : MDeal} (h : 0 ≤ turnOf D) : whoP D < D.hands.length ∧ turnOf D = (whoP D : Int) := by
  have e : turnOf D = (whoP D : Int) := by unfold whoP; omega
  refine ⟨?_, e⟩
  unfold turnOf at e h
  by_cases hq : sumLen D.hands = 0 ∨ ¬ (0 ≤ D.leader ∧ D.leader ≤ (D.hands.length : Int) - 1)
  · rw [if_pos hq] at h; omega
  · rw [if_neg hq] at e
    have hn : 0 < (D.hands.length : Int) := by
      have := fun h => hq (.inr h)
      have h2 : (0 ≤ D.leader ∧ D.leader ≤ (D.hands.length : Int) - 1) := Decidable.byContradiction this
      omega
    have := Int.emod_lt_of_pos (D.leader + D.trick.length) hn
    omega
theorem playOK_parts {D : MDeal} {c : Int} (h : playOK D c = true) : isDeal D = true ∧ 0 ≤ turnOf D ∧ mayPlay (D.hands.getD (whoP D) []) D.trick c = true := by
  unfold playOK at h
  simpa using h
theorem isDeal_shape {D : MDeal} (h : isDeal D = true) : shape1 D ∧ shape2 D ∧ apart (D.hands ++ [D.trick]) = true := by
  unfold isDeal at h
  simp only [Bool.and_eq_true, decide_eq_true_eq] at h
  exact ⟨h.1.1.1, h.1.1.2, h.1.2⟩
theorem trick_hand {D : MDeal} {c : Int} (h : playOK D c = true) : isHand (D.trick ++ [c]) = true := by
  obtain ⟨h1, h2, h3⟩ := playOK_parts h
  obtain ⟨-, -, h4⟩ := isDeal_shape h1
  obtain ⟨h5, -⟩ := turnOf_range h2
  unfold mayPlay at h3
  simp only [Bool.and_eq_true] at h3
  have hc : c ∈ D.hands.getD (whoP D) [] := by have := h3.2.1; unfold hasI at this; simpa using this
  have hcm : c ∈ D.hands.flatten := by
    refine List.mem_flatten.2 ⟨D.hands.getD (whoP D) [], ?_, hc⟩
    simp [List.getD, h5]
  unfold apart at h4
  rw [List.flatten_append, isHand_iff] at h4
  simp only [List.flatten_cons, List.flatten_nil, List.append_nil] at h4
  obtain ⟨h6, h7⟩ := h4
  rw [List.nodup_append] at h7
  rw [isHand_iff]
  refine ⟨fun x hx => ?_, ?_⟩
  · rcases List.mem_append.1 hx with hx | hx
    · exact h6 x (List.mem_append_right _ hx)
    · obtain rfl : x = c := by simpa using hx
      exact h6 x (List.mem_append_left _ hcm)
  · rw [List.nodup_append]
    refine ⟨h7.2.1, by simp, fun a ha b hb e => ?_⟩
    obtain rfl : b = c := by simpa using hb
    exact h7.2.2 b hcm a ha e.symm
theorem winP_facts {D : MDeal} {c : Int} (h : playOK D c = true) (h2 : (laidP D c).trick.length = D.hands.length) :
    ∃ m : Nat, winnerOf (D.trick ++ [c]) D.trump = (m : Int) ∧ m < D.hands.length ∧ winP (laidP D c) < D.hands.length ∧ ((D.leader + (m : Int)) % (D.hands.length : Int) = (winP (laidP D c) : Int)) ∧ 0 ≤ D.leader ∧ D.leader < (D.hands.length : Int) ∧ D.hands.length ≤ 4 ∧ D.won.length = D.hands.length ∧ D.points.length = D.hands.length := by
  obtain ⟨h1, -, -⟩ := playOK_parts h
  obtain ⟨⟨⟨s1, s2⟩, s3, s4⟩, ⟨⟨s5, s6⟩, -⟩, -⟩ := isDeal_shape h1
  have hh := trick_hand h
  have hl : (D.trick ++ [c]).length = D.hands.length := h2
  have hw := winner_2 D.trump hh (by simp)
  have hm := winsAt_le (D.trick ++ [c]) D.trump (D.trick ++ [c]).length
  have hn : 0 < (D.hands.length : Int) := by omega
  have e0 : (winP (laidP D c) : Int) = (D.leader + winnerOf (D.trick ++ [c]) D.trump) % (D.hands.length : Int) := by
    unfold winP
    have e1 : ((laidP D c).hands.length : Int) = (D.hands.length : Int) := by show ((D.hands.set _ _).length : Int) = _; rw [List.length_set]
    rw [e1]
    show ((((D.leader + winnerOf (D.trick ++ [c]) D.trump) % (D.hands.length : Int)).toNat : Nat) : Int) = _
    have := Int.emod_nonneg (D.leader + winnerOf (D.trick ++ [c]) D.trump) (show (D.hands.length : Int) ≠ 0 by omega)
    omega
  refine ⟨winsAt (D.trick ++ [c]) D.trump (D.trick ++ [c]).length, hw, by omega, ?_, by rw [e0, hw], s5, by omega, by omega, s3, s4⟩
  have := Int.emod_lt_of_pos (D.leader + winnerOf (D.trick ++ [c]) D.trump) hn
  omega
theorem sumLen_set_le (zss : List (List Int)) (j : Nat) (r : List Int) (h : r.length ≤ (zss.getD j []).length) : sumLen (zss.set j r) ≤ sumLen zss := by
  induction zss generalizing j with
  | nil => simp
  | cons a s ih =>
    cases j with
    | zero => simp [sumLen] at h ⊢; omega
    | succ j => have := ih j (by simpa using h); simp [sumLen] at this ⊢; omega
theorem laidP_few {D : MDeal} (c : Int) (h : playOK D c = true) (hf : D.Few) : (laidP D c).Few := by
  obtain ⟨f0, f1, f3, f4, f5⟩ := hf
  obtain ⟨h1, -, -⟩ := playOK_parts h
  obtain ⟨⟨⟨s1, s2⟩, s3, s4⟩, ⟨-, -, -, s7⟩, -⟩ := isDeal_shape h1
  refine ⟨?_, ?_, ?_, f4, f5⟩
  · show (D.hands.set _ _).length ≤ _; rw [List.length_set]; exact f0
  · exact Nat.le_trans (sumLen_set_le _ _ _ (without_le _ _)) f1
  · show (D.trick ++ [c]).length ≤ _; simp; omega
theorem playD_few {D : MDeal} (c : Int) (hf : D.Few) : (playD D c).Few := by
  unfold playD
  by_cases h : playOK D c = true
  · obtain ⟨f0, f1, f3, f4, f5⟩ := laidP_few c h hf
    rw [if_pos h]
    split
    · refine ⟨f0, f1, Nat.zero_le _, ?_, ?_⟩
      · show (List.set _ _ _).length ≤ _; rw [List.length_set]; exact f4
      · show (List.set _ _ _).length ≤ _; rw [List.length_set]; exact f5
    · exact ⟨f0, f1, f3, f4, f5⟩
  · rw [if_neg h]; exact hf
end Go.Proofs.YtbojhbhniollaaaDoor
namespace Go.Proofs.YtbojhbhniollaaaDoor
open Go.RowKit
set_option linter.unusedVariables false
set_option linter.unusedSimpArgs false

set_option maxRecDepth 100000 in
set_option maxHeartbeats 400000 in
theorem sWithout_own (v : Value) (zs : List Int) (b : Nat) (c : Int) (w : World) (h : RdAt .i64 w v zs b) (hl : zs.length ≤ 1099511627776) :
    Calls Tryd.prog 51 #[v, .int .i64 c] w fun e w' => ∃ v', e = .returned v' ∧ OwnI (In w.heap.size w'.heap.size) w' v' (without zs c) ∧ Below w.heap.size w w' := by
  obtain ⟨i0, hi, hz0, hz1, hz2⟩ := info_parts info_i64
  obtain ⟨a, cap, rfl, -, hwf, hcell⟩ := h
  obtain ⟨n, hn⟩ : ∃ n, n = zs.length := ⟨_, rfl⟩
  have Hn := Lib.hid hn
  rw [← hn] at hl ⊢
  clear hn
  go_enter Tryd.func51, Tryd.ntmps51
  go_wp2_with fail
  have hown0 := World.ownsRow_lit (base := w.heap.size) (e := 3) (size := 1) w #[] 0 (Nat.le_refl _) (Nat.zero_le _) rfl
  go_loopw [5, 6] (fun o i wr => ∃ k : Nat, k ≤ n ∧ i = .int .i64 k ∧ Below w.heap.size w wr ∧ wr.ownsRow w.heap.size 3 1 o (without (zs.take k) c).length ((without (zs.take k) c).map (Value.int .i64))) (fun _ i _ => n - (intOf i).toNat)
  case atStart => exact ⟨0, Nat.zero_le _, rfl, (Below.refl _ _).alloc (Nat.le_refl _) _, hown0⟩
  case round =>
    clear hown0
    obtain ⟨k, hk, rfl, hb2, hown⟩ := hrel
    by_cases hlt : k < n
    · have hzl : k < zs.length := by rw [← Hn.out]; exact hlt
      rcases hcell with h0 | ⟨off, rfl, hc⟩
      · subst h0; simp at hzl
      obtain ⟨y, hy⟩ : ∃ y, Hid (y = zs[k]) := ⟨_, Lib.hid rfl⟩
      have hc1 : wr.cell? ⟨b, off + k, none⟩ = some (.int .i64 y) := by
        have h1 := hc k hzl
        rw [hb2.cell (World.block_lt_of_cell? _ _ h1), h1, hy.out]
      have hstep := without_take zs c k hzl
      rw [← hy.out] at hstep
      clear hc
      by_cases hyc : y = c
      · subst hyc
        have hq : (y != y) = false := by simp
        rw [hq] at hstep
        have hrel2 : Hid (without (zs.take (k + 1)) y = without (zs.take k) y) := Lib.hid (by rw [hstep]; simp)
        clear hstep
        go_wp2_with fail
        go_roundw
        case rel => exact ⟨k + 1, by omega, by go_num, hb2, by rw [hrel2.out]; exact hown⟩
        case measure => simp [intOf]; omega
      · have hq : (y != c) = true := by simpa using hyc
        rw [hq] at hstep
        have hrel2 : Hid (without (zs.take (k + 1)) c = without (zs.take k) c ++ [y]) := Lib.hid (by rw [hstep]; simp)
        have hle := without_le (zs.take k) c
        have hle2 : (without (zs.take k) c).length ≤ n := Nat.le_trans hle (by rw [List.length_take, Hn.out]; omega)
        clear hstep hyc hle
        generalize without (zs.take k) c = F at *
        have hsz := hb2.size
        go_wp2_with (at_builtin; refine wpList_append_own _ rfl _ _ 23 rfl w.heap.size 3 i0 (.int .i64 0) 1 8 Tryd.underlying23 hi hz0 hz1 hz2 rfl (by decide) _ _ _ rfl (hown.alloc _) ⟨wr.heap.size, 0, none⟩ 1 1 [.int .i64 y] rfl rfl ?c1 ?c2 ?c3 ?c4 ?c5 ?_)
        case c1 => exact cell_one_new _ _ _
        case c2 => intro u hu; simp at hu; subst hu; rfl
        case c3 => unfold maxLen; omega
        case c4 => omega
        case c5 => simp; omega
        intro v' w1 hown' hgrow _
        have hb3 : Below w.heap.size w w1 := (hb2.alloc hsz _).grown hgrow (by simp; omega) (own_block hown)
        have hown2 := own_snoc hown'
        clear hown' hgrow hown hb2
        go_wp2_with fail
        go_roundw
        case rel => exact ⟨k + 1, by omega, by go_num, hb3, by rw [hrel2.out]; exact hown2⟩
        case measure => simp [intOf]; omega
    · obtain rfl : k = n := by omega
      have e : zs.take k = zs := List.take_of_length_le (by rw [Hn.out]; exact Nat.le_refl _)
      rw [e] at hown
      have hwr := Lib.hid (OwnI.of hown (fun x hx => hwf x (List.mem_filter.1 hx).1))
      clear hown e
      go_wp2_with fail
      go_ret
      exact ⟨_, rfl, hwr.out, hb2⟩
set_option maxRecDepth 100000 in
set_option maxHeartbeats 400000 in
theorem without_own (v : Value) (zs : List Int) (b : Nat) (c : Int) (w : World) (h : RdAt .i64 w v zs b) (hl : zs.length ≤ 1099511627776) :
    Calls Tryd.prog 56 #[v, .int .i64 c] w fun e w' => ∃ v', e = .returned v' ∧ OwnI (In w.heap.size w'.heap.size) w' v' (without zs c) ∧ Below w.heap.size w w' := by
  obtain ⟨i0, hi, hz0, hz1, hz2⟩ := info_parts info_i64
  obtain ⟨a, cap, rfl, -, hwf, hcell⟩ := h
  obtain ⟨n, hn⟩ : ∃ n, n = zs.length := ⟨_, rfl⟩
  have Hn := Lib.hid hn
  rw [← hn] at hl ⊢
  clear hn
  go_enter Tryd.func56, Tryd.ntmps56
  go_wp2_with fail
  have hown0 := World.ownsRow_lit (base := w.heap.size) (e := 3) (size := 1) w #[] 0 (Nat.le_refl _) (Nat.zero_le _) rfl
  go_loopw [5, 11] (fun o i wr => ∃ k : Nat, k ≤ n ∧ i = .int .i64 k ∧ Below w.heap.size w wr ∧ wr.ownsRow w.heap.size 3 1 o (without (zs.take k) c).length ((without (zs.take k) c).map (Value.int .i64))) (fun _ i _ => n - (intOf i).toNat)
  case atStart => exact ⟨0, Nat.zero_le _, rfl, (Below.refl _ _).alloc (Nat.le_refl _) _, hown0⟩
  case round =>
    clear hown0
    obtain ⟨k, hk, rfl, hb2, hown⟩ := hrel
    by_cases hlt : k < n
    · have hzl : k < zs.length := by rw [← Hn.out]; exact hlt
      rcases hcell with h0 | ⟨off, rfl, hc⟩
      · subst h0; simp at hzl
      obtain ⟨y, hy⟩ : ∃ y, Hid (y = zs[k]) := ⟨_, Lib.hid rfl⟩
      have hc1 : wr.cell? ⟨b, off + k, none⟩ = some (.int .i64 y) := by
        have h1 := hc k hzl
        rw [hb2.cell (World.block_lt_of_cell? _ _ h1), h1, hy.out]
      have hstep := without_take zs c k hzl
      rw [← hy.out] at hstep
      clear hc
      by_cases hyc : y = c
      · subst hyc
        have hq : (y != y) = false := by simp
        rw [hq] at hstep
        have hrel2 : Hid (without (zs.take (k + 1)) y = without (zs.take k) y) := Lib.hid (by rw [hstep]; simp)
        clear hstep
        go_wp2_with fail
        go_roundw
        case rel => exact ⟨k + 1, by omega, by go_num, hb2, by rw [hrel2.out]; exact hown⟩
        case measure => simp [intOf]; omega
      · have hq : (y != c) = true := by simpa using hyc
        rw [hq] at hstep
        have hrel2 : Hid (without (zs.take (k + 1)) c = without (zs.take k) c ++ [y]) := Lib.hid (by rw [hstep]; simp)
        have hle := without_le (zs.take k) c
        have hle2 : (without (zs.take k) c).length ≤ n := Nat.le_trans hle (by rw [List.length_take, Hn.out]; omega)
        clear hstep hyc hle
        generalize without (zs.take k) c = F at *
        have hsz := hb2.size
        go_wp2_with (at_builtin; refine wpList_append_own _ rfl _ _ 23 rfl w.heap.size 3 i0 (.int .i64 0) 1 8 Tryd.underlying23 hi hz0 hz1 hz2 rfl (by decide) _ _ _ rfl (hown.alloc _) ⟨wr.heap.size, 0, none⟩ 1 1 [.int .i64 y] rfl rfl ?c1 ?c2 ?c3 ?c4 ?c5 ?_)
        case c1 => exact cell_one_new _ _ _
        case c2 => intro u hu; simp at hu; subst hu; rfl
        case c3 => unfold maxLen; omega
        case c4 => omega
        case c5 => simp; omega
        intro v' w1 hown' hgrow _
        have hb3 : Below w.heap.size w w1 := (hb2.alloc hsz _).grown hgrow (by simp; omega) (own_block hown)
        have hown2 := own_snoc hown'
        clear hown' hgrow hown hb2
        go_wp2_with fail
        go_roundw
        case rel => exact ⟨k + 1, by omega, by go_num, hb3, by rw [hrel2.out]; exact hown2⟩
        case measure => simp [intOf]; omega
    · obtain rfl : k = n := by omega
      have e : zs.take k = zs := List.take_of_length_le (by rw [Hn.out]; exact Nat.le_refl _)
      rw [e] at hown
      have hwr := Lib.hid (OwnI.of hown (fun x hx => hwf x (List.mem_filter.1 hx).1))
      clear hown e
      go_wp2_with fail
      go_ret
      exact ⟨_, rfl, hwr.out, hb2⟩

end Go.Proofs.YtbojhbhniollaaaDoor
namespace Go.Proofs.YtbojhbhniollaaaDoor
open Go.RowKit
set_option linter.unusedVariables false
set_option linter.unusedSimpArgs false

theorem wrap_64 (z : Int) : IntKind.i64.wrap z = wrap64 z := IntWalk.i64_left z
set_option maxRecDepth 100000 in
set_option maxHeartbeats 4000000 in
theorem endTrick_any (a0 a1 : Addr) {lo o n m n4 n5 d0 d3 d4 d5 : Nat} {q0 q3 q4 q5 : Option Addr} (E : MDeal) (w : World) (h : OD lo o w E q0 q3 q4 q5 d0 d3 d4 d5 n m n4 n5) (hlo : lo ≤ w.heap.size) (hS : Sent a0 a1 w) (k wn : Nat) (hk : winnerOf E.trick E.trump = (k : Int)) (hkn : k < n) (l0 : 0 ≤ E.leader) (l1 : E.leader < (n : Int)) (n8 : n ≤ 4) (e4 : n4 = n) (e5 : n5 = n) (hm : E.trick.length ≤ 1048576) (hwn : (E.leader + (k : Int)) % (n : Int) = (wn : Int)) (hwl : wn < n) (hwe : winP E = wn) :
    Calls Tryd.prog 57 #[.pointer (some ⟨o, 0, none⟩)] w fun e w' => e = .returned (.tuple #[]) ∧ (∃ g, OD lo o w' (endP E) q0 (some ⟨g, 0, none⟩) q4 q5 d0 0 d4 d5 n 0 n4 n5) ∧ Below lo w w' := by
  obtain ⟨hr0, ⟨b3, h3⟩, -, -⟩ := h.rd
  have g := h.cells
  have l := h.lens
  have HC : Hid (∀ wx, Below w.heap.size w wx → wx.cell? ⟨o, 0, none⟩ = some (.slice q0 n d0) ∧ wx.cell? ⟨o, 1, none⟩ = some (.int .i64 E.leader) ∧ wx.cell? ⟨o, 2, none⟩ = some (.int .i64 E.trump) ∧ wx.cell? ⟨o, 3, none⟩ = some (.slice q3 m d3)) := Lib.hid (fun wx hb => by
    have G := (hb.block _ l.2.1).trans g
    refine ⟨?_, ?_, ?_, ?_⟩ <;> (rw [box_cell G]; rfl))
  have HWn : Hid (∀ wx, Below w.heap.size w wx → Calls Tryd.prog 79 #[.slice q3 m d3, .int .i64 E.trump] wx fun e w' => e = .returned (.int .i64 k) ∧ Below wx.heap.size wx w') := Lib.hid (fun wx hb => by have := winnerOf_any _ E.trick b3 E.trump wx (h3.below hb) (by omega); rw [hk] at this; exact this)
  have hmod : modI (E.leader + (k : Int)) (n : Int) = (wn : Int) := by unfold modI; rw [if_pos ⟨by omega, by omega⟩]; exact hwn
  have HMo : Hid (∀ wx, Below w.heap.size w wx → Calls Tryd.prog 74 #[.int .i64 (E.leader + (k : Int)), .int .i64 (n : Int)] wx fun e w' => e = .returned (.int .i64 wn) ∧ Below wx.heap.size wx w') := Lib.hid (fun wx hb => by
    have := mod_any a0 a1 (E.leader + (k : Int)) (n : Int) wx (WalkArith.wf_i64 (by omega)) (hS.below hb (Nat.le_refl _))
    rw [hmod] at this
    exact this.mono (fun e w' ⟨h1, h2⟩ => ⟨h1, h2 ▸ Below.refl _ _⟩))
  have HP : Hid (∀ wx, Below lo w wx → ∀ q d (bt : Nat), RdAt .i64 wx (.slice q m d) E.trick bt → Calls Tryd.prog 80 #[.slice q m d] wx fun e w' => e = .returned (.int .i64 (pts E.trick)) ∧ Below wx.heap.size wx w') := Lib.hid (fun wx hb q d bt hr => points_any _ E.trick bt wx hr (by omega))
  have hwr : IntKind.i64.wrap (E.leader + (k : Int)) = E.leader + (k : Int) := by rw [IntKind.wrap_i64]; omega
  have HO := Lib.hid h
  have HL := Lib.hid (And.intro hlo (And.intro l (And.intro e4 (And.intro e5 (And.intro hwe (And.intro hwl n8))))))
  clear hr0 h3 g l h hS hk hkn l0 l1 hm hwn hmod e4 e5 n8 hwe hlo
  go_enter Tryd.func57, Tryd.ntmps57
  go_upto_region 0 with fail
  refine wp_region_table [(0, some 3, .is (.pointer (some ⟨o, 0, none⟩))), (1, some 4, .is (.pointer (some ⟨o, 0, none⟩))), (2, some 5, .is (.pointer (some ⟨o, 1, none⟩))), (3, some 6, .is (.int .i64 E.leader)), (4, some 7, .is (.pointer (some ⟨o, 0, none⟩))), (5, some 8, .is (.pointer (some ⟨o, 0, none⟩))), (6, some 9, .is (.pointer (some ⟨o, 3, none⟩))), (7, some 10, .is (.slice q3 m d3)), (8, some 11, .is (.pointer (some ⟨o, 0, none⟩))), (9, some 12, .is (.pointer (some ⟨o, 0, none⟩))), (10, some 13, .is (.pointer (some ⟨o, 2, none⟩))), (11, some 14, .is (.int .i64 E.trump)), (12, some 15, .is (.int .i64 (k : Int))), (13, some 16, .is (.int .i64 (E.leader + (k : Int)))), (14, some 17, .is (.pointer (some ⟨o, 0, none⟩))), (15, some 18, .is (.pointer (some ⟨o, 0, none⟩))), (16, some 19, .is (.pointer (some ⟨o, 0, none⟩))), (17, some 20, .is (.slice q0 n d0)), (18, some 21, .is (.int .i64 n)), (19, some 22, .is (.int .i64 (wn : Int)))] 1 (by kernel_rfl) (by kernel_rfl) (by kernel_rfl) (by kernel_rfl) (by kernel_rfl) (L := #[true, true, true, true, true, true, true, true, true, true, true, true, true, true, true, true, true, true, true, true, false]) (by kernel_rfl) ?steps ?fin
  case steps =>
    refine StepsT.cons [] (by simp only [List.getElem?_toArray, List.getElem?_cons_succ, List.getElem?_cons_zero]; rfl) (by kernel_rfl) (by rfl) (fun wx val iv hB hV K hK => ?_) ?_
    · clear hV; simp only [putT, List.foldl_cons, List.foldl_nil, Made.val, Act.put, List.setIfInBounds_toArray, List.set_cons_zero, List.set_cons_succ]; go_simp; exact hK.out _ _ rfl (Below.refl _ _)
    refine StepsT.cons [(0, some 3, .is (.pointer (some ⟨o, 0, none⟩)))] (by simp only [List.getElem?_toArray, List.getElem?_cons_succ, List.getElem?_cons_zero]; rfl) (by kernel_rfl) (by rfl) (fun wx val iv hB hV K hK => ?_) ?_
    · clear hV; simp only [putT, List.foldl_cons, List.foldl_nil, Made.val, Act.put, List.setIfInBounds_toArray, List.set_cons_zero, List.set_cons_succ]; go_simp; exact hK.out _ _ rfl (Below.refl _ _)
    refine StepsT.cons [(1, some 4, .is (.pointer (some ⟨o, 0, none⟩)))] (by simp only [List.getElem?_toArray, List.getElem?_cons_succ, List.getElem?_cons_zero]; rfl) (by kernel_rfl) (by rfl) (fun wx val iv hB hV K hK => ?_) ?_
    · clear hV; simp only [putT, List.foldl_cons, List.foldl_nil, Made.val, Act.put, List.setIfInBounds_toArray, List.set_cons_zero, List.set_cons_succ]; go_simp; exact hK.out _ _ rfl (Below.refl _ _)
    refine StepsT.cons [(2, some 5, .is (.pointer (some ⟨o, 1, none⟩)))] (by simp only [List.getElem?_toArray, List.getElem?_cons_succ, List.getElem?_cons_zero]; rfl) (by kernel_rfl) (by rfl) (fun wx val iv hB hV K hK => ?_) ?_
    · (obtain ⟨k0, k1, k2, k3⟩ := HC.out wx hB); clear hV; simp only [putT, List.foldl_cons, List.foldl_nil, Made.val, Act.put, List.setIfInBounds_toArray, List.set_cons_zero, List.set_cons_succ]; go_simp; exact hK.out _ _ rfl (Below.refl _ _)
    refine StepsT.cons [] (by simp only [List.getElem?_toArray, List.getElem?_cons_succ, List.getElem?_cons_zero]; rfl) (by kernel_rfl) (by rfl) (fun wx val iv hB hV K hK => ?_) ?_
    · clear hV; simp only [putT, List.foldl_cons, List.foldl_nil, Made.val, Act.put, List.setIfInBounds_toArray, List.set_cons_zero, List.set_cons_succ]; go_simp; exact hK.out _ _ rfl (Below.refl _ _)
    refine StepsT.cons [(4, some 7, .is (.pointer (some ⟨o, 0, none⟩)))] (by simp only [List.getElem?_toArray, List.getElem?_cons_succ, List.getElem?_cons_zero]; rfl) (by kernel_rfl) (by rfl) (fun wx val iv hB hV K hK => ?_) ?_
    · clear hV; simp only [putT, List.foldl_cons, List.foldl_nil, Made.val, Act.put, List.setIfInBounds_toArray, List.set_cons_zero, List.set_cons_succ]; go_simp; exact hK.out _ _ rfl (Below.refl _ _)
    refine StepsT.cons [(5, some 8, .is (.pointer (some ⟨o, 0, none⟩)))] (by simp only [List.getElem?_toArray, List.getElem?_cons_succ, List.getElem?_cons_zero]; rfl) (by kernel_rfl) (by rfl) (fun wx val iv hB hV K hK => ?_) ?_
    · clear hV; simp only [putT, List.foldl_cons, List.foldl_nil, Made.val, Act.put, List.setIfInBounds_toArray, List.set_cons_zero, List.set_cons_succ]; go_simp; exact hK.out _ _ rfl (Below.refl _ _)
    refine StepsT.cons [(6, some 9, .is (.pointer (some ⟨o, 3, none⟩)))] (by simp only [List.getElem?_toArray, List.getElem?_cons_succ, List.getElem?_cons_zero]; rfl) (by kernel_rfl) (by rfl) (fun wx val iv hB hV K hK => ?_) ?_
    · (obtain ⟨k0, k1, k2, k3⟩ := HC.out wx hB); clear hV; simp only [putT, List.foldl_cons, List.foldl_nil, Made.val, Act.put, List.setIfInBounds_toArray, List.set_cons_zero, List.set_cons_succ]; go_simp; exact hK.out _ _ rfl (Below.refl _ _)
    refine StepsT.cons [] (by simp only [List.getElem?_toArray, List.getElem?_cons_succ, List.getElem?_cons_zero]; rfl) (by kernel_rfl) (by rfl) (fun wx val iv hB hV K hK => ?_) ?_
    · clear hV; simp only [putT, List.foldl_cons, List.foldl_nil, Made.val, Act.put, List.setIfInBounds_toArray, List.set_cons_zero, List.set_cons_succ]; go_simp; exact hK.out _ _ rfl (Below.refl _ _)
    refine StepsT.cons [(8, some 11, .is (.pointer (some ⟨o, 0, none⟩)))] (by simp only [List.getElem?_toArray, List.getElem?_cons_succ, List.getElem?_cons_zero]; rfl) (by kernel_rfl) (by rfl) (fun wx val iv hB hV K hK => ?_) ?_
    · clear hV; simp only [putT, List.foldl_cons, List.foldl_nil, Made.val, Act.put, List.setIfInBounds_toArray, List.set_cons_zero, List.set_cons_succ]; go_simp; exact hK.out _ _ rfl (Below.refl _ _)
    refine StepsT.cons [(9, some 12, .is (.pointer (some ⟨o, 0, none⟩)))] (by simp only [List.getElem?_toArray, List.getElem?_cons_succ, List.getElem?_cons_zero]; rfl) (by kernel_rfl) (by rfl) (fun wx val iv hB hV K hK => ?_) ?_
    · clear hV; simp only [putT, List.foldl_cons, List.foldl_nil, Made.val, Act.put, List.setIfInBounds_toArray, List.set_cons_zero, List.set_cons_succ]; go_simp; exact hK.out _ _ rfl (Below.refl _ _)
    refine StepsT.cons [(10, some 13, .is (.pointer (some ⟨o, 2, none⟩)))] (by simp only [List.getElem?_toArray, List.getElem?_cons_succ, List.getElem?_cons_zero]; rfl) (by kernel_rfl) (by rfl) (fun wx val iv hB hV K hK => ?_) ?_
    · (obtain ⟨k0, k1, k2, k3⟩ := HC.out wx hB); clear hV; simp only [putT, List.foldl_cons, List.foldl_nil, Made.val, Act.put, List.setIfInBounds_toArray, List.set_cons_zero, List.set_cons_succ]; go_simp; exact hK.out _ _ rfl (Below.refl _ _)
    refine StepsT.cons [(7, some 10, .is (.slice q3 m d3)), (11, some 14, .is (.int .i64 E.trump))] (by simp only [List.getElem?_toArray, List.getElem?_cons_succ, List.getElem?_cons_zero]; rfl) (by kernel_rfl) (by rfl) (fun wx val iv hB hV K hK => ?_) ?_
    · (clear hV; simp only [putT, List.foldl_cons, List.foldl_nil, Made.val, Act.put, List.setIfInBounds_toArray, List.set_cons_zero, List.set_cons_succ]; go_simp; go_at_call 79; refine (HWn.out wx hB).mono ?_; rintro e wa ⟨rfl, Ba⟩; exact hK.out _ _ rfl Ba)
    refine StepsT.cons [(3, some 6, .is (.int .i64 E.leader)), (12, some 15, .is (.int .i64 (k : Int)))] (by simp only [List.getElem?_toArray, List.getElem?_cons_succ, List.getElem?_cons_zero]; rfl) (by kernel_rfl) (by rfl) (fun wx val iv hB hV K hK => ?_) ?_
    · clear hV; simp only [putT, List.foldl_cons, List.foldl_nil, Made.val, Act.put, List.setIfInBounds_toArray, List.set_cons_zero, List.set_cons_succ]; go_simp; exact hK.out _ _ rfl (Below.refl _ _)
    refine StepsT.cons [] (by simp only [List.getElem?_toArray, List.getElem?_cons_succ, List.getElem?_cons_zero]; rfl) (by kernel_rfl) (by rfl) (fun wx val iv hB hV K hK => ?_) ?_
    · clear hV; simp only [putT, List.foldl_cons, List.foldl_nil, Made.val, Act.put, List.setIfInBounds_toArray, List.set_cons_zero, List.set_cons_succ]; go_simp; exact hK.out _ _ rfl (Below.refl _ _)
    refine StepsT.cons [(14, some 17, .is (.pointer (some ⟨o, 0, none⟩)))] (by simp only [List.getElem?_toArray, List.getElem?_cons_succ, List.getElem?_cons_zero]; rfl) (by kernel_rfl) (by rfl) (fun wx val iv hB hV K hK => ?_) ?_
    · clear hV; simp only [putT, List.foldl_cons, List.foldl_nil, Made.val, Act.put, List.setIfInBounds_toArray, List.set_cons_zero, List.set_cons_succ]; go_simp; exact hK.out _ _ rfl (Below.refl _ _)
    refine StepsT.cons [(15, some 18, .is (.pointer (some ⟨o, 0, none⟩)))] (by simp only [List.getElem?_toArray, List.getElem?_cons_succ, List.getElem?_cons_zero]; rfl) (by kernel_rfl) (by rfl) (fun wx val iv hB hV K hK => ?_) ?_
    · clear hV; simp only [putT, List.foldl_cons, List.foldl_nil, Made.val, Act.put, List.setIfInBounds_toArray, List.set_cons_zero, List.set_cons_succ]; go_simp; exact hK.out _ _ rfl (Below.refl _ _)
    refine StepsT.cons [(16, some 19, .is (.pointer (some ⟨o, 0, none⟩)))] (by simp only [List.getElem?_toArray, List.getElem?_cons_succ, List.getElem?_cons_zero]; rfl) (by kernel_rfl) (by rfl) (fun wx val iv hB hV K hK => ?_) ?_
    · (obtain ⟨k0, k1, k2, k3⟩ := HC.out wx hB); clear hV; simp only [putT, List.foldl_cons, List.foldl_nil, Made.val, Act.put, List.setIfInBounds_toArray, List.set_cons_zero, List.set_cons_succ]; go_simp; exact hK.out _ _ rfl (Below.refl _ _)
    refine StepsT.cons [(17, some 20, .is (.slice q0 n d0))] (by simp only [List.getElem?_toArray, List.getElem?_cons_succ, List.getElem?_cons_zero]; rfl) (by kernel_rfl) (by rfl) (fun wx val iv hB hV K hK => ?_) ?_
    · clear hV; simp only [putT, List.foldl_cons, List.foldl_nil, Made.val, Act.put, List.setIfInBounds_toArray, List.set_cons_zero, List.set_cons_succ]; go_simp; exact hK.out _ _ rfl (Below.refl _ _)
    refine StepsT.cons [(12, some 15, .is (.int .i64 (k : Int))), (13, some 16, .is (.int .i64 (E.leader + (k : Int)))), (18, some 21, .is (.int .i64 n))] (by simp only [List.getElem?_toArray, List.getElem?_cons_succ, List.getElem?_cons_zero]; rfl) (by kernel_rfl) (by rfl) (fun wx val iv hB hV K hK => ?_) ?_
    · (clear hV; simp only [putT, List.foldl_cons, List.foldl_nil, Made.val, Act.put, List.setIfInBounds_toArray, List.set_cons_zero, List.set_cons_succ]; go_simp; go_at_call 74; refine (HMo.out wx hB).mono ?_; rintro e wa ⟨rfl, Ba⟩; exact hK.out _ _ rfl Ba)
    exact StepsT.nil
  case fin =>
    intro wx val iv BX hV hD
    clear hV hD
    simp only [putT, List.foldl_cons, List.foldl_nil, Made.val, Act.put, List.setIfInBounds_toArray, List.set_cons_zero, List.set_cons_succ]
    refine wpAny_one (i := 20) (by kernel_rfl) (by simp only [List.getElem?_toArray, List.getElem?_cons_succ, List.getElem?_cons_zero]; rfl) (fun K hK => ?_)
    go_simp
    refine hK.out _ _ ?_
    clear hK K
    refine wpAny_end (by kernel_rfl) ?_
    have od := HO.out.below BX
    obtain ⟨hlo, l, e4, e5, hwe, hwl', -⟩ := HL.out
    have Bl : Below lo w wx := BX.mono hlo
    have hiw : wn < E.won.length := by omega
    obtain ⟨b, off, eq4, hc, hf, hbl, hbs, od1⟩ := od.setWon hiw (x := wrap64 (E.won[wn] + 1)) (wrap64_wf _)
    subst eq4
    have G := od.cells
    have z4 := box_cell G 4
    simp at z4
    obtain ⟨x, hx⟩ : ∃ x, x = E.won[wn] := ⟨_, rfl⟩
    rw [← hx] at hc od1
    obtain ⟨Y1, hY1⟩ : ∃ Y, Y = wx.setCell ⟨b, off + wn, none⟩ (.int .i64 (wrap64 (x + 1))) := ⟨_, rfl⟩
    rw [← hY1] at od1
    have B1 : Below lo w Y1 := by rw [hY1]; exact Bl.setCell hbl _
    have Hod1 := Lib.hid (And.intro od1 B1)
    have Hx := Lib.hid hx
    have HY := Lib.hid hY1
    have hw4 : wn < n4 := by omega
    have hw5 : wn < n5 := by omega
    clear od od1 B1 G hx hY1 Bl hlo l e4 e5 hwe hbl hbs HC HWn HMo hwr HO BX hwl' hwl
    go_upto_region 2 with fail
    rw [← HY.out]
    clear hc hf z4 HY
    obtain ⟨od1, B1⟩ := Hod1.out
    obtain ⟨hlo, l, e4, e5, hwe, hwl, hn8⟩ := HL.out
    obtain ⟨-, ⟨bt, rt⟩, -, -⟩ := od1.rd
    have hip : wn < E.points.length := by omega
    obtain ⟨bp, offp, eq5, hcp, hfp, hbpl, hbps, od2'⟩ := od1.setPoints hip (x := IntKind.i64.wrap (E.points[wn] + pts E.trick)) (wf_wrap _ _)
    have eqp : q5 = some ⟨bp, offp, none⟩ := eq5
    subst eqp
    clear eq5
    have G := od1.cells
    obtain ⟨y, hy⟩ : ∃ y, y = E.points[wn] := ⟨_, rfl⟩
    have hcp' : Y1.cell? ⟨bp, offp + wn, none⟩ = some (.int .i64 y) := by rw [hcp, hy]
    have HC2 : Hid (∀ wx, Below Y1.heap.size Y1 wx → wx.cell? ⟨o, 5, none⟩ = some (.slice (some ⟨bp, offp, none⟩) n5 d5) ∧ wx.cell? ⟨o, 3, none⟩ = some (.slice q3 m d3) ∧ wx.cell? ⟨bp, offp + wn, none⟩ = some (.int .i64 y)) := Lib.hid (fun wx hb => by
      have G' := (hb.block _ od1.lens.2.1).trans G
      refine ⟨?_, ?_, (hb.cell (World.block_lt_of_cell? _ _ hcp')).trans hcp'⟩ <;> (rw [box_cell G']; rfl))
    have HPt := Lib.hid (fun wx (hb : Below Y1.heap.size Y1 wx) => HP.out wx (B1.trans (hb.mono (Nat.le_trans hlo B1.size))) _ _ bt (rt.below hb))
    obtain ⟨pt, hpt⟩ : ∃ z, z = pts E.trick := ⟨_, rfl⟩
    rw [← hpt] at HPt
    have Hy := Lib.hid (And.intro hy hpt)
    clear hn8 od1 B1 rt hcp hfp hbpl hbps od2' G hcp' hy hpt hlo l e4 e5 hwe hwl
    refine wp_region_table [(0, some 32, .is (.pointer (some ⟨o, 0, none⟩))), (1, some 33, .is (.pointer (some ⟨o, 0, none⟩))), (2, some 34, .is (.pointer (some ⟨o, 5, none⟩))), (3, some 35, .is (.slice (some ⟨bp, offp, none⟩) n5 d5)), (4, some 36, .is (.int .i64 (wn : Int))), (5, some 37, .is (.pointer (some ⟨bp, offp + wn, none⟩))), (6, some 38, .is (.int .i64 y)), (7, some 39, .is (.pointer (some ⟨o, 0, none⟩))), (8, some 40, .is (.pointer (some ⟨o, 0, none⟩))), (9, some 41, .is (.pointer (some ⟨o, 3, none⟩))), (10, some 42, .is (.slice q3 m d3)), (11, some 43, .is (.int .i64 pt)), (12, some 44, .is (.int .i64 (IntKind.i64.wrap (y + pt))))] 2 (by kernel_rfl) (by kernel_rfl) (by kernel_rfl) (by kernel_rfl) (by kernel_rfl) (L := #[true, true, true, true, true, true, true, true, true, true, true, true, true, false, false]) (by kernel_rfl) ?steps ?fin
    case steps =>
      refine StepsT.cons [] (by simp only [List.getElem?_toArray, List.getElem?_cons_succ, List.getElem?_cons_zero]; rfl) (by kernel_rfl) (by rfl) (fun wx val iv hB hV K hK => ?_) ?_
      · clear hV; simp only [putT, List.foldl_cons, List.foldl_nil, Made.val, Act.put, List.setIfInBounds_toArray, List.set_cons_zero, List.set_cons_succ]; go_simp; exact hK.out _ _ rfl (Below.refl _ _)
      refine StepsT.cons [(0, some 32, .is (.pointer (some ⟨o, 0, none⟩)))] (by simp only [List.getElem?_toArray, List.getElem?_cons_succ, List.getElem?_cons_zero]; rfl) (by kernel_rfl) (by rfl) (fun wx val iv hB hV K hK => ?_) ?_
      · clear hV; simp only [putT, List.foldl_cons, List.foldl_nil, Made.val, Act.put, List.setIfInBounds_toArray, List.set_cons_zero, List.set_cons_succ]; go_simp; exact hK.out _ _ rfl (Below.refl _ _)
      refine StepsT.cons [(1, some 33, .is (.pointer (some ⟨o, 0, none⟩)))] (by simp only [List.getElem?_toArray, List.getElem?_cons_succ, List.getElem?_cons_zero]; rfl) (by kernel_rfl) (by rfl) (fun wx val iv hB hV K hK => ?_) ?_
      · clear hV; simp only [putT, List.foldl_cons, List.foldl_nil, Made.val, Act.put, List.setIfInBounds_toArray, List.set_cons_zero, List.set_cons_succ]; go_simp; exact hK.out _ _ rfl (Below.refl _ _)
      refine StepsT.cons [(2, some 34, .is (.pointer (some ⟨o, 5, none⟩)))] (by simp only [List.getElem?_toArray, List.getElem?_cons_succ, List.getElem?_cons_zero]; rfl) (by kernel_rfl) (by rfl) (fun wx val iv hB hV K hK => ?_) ?_
      · (obtain ⟨k0, k1, k2⟩ := HC2.out wx hB); clear hV; simp only [putT, List.foldl_cons, List.foldl_nil, Made.val, Act.put, List.setIfInBounds_toArray, List.set_cons_zero, List.set_cons_succ]; go_simp; exact hK.out _ _ rfl (Below.refl _ _)
      refine StepsT.cons [] (by simp only [List.getElem?_toArray, List.getElem?_cons_succ, List.getElem?_cons_zero]; rfl) (by kernel_rfl) (by rfl) (fun wx val iv hB hV K hK => ?_) ?_
      · clear hV; simp only [putT, List.foldl_cons, List.foldl_nil, Made.val, Act.put, List.setIfInBounds_toArray, List.set_cons_zero, List.set_cons_succ]; go_simp; exact hK.out _ _ rfl (Below.refl _ _)
      refine StepsT.cons [(3, some 35, .is (.slice (some ⟨bp, offp, none⟩) n5 d5)), (4, some 36, .is (.int .i64 (wn : Int)))] (by simp only [List.getElem?_toArray, List.getElem?_cons_succ, List.getElem?_cons_zero]; rfl) (by kernel_rfl) (by rfl) (fun wx val iv hB hV K hK => ?_) ?_
      · (obtain ⟨k0, k1, k2⟩ := HC2.out wx hB); clear hV; simp only [putT, List.foldl_cons, List.foldl_nil, Made.val, Act.put, List.setIfInBounds_toArray, List.set_cons_zero, List.set_cons_succ]; go_simp; exact hK.out _ _ rfl (Below.refl _ _)
      refine StepsT.cons [(5, some 37, .is (.pointer (some ⟨bp, offp + wn, none⟩)))] (by simp only [List.getElem?_toArray, List.getElem?_cons_succ, List.getElem?_cons_zero]; rfl) (by kernel_rfl) (by rfl) (fun wx val iv hB hV K hK => ?_) ?_
      · (obtain ⟨k0, k1, k2⟩ := HC2.out wx hB); clear hV; simp only [putT, List.foldl_cons, List.foldl_nil, Made.val, Act.put, List.setIfInBounds_toArray, List.set_cons_zero, List.set_cons_succ]; go_simp; exact hK.out _ _ rfl (Below.refl _ _)
      refine StepsT.cons [] (by simp only [List.getElem?_toArray, List.getElem?_cons_succ, List.getElem?_cons_zero]; rfl) (by kernel_rfl) (by rfl) (fun wx val iv hB hV K hK => ?_) ?_
      · clear hV; simp only [putT, List.foldl_cons, List.foldl_nil, Made.val, Act.put, List.setIfInBounds_toArray, List.set_cons_zero, List.set_cons_succ]; go_simp; exact hK.out _ _ rfl (Below.refl _ _)
      refine StepsT.cons [(7, some 39, .is (.pointer (some ⟨o, 0, none⟩)))] (by simp only [List.getElem?_toArray, List.getElem?_cons_succ, List.getElem?_cons_zero]; rfl) (by kernel_rfl) (by rfl) (fun wx val iv hB hV K hK => ?_) ?_
      · clear hV; simp only [putT, List.foldl_cons, List.foldl_nil, Made.val, Act.put, List.setIfInBounds_toArray, List.set_cons_zero, List.set_cons_succ]; go_simp; exact hK.out _ _ rfl (Below.refl _ _)
      refine StepsT.cons [(8, some 40, .is (.pointer (some ⟨o, 0, none⟩)))] (by simp only [List.getElem?_toArray, List.getElem?_cons_succ, List.getElem?_cons_zero]; rfl) (by kernel_rfl) (by rfl) (fun wx val iv hB hV K hK => ?_) ?_
      · clear hV; simp only [putT, List.foldl_cons, List.foldl_nil, Made.val, Act.put, List.setIfInBounds_toArray, List.set_cons_zero, List.set_cons_succ]; go_simp; exact hK.out _ _ rfl (Below.refl _ _)
      refine StepsT.cons [(9, some 41, .is (.pointer (some ⟨o, 3, none⟩)))] (by simp only [List.getElem?_toArray, List.getElem?_cons_succ, List.getElem?_cons_zero]; rfl) (by kernel_rfl) (by rfl) (fun wx val iv hB hV K hK => ?_) ?_
      · (obtain ⟨k0, k1, k2⟩ := HC2.out wx hB); clear hV; simp only [putT, List.foldl_cons, List.foldl_nil, Made.val, Act.put, List.setIfInBounds_toArray, List.set_cons_zero, List.set_cons_succ]; go_simp; exact hK.out _ _ rfl (Below.refl _ _)
      refine StepsT.cons [(10, some 42, .is (.slice q3 m d3))] (by simp only [List.getElem?_toArray, List.getElem?_cons_succ, List.getElem?_cons_zero]; rfl) (by kernel_rfl) (by rfl) (fun wx val iv hB hV K hK => ?_) ?_
      · (clear hV; simp only [putT, List.foldl_cons, List.foldl_nil, Made.val, Act.put, List.setIfInBounds_toArray, List.set_cons_zero, List.set_cons_succ]; go_simp; go_at_call 80; refine (HPt.out wx hB).mono ?_; rintro e wa ⟨rfl, Ba⟩; exact hK.out _ _ rfl Ba)
      refine StepsT.cons [(6, some 38, .is (.int .i64 y)), (11, some 43, .is (.int .i64 pt))] (by simp only [List.getElem?_toArray, List.getElem?_cons_succ, List.getElem?_cons_zero]; rfl) (by kernel_rfl) (by rfl) (fun wx val iv hB hV K hK => ?_) ?_
      · clear hV; simp only [putT, List.foldl_cons, List.foldl_nil, Made.val, Act.put, List.setIfInBounds_toArray, List.set_cons_zero, List.set_cons_succ]; go_simp; exact hK.out _ _ rfl (Below.refl _ _)
      exact StepsT.nil
    case fin =>
      intro wx val iv BX hV hD
      clear hV hD
      obtain ⟨od1, B1⟩ := Hod1.out
      have od1 := od1.below BX
      obtain ⟨hlo, l, e4, e5, hwe, hwl, hn8⟩ := HL.out
      obtain ⟨hy, hpt⟩ := Hy.out
      have hip : wn < E.points.length := by omega
      obtain ⟨bp', offp', eq5, hcp, hfp, hbpl, hbps, od2⟩ := od1.setPoints hip (x := IntKind.i64.wrap (E.points[wn] + pts E.trick)) (wf_wrap _ _)
      obtain ⟨rfl, rfl⟩ : bp = bp' ∧ offp = offp' := by simpa using eq5
      clear eq5
      rw [← hy, ← hpt] at od2
      have hcp' : wx.cell? ⟨bp, offp + wn, none⟩ = some (.int .i64 y) := by rw [hcp, hy]
      obtain ⟨Y2, hY2⟩ : ∃ Y, Y = wx.setCell ⟨bp, offp + wn, none⟩ (.int .i64 (IntKind.i64.wrap (y + pt))) := ⟨_, rfl⟩
      rw [← hY2] at od2
      have B2 : Below lo w Y2 := by rw [hY2]; exact (B1.trans (BX.mono (Nat.le_trans hlo B1.size))).setCell hbpl _
      have Hod2 := Lib.hid (And.intro od2 B2)
      have HY2 := Lib.hid hY2
      clear hn8 od1 B1 od2 B2 hcp hbpl hbps hy hpt hlo l e4 e5 hwe hwl hY2 BX
      simp only [putT, List.foldl_cons, List.foldl_nil, Made.val, Act.put, List.setIfInBounds_toArray, List.set_cons_zero, List.set_cons_succ]
      refine wpAny_one (i := 13) (by kernel_rfl) (by simp only [List.getElem?_toArray, List.getElem?_cons_succ, List.getElem?_cons_zero]; rfl) (fun K hK => ?_)
      go_simp
      refine hK.out _ _ ?_
      clear hK K
      refine wpAny_one (i := 14) (by kernel_rfl) (by simp only [List.getElem?_toArray, List.getElem?_cons_succ, List.getElem?_cons_zero]; rfl) (fun K hK => ?_)
      go_simp
      refine hK.out _ _ ?_
      clear hK K
      clear hcp' hfp
      refine wpAny_end (by kernel_rfl) ?_
      rw [← HY2.out]
      clear HY2
      obtain ⟨od2, B2⟩ := Hod2.out
      obtain ⟨hlo, l, e4, e5, hwe, hwl, hn8⟩ := HL.out
      have od3 := od2.setLeader (x := (wn : Int)) (WalkArith.wf_i64 (by have := od2.lens; omega))
      have G2 := od2.cells
      have z1 := box_cell G2 1
      have y1 := box_free G2 1
      simp at z1
      obtain ⟨Y3, hY3⟩ : ∃ Y, Y = Y2.setCell ⟨o, 1, none⟩ (.int .i64 (wn : Int)) := ⟨_, rfl⟩
      rw [← hY3] at od3
      have B3 : Below lo w Y3 := by rw [hY3]; exact B2.setCell l.1 _
      have hA : Below Y3.heap.size Y3 (Y3.alloc (.cells #[] 3)) := (Below.refl _ _).alloc (Nat.le_refl _) _
      have od4 := (od3.below hA).noTrick Y3.heap.size
      have G3 := (od3.below hA).cells
      have z3 := box_cell G3 3
      have y3 := box_free G3 3
      simp at z3
      have B4 : Below lo w ((Y3.alloc (.cells #[] 3)).setCell ⟨o, 3, none⟩ (.slice (some ⟨Y3.heap.size, 0, none⟩) 0 0)) := (B3.trans (hA.mono (Nat.le_trans hlo B3.size))).setCell l.1 _
      obtain ⟨hy, hpt⟩ := Hy.out
      have hE : endP E = { { { { E with won := E.won.set wn (wrap64 (x + 1)) } with points := E.points.set wn (IntKind.i64.wrap (y + pt)) } with leader := (wn : Int) } with trick := [] } := by
        have w1 : wn < E.won.length := by omega
        have w2 : wn < E.points.length := by omega
        unfold endP
        rw [hwe, Hx.out, hy, hpt]
        simp [List.getD, w1, w2, wrap_64]
      have HF := Lib.hid (And.intro (Exists.intro (p := fun g => OD lo o _ (endP E) q0 (some ⟨g, 0, none⟩) _ _ d0 0 d4 d5 n 0 n4 n5) Y3.heap.size (by rw [hE]; exact od4)) B4)
      have HY3 := Lib.hid hY3
      clear hn8 od2 B2 od3 G2 B3 hA od4 G3 B4 hy hpt hE hY3 hlo l e4 e5 hwe hwl
      go_upto_region 4 with fail
      rw [← HY3.out]
      clear z1 y1 HY3
      go_wp2_with fail
      exact bodyPost_end (v := .tuple #[]) (by first | rfl | simp [results, go_sem]) rfl ⟨rfl, HF.out⟩
end Go.Proofs.YtbojhbhniollaaaDoor
