/-
  MayPlay by contract, both sides.
-/
import Derived.Test.YtbojhbhniollaaaDoorHas
import Derived.Test.YtbojhbhniollaaaDoorBits
namespace Go.Proofs.YtbojhbhniollaaaDoor
open Go.RowKit

def suitIn (h : List Int) (s : Int) : Bool := decide (∃ x ∈ h, suitOf x = s)
def mayPlay (h t : List Int) (c : Int) : Bool := isHand h && (hasI h c && (match t with | [] => true | x :: _ => decide (suitOf c = suitOf x) || !(suitIn h (suitOf x))))
theorem may_0 {z t : List Int} {c : Int} (h : isHand z = false) : mayPlay z t c = false := by simp [mayPlay, h]
theorem may_1 {z t : List Int} {c : Int} (h : isHand z = true) (h2 : hasI z c = false) : mayPlay z t c = false := by simp [mayPlay, h, h2]
theorem may_2 {z : List Int} {c : Int} (h : isHand z = true) (h2 : hasI z c = true) : mayPlay z [] c = true := by simp [mayPlay, h, h2]
theorem may_3 {z t : List Int} {c x : Int} (h : isHand z = true) (h2 : hasI z c = true) (h3 : suitOf c = suitOf x) : mayPlay z (x :: t) c = true := by simp [mayPlay, h, h2, h3]
theorem may_4 {z t : List Int} {c x : Int} (h : isHand z = true) (h2 : hasI z c = true) (h3 : ¬ suitOf c = suitOf x) : mayPlay z (x :: t) c = !(suitIn z (suitOf x)) := by simp [mayPlay, h, h2, h3]
theorem suitIn_t {z : List Int} {s : Int} {k : Nat} (hk : k < z.length) (h : suitOf z[k] = s) : suitIn z s = true := by
  unfold suitIn; simp only [decide_eq_true_eq]; exact ⟨_, List.getElem_mem hk, h⟩
theorem suitIn_f {z : List Int} {s : Int} (h : ∀ j (hj : j < z.length), suitOf z[j] ≠ s) : suitIn z s = false := by
  unfold suitIn; simp only [decide_eq_false_iff_not]
  rintro ⟨x, hx, e⟩
  obtain ⟨j, hj, rfl⟩ := List.getElem_of_mem hx
  exact h j hj e

set_option maxRecDepth 100000 in
theorem hasSuit_any (v : Value) (zs : List Int) (b : Nat) (s : Int) (w : World) (h : RdAt .i64 w v zs b) (hl : zs.length ≤ 1099511627776) :
    Calls Tryd.prog 78 #[v, .int .i64 s] w fun e w' => e = .returned (.bool (suitIn zs s)) ∧ w = w' := by
  obtain ⟨a, cap, rfl, -, -, hcell⟩ := h
  obtain ⟨n, hn⟩ : ∃ n, n = zs.length := ⟨_, rfl⟩
  have Hn := Lib.hid hn
  rw [← hn] at hl ⊢
  clear hn
  obtain ⟨r, hr⟩ : ∃ r, r = suitIn zs s := ⟨_, rfl⟩
  have Hr := Lib.hid hr
  rw [← hr]
  clear hr
  go_enter Tryd.func78, Tryd.ntmps78
  go_wp2_with fail
  go_loop [9] (fun i => ∃ k : Nat, k ≤ n ∧ i = .int .i64 k ∧ Hid (∀ j (hj : j < zs.length), j < k → suitOf zs[j] ≠ s)) (fun i => n - (intOf i).toNat)
  case atStart => exact ⟨0, Nat.zero_le _, rfl, Lib.hid (fun j _ h => by omega)⟩
  case round =>
    obtain ⟨k, hk, rfl, hno⟩ := hrel
    by_cases hlt : k < n
    · have hz : k < zs.length := by rw [← Hn.out]; exact hlt
      rcases hcell with h0 | ⟨off, rfl, hc⟩
      · subst h0; simp at hz
      obtain ⟨y, hy⟩ : ∃ y, Hid (y = zs[k]) := ⟨_, Lib.hid rfl⟩
      have h1 : w.cell? ⟨b, off + k, none⟩ = some (.int .i64 y) := by rw [hc k hz, hy.out]
      clear hc
      obtain ⟨t, ht⟩ : ∃ t, Hid (suitOf y = t) := ⟨_, Lib.hid rfl⟩
      by_cases hyc : t = s
      · subst hyc
        have hr1 : Hid (r = true) := Lib.hid (by rw [Hr.out]; exact suitIn_t hz (by rw [← hy.out]; exact ht.out))
        go_wp2_with fail
        refine (suitOf_r _ _ _ ht.out).mono ?_
        rintro e _w ⟨rfl, rfl⟩
        go_wp2_with fail
        go_ret
        exact ⟨by rw [hr1.out]; rfl, rfl⟩
      · have hq : (t == s) = false := by simpa using hyc
        have hno2 : Hid (∀ j (hj : j < zs.length), j < k + 1 → suitOf zs[j] ≠ s) := Lib.hid (fun j hj h => by
          by_cases e : j = k
          · subst e; rw [← hy.out, ht.out]; exact hyc
          · exact hno.out j hj (by omega))
        clear hyc
        go_wp2_with fail
        refine (suitOf_r _ _ _ ht.out).mono ?_
        rintro e _w ⟨rfl, rfl⟩
        go_wp2_with fail
        go_round
        case rel => exact ⟨k + 1, by omega, by go_num, hno2⟩
        case measure => simp [intOf]; omega
    · obtain rfl : k = n := by omega
      have hr1 : Hid (r = false) := Lib.hid (by
        rw [Hr.out]
        exact suitIn_f (fun j hj => hno.out j hj (by rw [Hn.out]; exact hj)))
      go_wp2_with fail
      go_ret
      exact ⟨by rw [hr1.out]; rfl, rfl⟩

/-- The two checks that come first, as the walks want them. -/
theorem hid_hand {P : World → World → Prop} {w : World} (h : ∀ w', P w w') : Hid (∀ w', P w w') := Lib.hid h

set_option maxRecDepth 100000 in
set_option maxHeartbeats 1000000 in
theorem mayPlay_any (v : Value) (zs : List Int) (b : Nat) (v2 : Value) (ts : List Int) (b2 : Nat) (c : Int) (w : World) (h : RdAt .i64 w v zs b) (h2 : RdAt .i64 w v2 ts b2) (hl : zs.length ≤ 1099511627776) (hl2 : ts.length ≤ 1099511627776) :
    Calls Tryd.prog 55 #[v, v2, .int .i64 c] w fun e w' => e = .returned (.bool (mayPlay zs ts c)) ∧ Below w.heap.size w w' := by
  have HI0 := isHand_any v zs b w h hl
  have HC0 : ∀ wx, Below w.heap.size w wx → Calls Tryd.prog 76 #[v, .int .i64 c] wx fun e w' => e = .returned (.bool (hasI zs c)) ∧ wx = w' := fun wx hb => hasCard_any v zs b c wx (h.below hb) hl
  obtain ⟨p0, cap0, rfl, -⟩ := id h
  cases e1 : isHand zs with
  | false =>
    have Hr := Lib.hid (may_0 (t := ts) (c := c) e1)
    rw [e1] at HI0
    have HI := Lib.hid HI0
    obtain ⟨p2, cap2, rfl, -⟩ := id h2
    clear e1 HI0 HC0 h h2
    go_enter Tryd.func55, Tryd.ntmps55
    go_wp2_with fail
    refine HI.out.mono ?_
    rintro e w1 ⟨rfl, B⟩
    go_wp2_with fail
    go_ret
    exact ⟨by rw [Hr.out]; rfl, B⟩
  | true =>
    rw [e1] at HI0
    have HI := Lib.hid HI0
    cases e2 : hasI zs c with
    | false =>
      have Hr := Lib.hid (may_1 (t := ts) e1 e2)
      rw [e2] at HC0
      have HC := Lib.hid HC0
      obtain ⟨p2, cap2, rfl, -⟩ := id h2
      clear e1 e2 HI0 HC0 h h2
      go_enter Tryd.func55, Tryd.ntmps55
      go_wp2_with fail
      refine HI.out.mono ?_
      rintro e w1 ⟨rfl, B⟩
      go_wp2_with fail
      refine (HC.out _ B).mono ?_
      rintro e _w ⟨rfl, rfl⟩
      go_wp2_with fail
      go_ret
      exact ⟨by rw [Hr.out]; rfl, B⟩
    | true =>
      rw [e2] at HC0
      have HC := Lib.hid HC0
      rcases h2.open with ⟨rfl, a2, cap2, rfl, -⟩ | ⟨hz2, off2, cap2, rfl, -, hc2⟩
      · have Hr := Lib.hid (may_2 e1 e2)
        clear e1 e2 HI0 HC0 h h2
        go_enter Tryd.func55, Tryd.ntmps55
        go_wp2_with fail
        refine HI.out.mono ?_
        rintro e w1 ⟨rfl, B⟩
        go_wp2_with fail
        refine (HC.out _ B).mono ?_
        rintro e _w ⟨rfl, rfl⟩
        go_wp2_with fail
        go_ret
        exact ⟨by rw [Hr.out]; rfl, B⟩
      · have hlt2 := h2.lt hz2
        have HX : ∀ s, Hid (∀ wx, Below w.heap.size w wx → Calls Tryd.prog 78 #[.slice p0 zs.length cap0, .int .i64 s] wx fun e w' => e = .returned (.bool (suitIn zs s)) ∧ wx = w') := fun s => Lib.hid (fun wx hb => hasSuit_any _ zs b s wx (h.below hb) hl)
        cases ts with
        | nil => exact absurd rfl hz2
        | cons x ts' =>
        have hx0 := hc2 0 (by simp)
        have Hx0 : Hid (∀ wx, Below w.heap.size w wx → wx.cell? ⟨b2, off2, none⟩ = some (.int .i64 x)) := Lib.hid (fun wx hb => by rw [World.cell?_of_block (w := w) (a := ⟨b2, off2, none⟩) (hb.block _ hlt2)]; simpa using hx0)
        obtain ⟨n2, hn2⟩ : ∃ n2, n2 = (x :: ts').length := ⟨_, rfl⟩
        have hn0 : 0 < n2 := by rw [hn2]; simp
        have hq0 : ((n2 : Int) == 0) = false := by simp; omega
        rw [← hn2] at hl2 ⊢
        obtain ⟨s, hs⟩ : ∃ s, suitOf c = s := ⟨_, rfl⟩
        obtain ⟨t, ht⟩ : ∃ t, suitOf x = t := ⟨_, rfl⟩
        have Hs := Lib.hid hs
        have Ht := Lib.hid ht
        by_cases hst : suitOf c = suitOf x
        · have Hr := Lib.hid (may_3 (t := ts') e1 e2 hst)
          have hst2 : s = t := by rw [← hs, ← ht]; exact hst
          clear e1 e2 HI0 HC0 h h2 hn2 hx0 hc2 hst hs ht HX hz2 hlt2
          subst hst2
          go_enter Tryd.func55, Tryd.ntmps55
          go_wp2_with fail
          refine HI.out.mono ?_
          rintro e w1 ⟨rfl, B⟩
          have hcell := Hx0.out _ B
          go_wp2_with fail
          refine (HC.out _ B).mono ?_
          rintro e _w ⟨rfl, rfl⟩
          go_wp2_with fail
          refine (suitOf_r _ _ _ Ht.out).mono ?_
          rintro e _w ⟨rfl, rfl⟩
          go_wp2_with fail
          refine (suitOf_r _ _ _ Hs.out).mono ?_
          rintro e _w ⟨rfl, rfl⟩
          go_wp2_with fail
          go_ret
          exact ⟨by rw [Hr.out]; rfl, B⟩
        · have Hr := Lib.hid (may_4 (t := ts') e1 e2 hst)
          have hst2 : (s == t) = false := by simp; rw [← hs, ← ht]; exact hst
          rw [ht] at Hr
          have HX := HX t
          obtain ⟨q, hq⟩ : ∃ q, q = suitIn zs t := ⟨_, rfl⟩
          rw [← hq] at HX Hr
          clear e1 e2 HI0 HC0 h h2 hn2 hx0 hc2 hst hs ht hz2 hlt2 hq
          go_enter Tryd.func55, Tryd.ntmps55
          go_wp2_with fail
          refine HI.out.mono ?_
          rintro e w1 ⟨rfl, B⟩
          have hcell := Hx0.out _ B
          go_wp2_with fail
          refine (HC.out _ B).mono ?_
          rintro e _w ⟨rfl, rfl⟩
          go_wp2_with fail
          refine (suitOf_r _ _ _ Ht.out).mono ?_
          rintro e _w ⟨rfl, rfl⟩
          go_wp2_with fail
          refine (suitOf_r _ _ _ Hs.out).mono ?_
          rintro e _w ⟨rfl, rfl⟩
          go_wp2_with fail
          refine (HX.out _ B).mono ?_
          rintro e _w ⟨rfl, rfl⟩
          go_wp2_with fail
          go_ret
          exact ⟨by rw [Hr.out]; rfl, B⟩

set_option maxRecDepth 100000 in
set_option maxHeartbeats 4000000 in
theorem sMayPlay_any (v : Value) (zs : List Int) (b : Nat) (v2 : Value) (ts : List Int) (b2 : Nat) (c : Int) (w : World) (h : RdAt .i64 w v zs b) (h2 : RdAt .i64 w v2 ts b2) (hl : zs.length ≤ 1099511627776) (hl2 : ts.length ≤ 1099511627776) :
    Calls Tryd.prog 50 #[v, v2, .int .i64 c] w fun e w' => e = .returned (.bool (mayPlay zs ts c)) ∧ Below w.heap.size w w' := by
  have HI0 := sIsHand_any v zs b w h hl
  have HC0 : ∀ wx, Below w.heap.size w wx → Calls Tryd.prog 69 #[v, .int .i64 c] wx fun e w' => e = .returned (.bool (hasI zs c)) ∧ wx = w' := fun wx hb => sHasCard_any v zs b c wx (h.below hb) hl
  have hwf := h.wf
  obtain ⟨p0, cap0, rfl, -, -, hcell0⟩ := id h
  cases e1 : isHand zs with
  | false =>
    have Hr := Lib.hid (may_0 (t := ts) (c := c) e1)
    rw [e1] at HI0
    have HI := Lib.hid HI0
    obtain ⟨p2, cap2, rfl, -⟩ := id h2
    clear e1 HI0 HC0 h h2
    go_enter Tryd.func50, Tryd.ntmps50
    go_wp2_with fail
    refine HI.out.mono ?_
    rintro e w1 ⟨rfl, B⟩
    go_wp2_with fail
    go_ret
    exact ⟨by rw [Hr.out]; rfl, B⟩
  | true =>
    rw [e1] at HI0
    have HI := Lib.hid HI0
    cases e2 : hasI zs c with
    | false =>
      have Hr := Lib.hid (may_1 (t := ts) e1 e2)
      rw [e2] at HC0
      have HC := Lib.hid HC0
      obtain ⟨p2, cap2, rfl, -⟩ := id h2
      clear e1 e2 HI0 HC0 h h2
      go_enter Tryd.func50, Tryd.ntmps50
      go_wp2_with fail
      refine HI.out.mono ?_
      rintro e w1 ⟨rfl, B⟩
      go_wp2_with fail
      refine (HC.out _ B).mono ?_
      rintro e _w ⟨rfl, rfl⟩
      go_wp2_with fail
      go_ret
      exact ⟨by rw [Hr.out]; rfl, B⟩
    | true =>
      rw [e2] at HC0
      have HC := Lib.hid HC0
      rcases h2.open with ⟨rfl, a2, cap2, rfl, -⟩ | ⟨hz2, off2, cap2, rfl, -, hc2⟩
      · have Hr := Lib.hid (may_2 e1 e2)
        clear e1 e2 HI0 HC0 h h2
        go_enter Tryd.func50, Tryd.ntmps50
        go_wp2_with fail
        refine HI.out.mono ?_
        rintro e w1 ⟨rfl, B⟩
        go_wp2_with fail
        refine (HC.out _ B).mono ?_
        rintro e _w ⟨rfl, rfl⟩
        go_wp2_with fail
        go_quiet (fail)
        go_wp2_with fail
        go_ret
        exact ⟨by rw [Hr.out]; rfl, below_drewN B _⟩
      · have hlt2 := h2.lt hz2
        have Hlt : Hid (zs ≠ [] → b < w.heap.size) := Lib.hid h.lt
        cases ts with
        | nil => exact absurd rfl hz2
        | cons x ts' =>
        have hx0 := hc2 0 (by simp)
        have Hx0 : Hid (∀ wx, Below w.heap.size w wx → wx.cell? ⟨b2, off2, none⟩ = some (.int .i64 x)) := Lib.hid (fun wx hb => by rw [World.cell?_of_block (w := w) (a := ⟨b2, off2, none⟩) (hb.block _ hlt2)]; simpa using hx0)
        obtain ⟨n2, hn2⟩ : ∃ n2, n2 = (x :: ts').length := ⟨_, rfl⟩
        have hn0 : 0 < n2 := by rw [hn2]; simp
        have hq0 : ((n2 : Int) == 0) = false := by simp; omega
        rw [← hn2] at hl2 ⊢
        obtain ⟨s, hs⟩ : ∃ s, suitOf c = s := ⟨_, rfl⟩
        obtain ⟨t, ht⟩ : ∃ t, suitOf x = t := ⟨_, rfl⟩
        have Hs := Lib.hid hs
        have Ht := Lib.hid ht
        by_cases hst : suitOf c = suitOf x
        · have Hr := Lib.hid (may_3 (t := ts') e1 e2 hst)
          have hst2 : s = t := by rw [← hs, ← ht]; exact hst
          clear e1 e2 HI0 HC0 h h2 hn2 hx0 hc2 hst hs ht hz2 hlt2
          subst hst2
          go_enter Tryd.func50, Tryd.ntmps50
          go_wp2_with fail
          refine HI.out.mono ?_
          rintro e w1 ⟨rfl, B⟩
          have hcell := Hx0.out _ B
          go_wp2_with fail
          refine (HC.out _ B).mono ?_
          rintro e _w ⟨rfl, rfl⟩
          go_wp2_with fail
          go_quiet (first | (go_at_call 70; exact Calls.quiet_of_same (flip_same (sSuitOf_r _ _ _ Hs.out) rfl)) | (go_at_call 70; exact Calls.quiet_of_same (flip_same (sSuitOf_r _ _ _ Ht.out) rfl)))
          go_wp2_with fail
          go_ret
          exact ⟨by rw [Hr.out]; rfl, below_drewN B _⟩
        · have Hr := Lib.hid (may_4 (t := ts') e1 e2 hst)
          have hst2 : (s == t) = false := by simp; rw [← hs, ← ht]; exact hst
          rw [ht] at Hr
          obtain ⟨r, hr⟩ : ∃ r, r = mayPlay zs (x :: ts') c := ⟨_, rfl⟩
          rw [← hr] at Hr ⊢
          obtain ⟨n, hn⟩ : ∃ n, n = zs.length := ⟨_, rfl⟩
          have Hn := Lib.hid hn
          rw [← hn] at hl HI HC ⊢
          clear e1 e2 HI0 HC0 h h2 hn2 hx0 hc2 hst hs ht hz2 hlt2 hr hn
          go_enter Tryd.func50, Tryd.ntmps50
          go_wp2_with fail
          refine HI.out.mono ?_
          rintro e w1 ⟨rfl, B⟩
          have hcell := Hx0.out _ B
          go_wp2_with fail
          refine (HC.out _ B).mono ?_
          rintro e _w ⟨rfl, rfl⟩
          go_wp2_with fail
          go_quiet (first | (go_at_call 70; exact Calls.quiet_of_same (flip_same (sSuitOf_r _ _ _ Hs.out) rfl)) | (go_at_call 70; exact Calls.quiet_of_same (flip_same (sSuitOf_r _ _ _ Ht.out) rfl)))
          clear HI HC hcell
          go_wp2_with fail
          go_loopw [7] (fun i wr => ∃ k : Nat, k ≤ n ∧ i = .int .i64 k ∧ Hid (∀ j (hj : j < zs.length), j < k → suitOf zs[j] ≠ t) ∧ Below w.heap.size w wr) (fun i _ => n - (intOf i).toNat)
          case atStart => exact ⟨0, Nat.zero_le _, rfl, Lib.hid (fun j _ h => by omega), below_drewN B _⟩
          case round =>
            clear B
            obtain ⟨k, hk, rfl, hno, B⟩ := hrel
            have hcell := Hx0.out _ B
            by_cases hlt : k < n
            · have hz : k < zs.length := by rw [← Hn.out]; exact hlt
              rcases hcell0 with h0 | ⟨off, rfl, hc⟩
              · subst h0; simp at hz
              obtain ⟨y, hy⟩ : ∃ y, Hid (y = zs[k]) := ⟨_, Lib.hid rfl⟩
              have h1 : wr.cell? ⟨b, off + k, none⟩ = some (.int .i64 y) := by
                rw [World.cell?_of_block (w := w) (a := ⟨b, off + k, none⟩) (B.block _ (Hlt.out (fun e => by rw [e] at hz; simp at hz))), hc k hz, hy.out]
              clear hc
              obtain ⟨u, hu⟩ : ∃ u, Hid (suitOf y = u) := ⟨_, Lib.hid rfl⟩
              by_cases hyc : u = t
              · subst hyc
                have hr1 : Hid (r = false) := Lib.hid (by rw [Hr.out, suitIn_t hz (by rw [← hy.out]; exact hu.out)]; rfl)
                go_wp2_with fail
                go_quiet (first | (go_at_call 70; exact Calls.quiet_of_same (flip_same (sSuitOf_r _ _ _ hu.out) rfl)) | (go_at_call 70; exact Calls.quiet_of_same (flip_same (sSuitOf_r _ _ _ Ht.out) rfl)))
                go_wp2_with fail
                go_ret
                exact ⟨by rw [hr1.out]; rfl, below_drewN B _⟩
              · have hq : (u == t) = false := by simpa using hyc
                have hno2 : Hid (∀ j (hj : j < zs.length), j < k + 1 → suitOf zs[j] ≠ t) := Lib.hid (fun j hj h => by
                  by_cases e : j = k
                  · subst e; rw [← hy.out, hu.out]; exact hyc
                  · exact hno.out j hj (by omega))
                clear hyc
                go_wp2_with fail
                go_quiet (first | (go_at_call 70; exact Calls.quiet_of_same (flip_same (sSuitOf_r _ _ _ hu.out) rfl)) | (go_at_call 70; exact Calls.quiet_of_same (flip_same (sSuitOf_r _ _ _ Ht.out) rfl)))
                go_wp2_with fail
                go_roundw
                case rel => exact ⟨k + 1, by omega, by go_num, hno2, below_drewN B _⟩
                case measure => simp [intOf]; omega
            · obtain rfl : k = n := by omega
              have hr1 : Hid (r = true) := Lib.hid (by
                rw [Hr.out, suitIn_f (fun j hj => hno.out j hj (by rw [Hn.out]; exact hj))]; rfl)
              go_wp2_with fail
              go_ret
              exact ⟨by rw [hr1.out]; rfl, B⟩
end Go.Proofs.YtbojhbhniollaaaDoor
