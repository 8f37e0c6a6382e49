/-
  IsFollowed by contract, both sides.
-/
import Derived.Test.YtfajdbfpacmclaaDoorMay
import Derived.Test.YtfajdbfpacmclaaDoorIntRows
import Derived.Test.YtfajdbfpacmclaaDoorArith
import Derived.Test.YtfajdbfpacmclaaDoorTake
import Derived.Deep.RegionHeld3
namespace Go.Proofs.YtfajdbfpacmclaaDoor
open Go.RowKit

/-- May the k-th of the trick be played? -/
def folB (hss : List (List Int)) (trick : List Int) (l k : Nat) : Bool := mayPlay (hss.getD ((l + k) % hss.length) []) (trick.take k) (trick.getD k 0)
def folAll (hss : List (List Int)) (trick : List Int) (l : Nat) : Bool := decide (∀ k, k < trick.length → folB hss trick l k = true)
def followed (hss : List (List Int)) (trick : List Int) (l : Int) : Bool := decide (hss.length = trick.length) && (decide (0 ≤ l ∧ l ≤ (hss.length : Int) - 1) && folAll hss trick l.toNat)
theorem fol_no {hss : List (List Int)} {trick : List Int} {l k : Nat} (hk : k < trick.length) (h : folB hss trick l k = false) : folAll hss trick l = false := by
  unfold folAll
  simp only [decide_eq_false_iff_not]
  intro ha
  have := ha k hk
  rw [h] at this; cases this
theorem fol_yes {hss : List (List Int)} {trick : List Int} {l : Nat} (h : ∀ k, k < trick.length → folB hss trick l k = true) : folAll hss trick l = true := by unfold folAll; simpa using h
theorem followed_0 {hss : List (List Int)} {trick : List Int} {l : Int} (h : ¬ hss.length = trick.length) : followed hss trick l = false := by unfold followed; rw [decide_eq_false h]; rfl
theorem followed_1 {hss : List (List Int)} {trick : List Int} {l : Int} (h : ¬ (0 ≤ l ∧ l ≤ (hss.length : Int) - 1)) : followed hss trick l = false := by unfold followed; rw [decide_eq_false h]; simp
theorem followed_2 {hss : List (List Int)} {trick : List Int} {l : Nat} (h : hss.length = trick.length) (h2 : l < hss.length) : followed hss trick l = folAll hss trick l := by
  unfold followed; rw [decide_eq_true h, decide_eq_true (by omega)]; simp

set_option maxRecDepth 100000 in
set_option maxHeartbeats 4000000 in
theorem followed_any (a0 a1 : Addr) (v : Value) (hss : List (List Int)) (v2 : Value) (trick : List Int) (b2 : Nat) (l : Int) (w : World) (h : RdRows .i64 w v hss) (hl : hss.length ≤ 1048576) (hl2 : sumLen hss ≤ 1048576)
    (h2 : RdAt .i64 w v2 trick b2) (_ht : trick.length ≤ 1048576) (hS : Sent a0 a1 w) :
    Calls Tryd.prog 21 #[v, v2, .int .i64 l] w fun e w' => e = .returned (.bool (followed hss trick l)) ∧ Below w.heap.size w w' := by
  have hrow := fun wx (hb : Below w.heap.size w wx) j (hj : j < hss.length) => (h.below hb).row hj
  have hwf2 := h2.wf
  obtain ⟨a, cap, rfl, -, -⟩ := id h
  obtain ⟨p2, cap2, rfl, hcp2, -, hcell2⟩ := id h2
  by_cases hne : hss.length = trick.length
  · by_cases hr : 0 ≤ l ∧ l ≤ (hss.length : Int) - 1
    · obtain ⟨ld, rfl⟩ := Int.eq_ofNat_of_zero_le hr.1
      have hld : ld < hss.length := by omega
      have Hr := Lib.hid (followed_2 (trick := trick) hne hld)
      obtain ⟨r, hrr⟩ : ∃ r, r = folAll hss trick ld := ⟨_, rfl⟩
      rw [← hrr] at Hr
      have Hrr := Lib.hid hrr
      obtain ⟨n, hn⟩ : ∃ n, n = hss.length := ⟨_, rfl⟩
      have hn2 : n = trick.length := by rw [hn]; exact hne
      have Hn := Lib.hid hn
      have Hn2 := Lib.hid hn2
      have HI : Hid (true = decide ((0 : Int) ≤ (ld : Int) ∧ (ld : Int) ≤ (n : Int) - 1)) := Lib.hid (by simp; omega)
      have Hsum : Hid (∀ j (hj : j < hss.length), hss[j].length ≤ 1048576) := Lib.hid (fun j hj => Nat.le_trans (len_le_sum hss hj) hl2)
      have Hrow := Lib.hid hrow
      have Hlt : Hid (trick ≠ [] → b2 < w.heap.size) := Lib.hid h2.lt
      have Hcp := Lib.hid (show trick.length ≤ cap2 ∧ cap2 ≤ maxLen from ⟨hcp2.1, hcp2.2.1⟩)
      have hcp3 : n ≤ cap2 := by omega
      have hcp4 : cap2 ≤ 9223372036854775807 := by have := hcp2.2.1; unfold maxLen at this; omega
      have hSB : Hid (∀ wx, Below w.heap.size w wx → Sent a0 a1 wx) := Lib.hid (fun wx hb => hS.below hb (Nat.le_refl _))
      rw [← hn2]
      rw [← hn] at hl hld ⊢
      clear hne hr hrr hn hn2 hrow h h2 hl2 hcp2 hS
      go_enter Tryd.func21, Tryd.ntmps21
      go_wp2_with fail
      refine (inRangeB_any _ _ _ _ true HI.out).mono ?_
      rintro e _w ⟨rfl, rfl⟩
      go_wp2_with fail
      go_loopw [8, 9, 25] (fun _ _ i wr => ∃ k : Nat, k ≤ n ∧ i = .int .i64 k ∧ Hid (∀ j, j < k → folB hss trick ld j = true) ∧ Below w.heap.size w wr) (fun _ _ i _ => n - (intOf i).toNat)
      case atStart => exact ⟨0, Nat.zero_le _, rfl, Lib.hid (fun j h => by omega), Below.refl _ _⟩
      case round =>
        obtain ⟨k, hk, rfl, hok, B⟩ := hrel
        by_cases hlt : k < n
        · have hz : k < trick.length := by rw [← Hn2.out]; exact hlt
          rcases hcell2 with h0 | ⟨off2, rfl, hc2⟩
          · subst h0; simp at hz
          obtain ⟨x, hx⟩ : ∃ x, x = trick.getD k 0 := ⟨_, rfl⟩
          have hb2 := Hlt.out (fun e => by rw [e] at hz; simp at hz)
          have h1 : wr.cell? ⟨b2, off2 + k, none⟩ = some (.int .i64 x) := by
            rw [World.cell?_of_block (w := w) (a := ⟨b2, off2 + k, none⟩) (B.block _ hb2), hc2 k hz, hx]; simp [List.getD, hz]
          obtain ⟨m, hm⟩ : ∃ m, m = (ld + k) % n := ⟨_, rfl⟩
          have hmn : m < n := by rw [hm]; exact Nat.mod_lt _ (by omega)
          have hmz : m < hss.length := by rw [← Hn.out]; exact hmn
          have hmod : Hid (modI ((ld : Int) + (k : Int)) (n : Int) = (m : Int)) := Lib.hid (by
            unfold modI
            rw [if_pos (by omega), hm]; simp)
          have hrd2 : ∀ wx, Below w.heap.size w wx → RdAt .i64 wx (.slice (some ⟨b2, off2, none⟩) k cap2) (trick.take k) b2 := fun wx hb => RdAt.take Hcp.out hwf2 (fun j hj => by rw [World.cell?_of_block (w := w) (a := ⟨b2, off2 + j, none⟩) (hb.block _ hb2)]; exact hc2 j hj) k (by omega)
          have hlk : (trick.take k).length ≤ 1099511627776 := by rw [List.length_take]; omega
          have hml := Hsum.out m hmz
          obtain ⟨blk, off, cap', p, c, bb, hv, hc, hr, -⟩ := Hrow.out w (Below.refl _ _) m hmz
          have hvv := (Value.slice.inj hv).1
          clear hv
          subst hvv
          have HcR : Hid (∀ wx, Below w.heap.size w wx → wx.cell? ⟨blk, off + m, none⟩ = some (.slice p (hss[m]'hmz).length c)) := Lib.hid (fun wx hb => by rw [hb.cell (p := ⟨blk, off + m, none⟩) (World.block_lt_of_cell? _ _ hc)]; exact hc)
          have HM : Hid (∀ wx, Below w.heap.size w wx → Calls Tryd.prog 37 #[.slice p (hss[m]'hmz).length c, .slice (some ⟨b2, off2, none⟩) k cap2, .int .i64 x] wx fun e w' => e = .returned (.bool (folB hss trick ld k)) ∧ Below wx.heap.size wx w') := Lib.hid (fun wx hb => by
            have := mayPlay_any _ _ bb _ _ b2 x wx (hr.below hb) (hrd2 wx hb) (by omega) hlk
            have e : folB hss trick ld k = mayPlay (hss[m]'hmz) (trick.take k) x := by unfold folB; rw [← Hn.out, ← hm, ← hx]; simp [List.getD, hmz]
            rw [e]; exact this)
          obtain ⟨lm, hlm⟩ : ∃ lm, lm = (hss[m]'hmz).length := ⟨_, rfl⟩
          rw [← hlm] at HcR HM
          have HMo := Lib.hid (fun wx (hb : Below w.heap.size w wx) => mod_any a0 a1 ((ld : Int) + (k : Int)) (n : Int) wx (WalkArith.wf_i64 (by omega)) (hSB.out wx hb))
          have hc3 := HcR.out wr B
          have HB := Lib.hid B
          have hlk2 : (ld : Int) + (k : Int) ≤ 2097152 := by omega
          have gw : IntKind.i64.wrap ((ld : Int) + (k : Int)) = (ld : Int) + (k : Int) := by rw [IntKind.wrap_i64]; omega
          have g1 : (0 : Int) ≤ (m : Int) := by omega
          have g2 : (m : Int) < (n : Int) := by omega
          have g3 : (0 : Int) ≤ (k : Int) := by omega
          have g4 : (k : Int) ≤ (cap2 : Int) := by omega
          have g5 : k ≤ cap2 := by omega
          cases hfb : folB hss trick ld k with
          | true =>
            rw [hfb] at HM
            have hok2 : Hid (∀ j, j < k + 1 → folB hss trick ld j = true) := Lib.hid (fun j hj => by
              by_cases e : j = k
              · subst e; exact hfb
              · exact hok.out j (by omega))
            clear hr hc hml hlk hlm hm hx hfb hz hmz hc2 B
            go_wp2_with fail
            go_region_held3 (fun w' => w'.cell? ⟨blk, off + m, none⟩ = some (.slice p lm c)) (go_keep) (first
              | (go_at_call 38; refine (HMo.out _ (by first | exact HB.out.drew | exact HB.out)).mono ?_; rintro e w3 ⟨rfl, rfl⟩; rw [hmod.out])
              | (go_at_call 37; refine (HM.out _ HB.out.drew).mono ?_; rintro e w4 ⟨rfl, B4⟩; have hc4 := HcR.out _ (HB.out.drew.trans (B4.mono HB.out.drew.size))))
            all_goals
              have B := HB.out.drew.trans (B4.mono HB.out.drew.size)
              clear B4
              go_wp2_with fail
              go_roundw
              case rel => exact ⟨k + 1, by omega, by go_num, hok2, B⟩
              case measure => simp [intOf]; omega
          | false =>
            rw [hfb] at HM
            have hr1 : Hid (r = false) := Lib.hid (by rw [Hrr.out]; exact fol_no hz hfb)
            clear hr hc hml hlk hlm hm hx hfb hz hmz hc2 B
            go_wp2_with fail
            go_region_held3 (fun w' => w'.cell? ⟨blk, off + m, none⟩ = some (.slice p lm c)) (go_keep) (first
              | (go_at_call 38; refine (HMo.out _ (by first | exact HB.out.drew | exact HB.out)).mono ?_; rintro e w3 ⟨rfl, rfl⟩; rw [hmod.out])
              | (go_at_call 37; refine (HM.out _ HB.out.drew).mono ?_; rintro e w4 ⟨rfl, B4⟩; have hc4 := HcR.out _ (HB.out.drew.trans (B4.mono HB.out.drew.size))))
            all_goals
              have B := HB.out.drew.trans (B4.mono HB.out.drew.size)
              clear B4
              go_wp2_with fail
              go_ret
              exact ⟨by rw [Hr.out, hr1.out]; rfl, B⟩
        · obtain rfl : k = n := by omega
          have hr1 : Hid (r = true) := Lib.hid (by rw [Hrr.out]; exact fol_yes (fun j hj => hok.out j (by rw [Hn2.out]; exact hj)))
          go_wp2_with fail
          go_ret
          exact ⟨by rw [Hr.out, hr1.out]; rfl, B⟩
    · have Hr := Lib.hid (followed_1 (trick := trick) hr)
      have HI : Hid (false = decide ((0 : Int) ≤ l ∧ l ≤ (hss.length : Int) - 1)) := Lib.hid (by simp; omega)
      rw [← hne]
      clear hne hr hrow h h2 hS hcell2
      go_enter Tryd.func21, Tryd.ntmps21
      go_wp2_with fail
      refine (inRangeB_any _ _ _ _ false HI.out).mono ?_
      rintro e _w ⟨rfl, rfl⟩
      go_wp2_with fail
      go_ret
      exact ⟨by rw [Hr.out]; rfl, Below.refl _ _⟩
  · have Hr := Lib.hid (followed_0 (l := l) hne)
    have hq : ((trick.length : Int) != (hss.length : Int)) = true := by simp; omega
    clear hrow h h2 hS hcell2
    go_enter Tryd.func21, Tryd.ntmps21
    go_wp2_with fail
    go_ret
    exact ⟨by rw [Hr.out]; rfl, Below.refl _ _⟩
theorem inF_any (n lo hi : Int) (w : World) (r : Bool) (hr : r = decide (lo ≤ n ∧ n ≤ hi)) :
    Calls Tryd.prog 34 #[.int .i64 n, .int .i64 lo, .int .i64 hi] w fun e w' => e = .returned (.bool r) ∧ w = w' := by
  by_cases h0 : lo ≤ n
  · by_cases h1 : n ≤ hi
    · have e : r = true := by rw [hr]; simp; omega
      subst e; clear hr
      go_enter Tryd.func34, Tryd.ntmps34
      go_wp2
      go_ret
      exact ⟨rfl, rfl⟩
    · have e : r = false := by rw [hr]; simp; omega
      have hd : decide (n ≤ hi) = false := by simp; omega
      subst e; clear hr
      go_enter Tryd.func34, Tryd.ntmps34
      go_wp2
      go_ret
      exact ⟨rfl, rfl⟩
  · have e : r = false := by rw [hr]; simp; omega
    subst e; clear hr
    go_enter Tryd.func34, Tryd.ntmps34
    go_wp2
    go_ret
    exact ⟨rfl, rfl⟩

set_option maxRecDepth 100000 in
set_option maxHeartbeats 4000000 in
theorem sFollowed_any (v : Value) (hss : List (List Int)) (v2 : Value) (trick : List Int) (b2 : Nat) (l : Int) (w : World) (h : RdRows .i64 w v hss) (hl : hss.length ≤ 1048576) (hl2 : sumLen hss ≤ 1048576)
    (h2 : RdAt .i64 w v2 trick b2) (_ht : trick.length ≤ 1048576) :
    Calls Tryd.prog 18 #[v, v2, .int .i64 l] w fun e w' => e = .returned (.bool (followed hss trick l)) ∧ Below w.heap.size w w' := by
  have hrow := fun wx (hb : Below w.heap.size w wx) j (hj : j < hss.length) => (h.below hb).row hj
  have hwf2 := h2.wf
  obtain ⟨a, cap, rfl, -, -⟩ := id h
  obtain ⟨p2, cap2, rfl, hcp2, -, hcell2⟩ := id h2
  by_cases hne : hss.length = trick.length
  · by_cases hr : 0 ≤ l ∧ l ≤ (hss.length : Int) - 1
    · obtain ⟨ld, rfl⟩ := Int.eq_ofNat_of_zero_le hr.1
      have hld : ld < hss.length := by omega
      have Hr := Lib.hid (followed_2 (trick := trick) hne hld)
      obtain ⟨r, hrr⟩ : ∃ r, r = folAll hss trick ld := ⟨_, rfl⟩
      rw [← hrr] at Hr
      have Hrr := Lib.hid hrr
      obtain ⟨n, hn⟩ : ∃ n, n = hss.length := ⟨_, rfl⟩
      have hn2 : n = trick.length := by rw [hn]; exact hne
      have Hn := Lib.hid hn
      have Hn2 := Lib.hid hn2
      have HI : Hid (true = decide ((0 : Int) ≤ (ld : Int) ∧ (ld : Int) ≤ (n : Int) - 1)) := Lib.hid (by simp; omega)
      have Hsum : Hid (∀ j (hj : j < hss.length), hss[j].length ≤ 1048576) := Lib.hid (fun j hj => Nat.le_trans (len_le_sum hss hj) hl2)
      have Hrow := Lib.hid hrow
      have Hlt : Hid (trick ≠ [] → b2 < w.heap.size) := Lib.hid h2.lt
      have Hcp := Lib.hid (show trick.length ≤ cap2 ∧ cap2 ≤ maxLen from ⟨hcp2.1, hcp2.2.1⟩)
      have hcp3 : n ≤ cap2 := by omega
      have hcp4 : cap2 ≤ 9223372036854775807 := by have := hcp2.2.1; unfold maxLen at this; omega
      rw [← hn2]
      rw [← hn] at hl hld ⊢
      clear hne hr hrr hn hn2 hrow h h2 hl2 hcp2
      go_enter Tryd.func18, Tryd.ntmps18
      go_wp2_with fail
      refine (inF_any _ _ _ _ true HI.out).mono ?_
      rintro e _w ⟨rfl, rfl⟩
      go_wp2_with fail
      go_loopw [7] (fun i wr => ∃ k : Nat, k ≤ n ∧ i = .int .i64 k ∧ Hid (∀ j, j < k → folB hss trick ld j = true) ∧ Below w.heap.size w wr) (fun i _ => n - (intOf i).toNat)
      case atStart => exact ⟨0, Nat.zero_le _, rfl, Lib.hid (fun j h => by omega), Below.refl _ _⟩
      case round =>
        obtain ⟨k, hk, rfl, hok, B⟩ := hrel
        by_cases hlt : k < n
        · have hz : k < trick.length := by rw [← Hn2.out]; exact hlt
          rcases hcell2 with h0 | ⟨off2, rfl, hc2⟩
          · subst h0; simp at hz
          obtain ⟨x, hx⟩ : ∃ x, x = trick.getD k 0 := ⟨_, rfl⟩
          have hb2 := Hlt.out (fun e => by rw [e] at hz; simp at hz)
          have h1 : wr.cell? ⟨b2, off2 + k, none⟩ = some (.int .i64 x) := by
            rw [World.cell?_of_block (w := w) (a := ⟨b2, off2 + k, none⟩) (B.block _ hb2), hc2 k hz, hx]; simp [List.getD, hz]
          have HcX : Hid (∀ wx, Below w.heap.size w wx → wx.cell? ⟨b2, off2 + k, none⟩ = some (.int .i64 x)) := Lib.hid (fun wx hb => by rw [World.cell?_of_block (w := w) (a := ⟨b2, off2 + k, none⟩) (hb.block _ hb2), hc2 k hz, hx]; simp [List.getD, hz])
          obtain ⟨m, hm⟩ : ∃ m, m = (ld + k) % n := ⟨_, rfl⟩
          have hmn : m < n := by rw [hm]; exact Nat.mod_lt _ (by omega)
          have hmz : m < hss.length := by rw [← Hn.out]; exact hmn
          have hrem : ((ld : Int) + (k : Int)).tmod (n : Int) = (m : Int) := by rw [Int.tmod_eq_emod_of_nonneg (by omega), hm]; simp
          have hrem2 : ((ld : Int) + (k : Int)) % (n : Int) = (m : Int) := by rw [hm]; simp
          have hrd2 : ∀ wx, Below w.heap.size w wx → RdAt .i64 wx (.slice (some ⟨b2, off2, none⟩) k cap2) (trick.take k) b2 := fun wx hb => RdAt.take Hcp.out hwf2 (fun j hj => by rw [World.cell?_of_block (w := w) (a := ⟨b2, off2 + j, none⟩) (hb.block _ hb2)]; exact hc2 j hj) k (by omega)
          have hlk : (trick.take k).length ≤ 1099511627776 := by rw [List.length_take]; omega
          have hml := Hsum.out m hmz
          obtain ⟨blk, off, cap', p, c, bb, hv, hc, hr, -⟩ := Hrow.out w (Below.refl _ _) m hmz
          have hvv := (Value.slice.inj hv).1
          clear hv
          subst hvv
          have HcR : Hid (∀ wx, Below w.heap.size w wx → wx.cell? ⟨blk, off + m, none⟩ = some (.slice p (hss[m]'hmz).length c)) := Lib.hid (fun wx hb => by rw [hb.cell (p := ⟨blk, off + m, none⟩) (World.block_lt_of_cell? _ _ hc)]; exact hc)
          have HM : Hid (∀ wx, Below w.heap.size w wx → Calls Tryd.prog 35 #[.slice p (hss[m]'hmz).length c, .slice (some ⟨b2, off2, none⟩) k cap2, .int .i64 x] wx fun e w' => e = .returned (.bool (folB hss trick ld k)) ∧ Below wx.heap.size wx w') := Lib.hid (fun wx hb => by
            have := sMayPlay_any _ _ bb _ _ b2 x wx (hr.below hb) (hrd2 wx hb) (by omega) hlk
            have e : folB hss trick ld k = mayPlay (hss[m]'hmz) (trick.take k) x := by unfold folB; rw [← Hn.out, ← hm, ← hx]; simp [List.getD, hmz]
            rw [e]; exact this)
          obtain ⟨lm, hlm⟩ : ∃ lm, lm = (hss[m]'hmz).length := ⟨_, rfl⟩
          rw [← hlm] at HcR HM
          have hc3 := HcR.out wr B
          have HB := Lib.hid B
          have hlk2 : (ld : Int) + (k : Int) ≤ 2097152 := by omega
          have gw : IntKind.i64.wrap ((ld : Int) + (k : Int)) = (ld : Int) + (k : Int) := by rw [IntKind.wrap_i64]; omega
          have gn : ¬ (n : Int) = 0 := by omega
          have gn2 : ¬ n = 0 := by omega
          have g1 : (0 : Int) ≤ (m : Int) := by omega
          have g7 : (k : Int) < (n : Int) := by omega
          have g2 : (m : Int) < (n : Int) := by omega
          have g3 : (0 : Int) ≤ (k : Int) := by omega
          have g4 : (k : Int) ≤ (cap2 : Int) := by omega
          have g5 : k ≤ cap2 := by omega
          cases hfb : folB hss trick ld k with
          | true =>
            rw [hfb] at HM
            have hok2 : Hid (∀ j, j < k + 1 → folB hss trick ld j = true) := Lib.hid (fun j hj => by
              by_cases e : j = k
              · subst e; exact hfb
              · exact hok.out j (by omega))
            clear hr hc hml hlk hlm hm hx hfb hz hmz hc2 B
            go_wp2_with fail
            go_region_held3 (fun w' => w'.cell? ⟨blk, off + m, none⟩ = some (.slice p lm c) ∧ w'.cell? ⟨b2, off2 + k, none⟩ = some (.int .i64 x)) (go_keep) (first
              | (go_at_call 35; refine (HM.out _ HB.out.drew).mono ?_; rintro e w4 ⟨rfl, B4⟩; have hc4 := HcR.out _ (HB.out.drew.trans (B4.mono HB.out.drew.size)); have hx4 := HcX.out _ (HB.out.drew.trans (B4.mono HB.out.drew.size))))
            all_goals
              have B := HB.out.drew.trans (B4.mono HB.out.drew.size)
              clear B4
              go_wp2_with fail
              go_roundw
              case rel => exact ⟨k + 1, by omega, by go_num, hok2, B⟩
              case measure => simp [intOf]; omega
          | false =>
            rw [hfb] at HM
            have hr1 : Hid (r = false) := Lib.hid (by rw [Hrr.out]; exact fol_no hz hfb)
            clear hr hc hml hlk hlm hm hx hfb hz hmz hc2 B
            go_wp2_with fail
            go_region_held3 (fun w' => w'.cell? ⟨blk, off + m, none⟩ = some (.slice p lm c) ∧ w'.cell? ⟨b2, off2 + k, none⟩ = some (.int .i64 x)) (go_keep) (first
              | (go_at_call 35; refine (HM.out _ HB.out.drew).mono ?_; rintro e w4 ⟨rfl, B4⟩; have hc4 := HcR.out _ (HB.out.drew.trans (B4.mono HB.out.drew.size)); have hx4 := HcX.out _ (HB.out.drew.trans (B4.mono HB.out.drew.size))))
            all_goals
              have B := HB.out.drew.trans (B4.mono HB.out.drew.size)
              clear B4
              go_wp2_with fail
              go_ret
              exact ⟨by rw [Hr.out, hr1.out]; rfl, B⟩
        · obtain rfl : k = n := by omega
          have hr1 : Hid (r = true) := Lib.hid (by rw [Hrr.out]; exact fol_yes (fun j hj => hok.out j (by rw [Hn2.out]; exact hj)))
          go_wp2_with fail
          go_ret
          exact ⟨by rw [Hr.out, hr1.out]; rfl, B⟩
    · have Hr := Lib.hid (followed_1 (trick := trick) hr)
      have HI : Hid (false = decide ((0 : Int) ≤ l ∧ l ≤ (hss.length : Int) - 1)) := Lib.hid (by simp; omega)
      rw [← hne]
      clear hne hr hrow h h2 hcell2
      go_enter Tryd.func18, Tryd.ntmps18
      go_wp2_with fail
      refine (inF_any _ _ _ _ false HI.out).mono ?_
      rintro e _w ⟨rfl, rfl⟩
      go_wp2_with fail
      go_ret
      exact ⟨by rw [Hr.out]; rfl, Below.refl _ _⟩
  · have Hr := Lib.hid (followed_0 (l := l) hne)
    have hq : ((hss.length : Int) != (trick.length : Int)) = true := by simp; omega
    clear hrow h h2 hcell2
    go_enter Tryd.func18, Tryd.ntmps18
    go_wp2_with fail
    go_ret
    exact ⟨by rw [Hr.out]; rfl, Below.refl _ _⟩
end Go.Proofs.YtfajdbfpacmclaaDoor
