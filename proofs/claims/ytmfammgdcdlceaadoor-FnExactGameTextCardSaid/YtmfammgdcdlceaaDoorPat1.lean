/-
  The closures that patterns are made of: what each says of a card.
-/
import Derived.Test.YtmfammgdcdlceaaDoorPat0
import Derived.Test.YtmfammgdcdlceaaDoorCardOf
import Derived.Test.YtmfammgdcdlceaaDoorMarksI
import Derived.Shelf.Abstract
namespace Go.Proofs.YtmfammgdcdlceaaDoor
open Go.RowKit
set_option linter.unusedVariables false
set_option linter.unusedSimpArgs false

/-- Every block from L on is as it was. -/
def Keeps (L : Nat) (w w' : World) : Prop := w.heap.size ≤ w'.heap.size ∧ ∀ k, L ≤ k → k < w.heap.size → w'.heap[k]? = w.heap[k]?
theorem Keeps.refl (L : Nat) (w : World) : Keeps L w w := ⟨Nat.le_refl _, fun _ _ _ => rfl⟩
theorem Keeps.trans {L : Nat} {a b c : World} (h : Keeps L a b) (k : Keeps L b c) : Keeps L a c := ⟨Nat.le_trans h.1 k.1, fun i h1 h2 => (k.2 i h1 (Nat.lt_of_lt_of_le h2 h.1)).trans (h.2 i h1 h2)⟩
theorem Keeps.weaken {L M : Nat} {a b : World} (h : Keeps L a b) (hl : L ≤ M) : Keeps M a b := ⟨h.1, fun i h1 h2 => h.2 i (Nat.le_trans hl h1) h2⟩
theorem Below.keeps {L : Nat} {w w' : World} (b : Below w.heap.size w w') : Keeps L w w' := ⟨b.size, fun k _ h => b.block k h⟩
/-- The function value v says of each card what f says, as long as the blocks from L on stay as they are. -/
def Means (L : Nat) (w : World) (v : Value) (f : Int → Bool) : Prop :=
  ∃ (n : Nat) (caps : Array Value), v = .func (.func n) #[] caps ∧ Enters Tryd.prog n ∧ ∀ w', Keeps L w w' → ∀ c, 0 ≤ c → c ≤ 51 → Calls Tryd.prog n (#[.int .u8 c] ++ caps) w' fun e w'' => e = .returned (.bool (f c)) ∧ Below w'.heap.size w' w''
theorem Means.keep {L : Nat} {w w1 : World} {v : Value} {f : Int → Bool} (h : Means L w v f) (b : Keeps L w w1) : Means L w1 v f := by
  obtain ⟨n, caps, e, he, hc⟩ := h
  exact ⟨n, caps, e, he, fun w' b' => hc w' (b.trans b')⟩
theorem Means.below {L : Nat} {w w1 : World} {v : Value} {f : Int → Bool} (h : Means L w v f) (b : Below w.heap.size w w1) : Means L w1 v f := h.keep (Below.keeps b)
theorem Means.weaken {L M : Nat} {w : World} {v : Value} {f : Int → Bool} (h : Means L w v f) (hl : M ≤ L) : Means M w v f := by
  obtain ⟨n, caps, e, he, hc⟩ := h
  exact ⟨n, caps, e, he, fun w' b' => hc w' (b'.weaken hl)⟩
theorem patCell {w : World} {b : Nat} {v : Value} {t : TypeId} (h : w.heap[b]? = some (.cells #[v] t (0, 0))) : w.cell? ⟨b, 0, none⟩ = some v := by
  simp [World.cell?, h]
theorem patNew (w : World) (o : Obj) : (w.alloc o).heap[w.heap.size]? = some o := by
  show (w.heap.push o)[w.heap.size]? = _
  rw [Array.getElem?_push, if_pos rfl]

theorem ent1 : Enters Tryd.prog 118 := enters_of Tryd.func118 (by kernel_rfl) rfl
set_option maxRecDepth 100000 in
theorem says1 (n c : Int) (b : Nat) (w : World) (hc : w.cell? ⟨b, 0, none⟩ = some (.int .i64 n)) (h0 : 0 ≤ c) (h1 : c ≤ 51) :
    Calls Tryd.prog 118 #[.int .u8 c, .pointer (some ⟨b, 0, none⟩)] w fun e w' => e = .returned (.bool (decide (c / 13 = n))) ∧ Below w.heap.size w w' := by
  obtain ⟨r, hr⟩ : ∃ r, r = c / 13 := ⟨_, rfl⟩
  have HK := Lib.hid (fun wx => kSuit_r c wx h0 h1 r hr.symm)
  rw [← hr]
  clear hr
  cases hq : decide (r = n) with
  | true =>
    have e : (r == n) = true := by simpa using hq
    clear hq
    go_enter Tryd.func118, Tryd.ntmps118
    go_wp2_with fail
    go_quiet ((go_at_call 92; exact Calls.quiet_of_same (flip_same (HK.out _) rfl)))
    go_wp2_with fail
    go_ret
    exact ⟨rfl, below_drewN (Below.refl _ _) _⟩
  | false =>
    have e : (r == n) = false := by simpa using hq
    clear hq
    go_enter Tryd.func118, Tryd.ntmps118
    go_wp2_with fail
    go_quiet ((go_at_call 92; exact Calls.quiet_of_same (flip_same (HK.out _) rfl)))
    go_wp2_with fail
    go_ret
    exact ⟨rfl, below_drewN (Below.refl _ _) _⟩
set_option maxRecDepth 100000 in
theorem mk1_any {L : Nat} (n : Int) (tv : Value) (w : World) (hL : L ≤ w.heap.size) :
    Calls Tryd.prog 117 #[.int .i64 n, tv] w fun e w' => ∃ v, e = .returned v ∧ Means L w' v (fun c => decide (c / 13 = n)) ∧ Below w.heap.size w w' := by
  have hmf : ∀ (fn : Fn) (first cap : Array Value) (w : World), (Instr.makeFunc fn first cap).run Tryd.prog w = .ok (.func fn first cap) w := fun _ _ _ _ => rfl
  go_enter Tryd.func117, Tryd.ntmps117
  go_wp2
  go_ret
  refine ⟨_, rfl, ⟨_, _, rfl, ent1, fun w' hb c h0 h1 => says1 n c _ w' ?_ h0 h1⟩, (Below.refl _ _).alloc (Nat.le_refl _) _⟩
  exact patCell ((hb.2 _ hL (by simp)).trans (patNew _ _))
theorem ent2 : Enters Tryd.prog 120 := enters_of Tryd.func120 (by kernel_rfl) rfl
set_option maxRecDepth 100000 in
theorem says2 (n c : Int) (b : Nat) (w : World) (hc : w.cell? ⟨b, 0, none⟩ = some (.int .i64 n)) (h0 : 0 ≤ c) (h1 : c ≤ 51) :
    Calls Tryd.prog 120 #[.int .u8 c, .pointer (some ⟨b, 0, none⟩)] w fun e w' => e = .returned (.bool (decide (c % 13 = n))) ∧ Below w.heap.size w w' := by
  obtain ⟨r, hr⟩ : ∃ r, r = c % 13 := ⟨_, rfl⟩
  have HK := Lib.hid (fun wx => kRank_r c wx h0 h1 r hr.symm)
  rw [← hr]
  clear hr
  cases hq : decide (r = n) with
  | true =>
    have e : (r == n) = true := by simpa using hq
    clear hq
    go_enter Tryd.func120, Tryd.ntmps120
    go_wp2_with fail
    go_quiet ((go_at_call 91; exact Calls.quiet_of_same (flip_same (HK.out _) rfl)))
    go_wp2_with fail
    go_ret
    exact ⟨rfl, below_drewN (Below.refl _ _) _⟩
  | false =>
    have e : (r == n) = false := by simpa using hq
    clear hq
    go_enter Tryd.func120, Tryd.ntmps120
    go_wp2_with fail
    go_quiet ((go_at_call 91; exact Calls.quiet_of_same (flip_same (HK.out _) rfl)))
    go_wp2_with fail
    go_ret
    exact ⟨rfl, below_drewN (Below.refl _ _) _⟩
set_option maxRecDepth 100000 in
theorem mk2_any {L : Nat} (n : Int) (tv : Value) (w : World) (hL : L ≤ w.heap.size) :
    Calls Tryd.prog 119 #[.int .i64 n, tv] w fun e w' => ∃ v, e = .returned v ∧ Means L w' v (fun c => decide (c % 13 = n)) ∧ Below w.heap.size w w' := by
  have hmf : ∀ (fn : Fn) (first cap : Array Value) (w : World), (Instr.makeFunc fn first cap).run Tryd.prog w = .ok (.func fn first cap) w := fun _ _ _ _ => rfl
  go_enter Tryd.func119, Tryd.ntmps119
  go_wp2
  go_ret
  refine ⟨_, rfl, ⟨_, _, rfl, ent2, fun w' hb c h0 h1 => says2 n c _ w' ?_ h0 h1⟩, (Below.refl _ _).alloc (Nat.le_refl _) _⟩
  exact patCell ((hb.2 _ hL (by simp)).trans (patNew _ _))
theorem ent3 : Enters Tryd.prog 122 := enters_of Tryd.func122 (by kernel_rfl) rfl
set_option maxRecDepth 100000 in
theorem says3 (n c : Int) (b : Nat) (w : World) (hc : w.cell? ⟨b, 0, none⟩ = some (.int .i64 n)) (h0 : 0 ≤ c) (h1 : c ≤ 51) :
    Calls Tryd.prog 122 #[.int .u8 c, .pointer (some ⟨b, 0, none⟩)] w fun e w' => e = .returned (.bool (decide (n ≤ c % 13))) ∧ Below w.heap.size w w' := by
  obtain ⟨r, hr⟩ : ∃ r, r = c % 13 := ⟨_, rfl⟩
  have HK := Lib.hid (fun wx => kRank_r c wx h0 h1 r hr.symm)
  rw [← hr]
  clear hr
  cases hq : decide (n ≤ r) with
  | true =>
    have e : decide (n ≤ r) = true := by simpa using hq
    clear hq
    go_enter Tryd.func122, Tryd.ntmps122
    go_wp2_with fail
    go_quiet ((go_at_call 91; exact Calls.quiet_of_same (flip_same (HK.out _) rfl)))
    go_wp2_with fail
    go_ret
    exact ⟨rfl, below_drewN (Below.refl _ _) _⟩
  | false =>
    have e : decide (n ≤ r) = false := by simpa using hq
    clear hq
    go_enter Tryd.func122, Tryd.ntmps122
    go_wp2_with fail
    go_quiet ((go_at_call 91; exact Calls.quiet_of_same (flip_same (HK.out _) rfl)))
    go_wp2_with fail
    go_ret
    exact ⟨rfl, below_drewN (Below.refl _ _) _⟩
set_option maxRecDepth 100000 in
theorem mk3_any {L : Nat} (n : Int) (tv : Value) (w : World) (hL : L ≤ w.heap.size) :
    Calls Tryd.prog 121 #[.int .i64 n, tv] w fun e w' => ∃ v, e = .returned v ∧ Means L w' v (fun c => decide (n ≤ c % 13)) ∧ Below w.heap.size w w' := by
  have hmf : ∀ (fn : Fn) (first cap : Array Value) (w : World), (Instr.makeFunc fn first cap).run Tryd.prog w = .ok (.func fn first cap) w := fun _ _ _ _ => rfl
  go_enter Tryd.func121, Tryd.ntmps121
  go_wp2
  go_ret
  refine ⟨_, rfl, ⟨_, _, rfl, ent3, fun w' hb c h0 h1 => says3 n c _ w' ?_ h0 h1⟩, (Below.refl _ _).alloc (Nat.le_refl _) _⟩
  exact patCell ((hb.2 _ hL (by simp)).trans (patNew _ _))
theorem ent4 : Enters Tryd.prog 124 := enters_of Tryd.func124 (by kernel_rfl) rfl
set_option maxRecDepth 100000 in
theorem says4 (c : Int) (w : World) (h0 : 0 ≤ c) (h1 : c ≤ 51) :
    Calls Tryd.prog 124 #[.int .u8 c] w fun e w' => e = .returned (.bool (decide (c / 13 = 1) || decide (c / 13 = 2))) ∧ Below w.heap.size w w' := by
  obtain ⟨r, hr⟩ : ∃ r, r = c / 13 := ⟨_, rfl⟩
  have HK := Lib.hid (fun wx => kSuit_r c wx h0 h1 r hr.symm)
  rw [← hr]
  clear hr
  by_cases h : r = 1
  · subst h
    go_enter Tryd.func124, Tryd.ntmps124
    go_wp2_with fail
    refine (HK.out _).mono ?_
    rintro e _w ⟨rfl, rfl⟩
    go_wp2_with fail
    go_ret
    exact ⟨rfl, Below.refl _ _⟩
  · have e1 : (r == 1) = false := by simpa using h
    have e2 : decide (r = 1) = false := by simpa using h
    rw [e2]
    cases e3 : decide (r = 2) with
    | true =>
      have e4 : (r == 2) = true := by simpa using e3
      clear e3 e2 h
      go_enter Tryd.func124, Tryd.ntmps124
      go_wp2_with fail
      refine (HK.out _).mono ?_
      rintro e _w ⟨rfl, rfl⟩
      go_wp2_with fail
      refine (HK.out _).mono ?_
      rintro e _w ⟨rfl, rfl⟩
      go_wp2_with fail
      go_ret
      exact ⟨rfl, Below.refl _ _⟩
    | false =>
      have e4 : (r == 2) = false := by simpa using e3
      clear e3 e2 h
      go_enter Tryd.func124, Tryd.ntmps124
      go_wp2_with fail
      refine (HK.out _).mono ?_
      rintro e _w ⟨rfl, rfl⟩
      go_wp2_with fail
      refine (HK.out _).mono ?_
      rintro e _w ⟨rfl, rfl⟩
      go_wp2_with fail
      go_ret
      exact ⟨rfl, Below.refl _ _⟩
set_option maxRecDepth 100000 in
theorem mk4_any {L : Nat} (n : Int) (tv : Value) (w : World) (hL : L ≤ w.heap.size) :
    Calls Tryd.prog 123 #[.int .i64 n, tv] w fun e w' => ∃ v, e = .returned v ∧ Means L w' v (fun c => decide (c / 13 = 1) || decide (c / 13 = 2)) ∧ Below w.heap.size w w' := by
  go_enter Tryd.func123, Tryd.ntmps123
  go_wp2
  go_ret
  exact ⟨_, rfl, ⟨_, _, rfl, ent4, fun w' hb c h0 h1 => says4 c w' h0 h1⟩, Below.refl _ _⟩
theorem ent5 : Enters Tryd.prog 126 := enters_of Tryd.func126 (by kernel_rfl) rfl
set_option maxRecDepth 100000 in
theorem says5 {L : Nat} (f : Int → Bool) (v0 : Value) (c : Int) (b g off n cap : Nat) (w : World) (hc : w.cell? ⟨b, 0, none⟩ = some (.slice (some ⟨g, off, none⟩) n cap)) (hn : 1 ≤ n) (hn2 : n ≤ 1048576) (hg : w.cell? ⟨g, off, none⟩ = some v0) (hm : Means L w v0 f) (h0 : 0 ≤ c) (h1 : c ≤ 51) :
    Calls Tryd.prog 126 #[.int .u8 c, .pointer (some ⟨b, 0, none⟩)] w fun e w' => e = .returned (.bool (notF f c)) ∧ Below w.heap.size w w' := by
  obtain ⟨k, caps, rfl, hE, hM⟩ := hm
  have HM := Lib.hid (hM w (Keeps.refl _ _) c h0 h1)
  unfold notF
  generalize f c = r at *
  clear hM
  unfold Enters at hE
  go_enter Tryd.func126, Tryd.ntmps126
  go_wp2_with fail
  refine HM.out.mono ?_
  rintro e w1 ⟨rfl, B⟩
  go_wp2_with fail
  go_ret
  exact ⟨rfl, B⟩
theorem ent6 : Enters Tryd.prog 128 := enters_of Tryd.func128 (by kernel_rfl) rfl
set_option maxRecDepth 100000 in
theorem says6 {L : Nat} (f f' : Int → Bool) (v0 v1 : Value) (c : Int) (b g off n cap : Nat) (w : World) (hc : w.cell? ⟨b, 0, none⟩ = some (.slice (some ⟨g, off, none⟩) n cap)) (hn : 2 ≤ n) (hn2 : n ≤ 1048576) (hg : w.cell? ⟨g, off, none⟩ = some v0) (hg' : w.cell? ⟨g, off + 1, none⟩ = some v1) (hm : Means L w v0 f) (hm' : Means L w v1 f') (h0 : 0 ≤ c) (h1 : c ≤ 51) :
    Calls Tryd.prog 128 #[.int .u8 c, .pointer (some ⟨b, 0, none⟩)] w fun e w' => e = .returned (.bool (andF f f' c)) ∧ Below w.heap.size w w' := by
  have HC' := Lib.hid (fun wx (bx : Below w.heap.size w wx) => (⟨(bx.cell (World.block_lt_of_cell? _ _ hc)).trans hc, (bx.cell (World.block_lt_of_cell? _ _ hg')).trans hg'⟩ : wx.cell? ⟨b, 0, none⟩ = some (.slice (some ⟨g, off, none⟩) n cap) ∧ wx.cell? ⟨g, off + 1, none⟩ = some v1))
  obtain ⟨k, caps, rfl, hE, hM⟩ := hm
  obtain ⟨k', caps', rfl, hE', hM'⟩ := hm'
  have HM := Lib.hid (hM w (Keeps.refl _ _) c h0 h1)
  have HM' := Lib.hid (fun wx (bx : Below w.heap.size w wx) => hM' wx (Below.keeps bx) c h0 h1)
  unfold andF
  generalize f c = r at *
  generalize f' c = r' at *
  clear hM hM' hg'
  unfold Enters at hE hE'
  cases r with
  | false =>
    go_enter Tryd.func128, Tryd.ntmps128
    go_wp2_with fail
    refine HM.out.mono ?_
    rintro e w1 ⟨rfl, B⟩
    go_wp2_with fail
    go_ret
    exact ⟨rfl, B⟩
  | true =>
    go_enter Tryd.func128, Tryd.ntmps128
    go_wp2_with fail
    refine HM.out.mono ?_
    rintro e w1 ⟨rfl, B⟩
    obtain ⟨d1, d2⟩ := HC'.out w1 B
    go_wp2_with fail
    refine (HM'.out w1 B).mono ?_
    rintro e w2 ⟨rfl, B2⟩
    go_wp2_with fail
    go_ret
    exact ⟨rfl, B.trans (B2.mono B.size)⟩
theorem ent7 : Enters Tryd.prog 130 := enters_of Tryd.func130 (by kernel_rfl) rfl
set_option maxRecDepth 100000 in
theorem says7 {L : Nat} (f f' : Int → Bool) (v0 v1 : Value) (c : Int) (b g off n cap : Nat) (w : World) (hc : w.cell? ⟨b, 0, none⟩ = some (.slice (some ⟨g, off, none⟩) n cap)) (hn : 2 ≤ n) (hn2 : n ≤ 1048576) (hg : w.cell? ⟨g, off, none⟩ = some v0) (hg' : w.cell? ⟨g, off + 1, none⟩ = some v1) (hm : Means L w v0 f) (hm' : Means L w v1 f') (h0 : 0 ≤ c) (h1 : c ≤ 51) :
    Calls Tryd.prog 130 #[.int .u8 c, .pointer (some ⟨b, 0, none⟩)] w fun e w' => e = .returned (.bool (orF f f' c)) ∧ Below w.heap.size w w' := by
  have HC' := Lib.hid (fun wx (bx : Below w.heap.size w wx) => (⟨(bx.cell (World.block_lt_of_cell? _ _ hc)).trans hc, (bx.cell (World.block_lt_of_cell? _ _ hg')).trans hg'⟩ : wx.cell? ⟨b, 0, none⟩ = some (.slice (some ⟨g, off, none⟩) n cap) ∧ wx.cell? ⟨g, off + 1, none⟩ = some v1))
  obtain ⟨k, caps, rfl, hE, hM⟩ := hm
  obtain ⟨k', caps', rfl, hE', hM'⟩ := hm'
  have HM := Lib.hid (hM w (Keeps.refl _ _) c h0 h1)
  have HM' := Lib.hid (fun wx (bx : Below w.heap.size w wx) => hM' wx (Below.keeps bx) c h0 h1)
  unfold orF
  generalize f c = r at *
  generalize f' c = r' at *
  clear hM hM' hg'
  unfold Enters at hE hE'
  cases r with
  | true =>
    go_enter Tryd.func130, Tryd.ntmps130
    go_wp2_with fail
    refine HM.out.mono ?_
    rintro e w1 ⟨rfl, B⟩
    go_wp2_with fail
    go_ret
    exact ⟨rfl, B⟩
  | false =>
    go_enter Tryd.func130, Tryd.ntmps130
    go_wp2_with fail
    refine HM.out.mono ?_
    rintro e w1 ⟨rfl, B⟩
    obtain ⟨d1, d2⟩ := HC'.out w1 B
    go_wp2_with fail
    refine (HM'.out w1 B).mono ?_
    rintro e w2 ⟨rfl, B2⟩
    go_wp2_with fail
    go_ret
    exact ⟨rfl, B.trans (B2.mono B.size)⟩

/-- The value v is a pile of such functions. -/
def PileF (L : Nat) (w : World) (v : Value) (st : List (Int → Bool)) : Prop :=
  ∃ (a : Option Addr) (cap : Nat), v = .slice a st.length cap ∧ st.length ≤ cap ∧ cap ≤ maxLen ∧ (st = [] ∨ ∃ b off, a = some ⟨b, off, none⟩ ∧ L ≤ b ∧ ∀ j, j < st.length → ∃ x, w.cell? ⟨b, off + j, none⟩ = some x ∧ Means L w x (getF st j))
theorem PileF.keep {L : Nat} {w w1 : World} {v : Value} {st : List (Int → Bool)} (h : PileF L w v st) (b : Keeps L w w1) : PileF L w1 v st := by
  obtain ⟨a, cap, rfl, h1, h2, h3⟩ := h
  refine ⟨a, cap, rfl, h1, h2, h3.imp id ?_⟩
  rintro ⟨g, off, e, hg, hc⟩
  refine ⟨g, off, e, hg, fun j hj => ?_⟩
  obtain ⟨x, hx, hm⟩ := hc j hj
  exact ⟨x, (World.cell?_of_block (w := w) (b.2 g hg (World.block_lt_of_cell? _ _ hx))).trans hx, hm.keep b⟩
theorem PileF.below {L : Nat} {w w1 : World} {v : Value} {st : List (Int → Bool)} (h : PileF L w v st) (b : Below w.heap.size w w1) : PileF L w1 v st := h.keep (Below.keeps b)
set_option maxRecDepth 100000 in
theorem mk5_any {L : Nat} (n : Int) (tv : Value) (st : List (Int → Bool)) (w : World) (hL : L ≤ w.heap.size) (h : PileF L w tv st) (hs : 1 ≤ st.length) (hs2 : st.length ≤ 1048576) :
    Calls Tryd.prog 125 #[.int .i64 n, tv] w fun e w' => ∃ v, e = .returned v ∧ Means L w' v (notF (getF st 0)) ∧ Below w.heap.size w w' := by
  have hmf : ∀ (fn : Fn) (first cap : Array Value) (w : World), (Instr.makeFunc fn first cap).run Tryd.prog w = .ok (.func fn first cap) w := fun _ _ _ _ => rfl
  have h00 := h
  obtain ⟨a, cap, rfl, -, -, h3⟩ := h
  rcases h3 with h3 | ⟨b, off, rfl, -⟩
  · subst h3; simp at hs
  go_enter Tryd.func125, Tryd.ntmps125
  go_wp2
  go_ret
  refine ⟨_, rfl, ⟨_, _, rfl, ent5, fun w' hb c h0 h1 => ?_⟩, (Below.refl _ _).alloc (Nat.le_refl _) _⟩
  have hp := (h00.below ((Below.refl w.heap.size w).alloc (Nat.le_refl _) _)).keep hb
  obtain ⟨a', cap', e, -, -, h3⟩ := hp
  rcases h3 with h3 | ⟨b', off', rfl, hLb, hcs⟩
  · subst h3; simp at hs
  simp only [Value.slice.injEq, Option.some.injEq, Addr.mk.injEq, and_true, true_and] at e
  obtain ⟨⟨rfl, rfl⟩, rfl⟩ := e
  obtain ⟨x0, hx0, hm0⟩ := hcs 0 (by omega)
  exact says5 _ _ c _ b off _ cap w' (patCell ((hb.2 _ hL (by simp)).trans (patNew _ _))) hs hs2 hx0 hm0 h0 h1
set_option maxRecDepth 100000 in
theorem mk6_any {L : Nat} (n : Int) (tv : Value) (st : List (Int → Bool)) (w : World) (hL : L ≤ w.heap.size) (h : PileF L w tv st) (hs : 2 ≤ st.length) (hs2 : st.length ≤ 1048576) :
    Calls Tryd.prog 127 #[.int .i64 n, tv] w fun e w' => ∃ v, e = .returned v ∧ Means L w' v (andF (getF st 0) (getF st 1)) ∧ Below w.heap.size w w' := by
  have hmf : ∀ (fn : Fn) (first cap : Array Value) (w : World), (Instr.makeFunc fn first cap).run Tryd.prog w = .ok (.func fn first cap) w := fun _ _ _ _ => rfl
  have h00 := h
  obtain ⟨a, cap, rfl, -, -, h3⟩ := h
  rcases h3 with h3 | ⟨b, off, rfl, -⟩
  · subst h3; simp at hs
  go_enter Tryd.func127, Tryd.ntmps127
  go_wp2
  go_ret
  refine ⟨_, rfl, ⟨_, _, rfl, ent6, fun w' hb c h0 h1 => ?_⟩, (Below.refl _ _).alloc (Nat.le_refl _) _⟩
  have hp := (h00.below ((Below.refl w.heap.size w).alloc (Nat.le_refl _) _)).keep hb
  obtain ⟨a', cap', e, -, -, h3⟩ := hp
  rcases h3 with h3 | ⟨b', off', rfl, hLb, hcs⟩
  · subst h3; simp at hs
  simp only [Value.slice.injEq, Option.some.injEq, Addr.mk.injEq, and_true, true_and] at e
  obtain ⟨⟨rfl, rfl⟩, rfl⟩ := e
  obtain ⟨x0, hx0, hm0⟩ := hcs 0 (by omega)
  obtain ⟨x1, hx1, hm1⟩ := hcs 1 (by omega)
  exact says6 _ _ _ _ c _ b off _ cap w' (patCell ((hb.2 _ hL (by simp)).trans (patNew _ _))) hs hs2 hx0 hx1 hm0 hm1 h0 h1
set_option maxRecDepth 100000 in
theorem mk7_any {L : Nat} (n : Int) (tv : Value) (st : List (Int → Bool)) (w : World) (hL : L ≤ w.heap.size) (h : PileF L w tv st) (hs : 2 ≤ st.length) (hs2 : st.length ≤ 1048576) :
    Calls Tryd.prog 129 #[.int .i64 n, tv] w fun e w' => ∃ v, e = .returned v ∧ Means L w' v (orF (getF st 0) (getF st 1)) ∧ Below w.heap.size w w' := by
  have hmf : ∀ (fn : Fn) (first cap : Array Value) (w : World), (Instr.makeFunc fn first cap).run Tryd.prog w = .ok (.func fn first cap) w := fun _ _ _ _ => rfl
  have h00 := h
  obtain ⟨a, cap, rfl, -, -, h3⟩ := h
  rcases h3 with h3 | ⟨b, off, rfl, -⟩
  · subst h3; simp at hs
  go_enter Tryd.func129, Tryd.ntmps129
  go_wp2
  go_ret
  refine ⟨_, rfl, ⟨_, _, rfl, ent7, fun w' hb c h0 h1 => ?_⟩, (Below.refl _ _).alloc (Nat.le_refl _) _⟩
  have hp := (h00.below ((Below.refl w.heap.size w).alloc (Nat.le_refl _) _)).keep hb
  obtain ⟨a', cap', e, -, -, h3⟩ := hp
  rcases h3 with h3 | ⟨b', off', rfl, hLb, hcs⟩
  · subst h3; simp at hs
  simp only [Value.slice.injEq, Option.some.injEq, Addr.mk.injEq, and_true, true_and] at e
  obtain ⟨⟨rfl, rfl⟩, rfl⟩ := e
  obtain ⟨x0, hx0, hm0⟩ := hcs 0 (by omega)
  obtain ⟨x1, hx1, hm1⟩ := hcs 1 (by omega)
  exact says7 _ _ _ _ c _ b off _ cap w' (patCell ((hb.2 _ hL (by simp)).trans (patNew _ _))) hs hs2 hx0 hx1 hm0 hm1 h0 h1
end Go.Proofs.YtmfammgdcdlceaaDoor
