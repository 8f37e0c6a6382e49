/-
  Patterns worked off: the program's side.
-/
import Derived.Test.YtmfammgdcdlceaaDoorPat1
import Derived.Test.YtmfammgdcdlceaaDoorIn
import Derived.Test.YtmfammgdcdlceaaDoorVals
import Derived.ArgAppend
import Derived.Lib.AppendZerosOnto
import Derived.Laws.EntriesVeiled
import Derived.Deep.RegionHeld3
namespace Go.Proofs.YtmfammgdcdlceaaDoor
open Go.RowKit
set_option linter.unusedVariables false
set_option linter.unusedSimpArgs false

def grpAt (w : World) (g : Nat) (a c t : Int) : Prop := w.cell? ⟨g, 0, none⟩ = some (.int .i64 a) ∧ w.cell? ⟨g, 1, none⟩ = some (.int .i64 c) ∧ w.cell? ⟨g, 2, none⟩ = some (.int .i64 t)
theorem grpAt.below {w w1 : World} {g : Nat} {a c t : Int} (h : grpAt w g a c t) (b : Below w.heap.size w w1) : grpAt w1 g a c t :=
  ⟨(b.cell (World.block_lt_of_cell? _ _ h.1)).trans h.1, (b.cell (World.block_lt_of_cell? _ _ h.2.1)).trans h.2.1, (b.cell (World.block_lt_of_cell? _ _ h.2.2)).trans h.2.2⟩
/-- The package's variables hold the groups of signs. -/
def Grps (w : World) : Prop := grpAt w 2 100 4 0 ∧ grpAt w 3 200 13 0 ∧ grpAt w 4 300 13 0 ∧ grpAt w 5 400 1 0 ∧ grpAt w 6 (-1) 1 1 ∧ grpAt w 7 (-2) 1 2 ∧ grpAt w 8 (-3) 1 2
theorem Grps.below {w w1 : World} (h : Grps w) (b : Below w.heap.size w w1) : Grps w1 := by
  obtain ⟨h0, h1, h2, h3, h4, h5, h6⟩ := h
  exact ⟨h0.below b, h1.below b, h2.below b, h3.below b, h4.below b, h5.below b, h6.below b⟩
def gA (k : Nat) : Int := match k with | 0 => 100 | 1 => 200 | 2 => 300 | 3 => 400 | 4 => (-1) | 5 => (-2) | _ => (-3)
def gC (k : Nat) : Int := match k with | 0 => 4 | 1 => 13 | 2 => 13 | 3 => 1 | 4 => 1 | 5 => 1 | _ => 1
def gT (k : Nat) : Nat := match k with | 0 => 0 | 1 => 0 | 2 => 0 | 3 => 0 | 4 => 1 | 5 => 2 | _ => 2
def gF (k : Nat) : Nat := match k with | 0 => 117 | 1 => 119 | 2 => 121 | 3 => 123 | 4 => 125 | 5 => 127 | _ => 129
def gS (k : Nat) : Int → List (Int → Bool) → Int → Bool := match k with | 0 => fun n _ c => decide (c / 13 = n) | 1 => fun n _ c => decide (c % 13 = n) | 2 => fun n _ c => decide (n ≤ c % 13) | 3 => fun _ _ c => decide (c / 13 = 1) || decide (c / 13 = 2) | 4 => fun _ st => notF (getF st 0) | 5 => fun _ st => andF (getF st 0) (getF st 1) | _ => fun _ st => orF (getF st 0) (getF st 1)
def mbCells : Array Value := #[.int .i64 100, .int .i64 4, .int .i64 0, .func (.func 117) #[] #[], .int .i64 200, .int .i64 13, .int .i64 0, .func (.func 119) #[] #[], .int .i64 300, .int .i64 13, .int .i64 0, .func (.func 121) #[] #[], .int .i64 400, .int .i64 1, .int .i64 0, .func (.func 123) #[] #[], .int .i64 (-1), .int .i64 1, .int .i64 1, .func (.func 125) #[] #[], .int .i64 (-2), .int .i64 1, .int .i64 2, .func (.func 127) #[] #[], .int .i64 (-3), .int .i64 1, .int .i64 2, .func (.func 129) #[] #[]]
def hasK (k : Nat) (s : Int) : Bool := decide (gA k ≤ s ∧ s ≤ gA k + gC k - 1)
theorem gA_le (k : Nat) : -1000 ≤ gA k ∧ gA k ≤ 1000 ∧ -1000 ≤ gC k ∧ gC k ≤ 1000 ∧ gT k ≤ 2 := by
  match k with
  | 0 => decide
  | 1 => decide
  | 2 => decide
  | 3 => decide
  | 4 => decide
  | 5 => decide
  | k + 6 => simp [gA, gC, gT]
theorem mb_cells {w : World} {b : Nat} {t : TypeId} (h : w.heap[b]? = some (.cells mbCells t (0, 0))) (k : Nat) (hk : k < 7) :
    w.cell? ⟨b, k * 4, none⟩ = some (.int .i64 (gA k)) ∧ w.cell? ⟨b, k * 4 + 1, none⟩ = some (.int .i64 (gC k)) ∧ w.cell? ⟨b, k * 4 + 2, none⟩ = some (.int .i64 (gT k)) ∧ w.cell? ⟨b, k * 4 + 3, none⟩ = some (.func (.func (gF k)) #[] #[]) := by
  match k, hk with
  | 0, _ => simp [World.cell?, h, mbCells, gA, gC, gT, gF]
  | 1, _ => simp [World.cell?, h, mbCells, gA, gC, gT, gF]
  | 2, _ => simp [World.cell?, h, mbCells, gA, gC, gT, gF]
  | 3, _ => simp [World.cell?, h, mbCells, gA, gC, gT, gF]
  | 4, _ => simp [World.cell?, h, mbCells, gA, gC, gT, gF]
  | 5, _ => simp [World.cell?, h, mbCells, gA, gC, gT, gF]
  | 6, _ => simp [World.cell?, h, mbCells, gA, gC, gT, gF]
theorem getF_drop (st : List (Int → Bool)) (l i : Nat) : getF (st.drop l) i = getF st (l + i) := by simp [getF, List.getD]
theorem hasK_leaf (k : Nat) (s : Int) (hk : k < 4) (h : hasK k s = true) : ∃ f, leafF s = some f ∧ f = gS k (s - gA k) [] := by
  match k, hk with
  | 0, _ => simp [hasK, gA, gC] at h; exact ⟨_, by unfold leafF; rw [if_pos (by omega)]; rfl, rfl⟩
  | 1, _ => simp [hasK, gA, gC] at h; exact ⟨_, by unfold leafF; rw [if_neg (by omega), if_pos (by omega)]; rfl, rfl⟩
  | 2, _ => simp [hasK, gA, gC] at h; exact ⟨_, by unfold leafF; rw [if_neg (by omega), if_neg (by omega), if_pos (by omega)]; rfl, rfl⟩
  | 3, _ => simp [hasK, gA, gC] at h; exact ⟨_, by unfold leafF; rw [if_neg (by omega), if_neg (by omega), if_neg (by omega), if_pos (by omega)]; rfl, rfl⟩
theorem step_has (st : List (Int → Bool)) (s : Int) (k : Nat) (hk : k < 7) (h : hasK k s = true) (ht : gT k ≤ st.length) :
    stepP st s = some (st.take (st.length - gT k) ++ [gS k (s - gA k) (st.drop (st.length - gT k))]) := by
  by_cases h4 : k < 4
  · obtain ⟨f, hf, e⟩ := hasK_leaf k s h4 h
    rw [step_leaf st s f hf, e]
    have : gT k = 0 := by match k, h4 with | 0, _ => rfl | 1, _ => rfl | 2, _ => rfl | 3, _ => rfl
    rw [this, Nat.sub_zero, List.take_length]
    match k, h4 with | 0, _ => rfl | 1, _ => rfl | 2, _ => rfl | 3, _ => rfl
  · match k, hk with
    | 4, _ =>
      have e : s = -1 := by simp [hasK, gA, gC] at h; omega
      subst e
      have ht : 1 ≤ st.length := ht
      rw [step_not st ht]
      show _ = some (st.take (st.length - 1) ++ [notF (getF (st.drop (st.length - 1)) 0)])
      rw [getF_drop]; rfl
    | 5, _ =>
      have e : s = -2 := by simp [hasK, gA, gC] at h; omega
      subst e
      have ht : 2 ≤ st.length := ht
      rw [step_and st ht]
      show _ = some (st.take (st.length - 2) ++ [andF (getF (st.drop (st.length - 2)) 0) (getF (st.drop (st.length - 2)) 1)])
      rw [getF_drop, getF_drop, show st.length - 2 + 1 = st.length - 1 by omega]; rfl
    | 6, _ =>
      have e : s = -3 := by simp [hasK, gA, gC] at h; omega
      subst e
      have ht : 2 ≤ st.length := ht
      rw [step_or st ht]
      show _ = some (st.take (st.length - 2) ++ [orF (getF (st.drop (st.length - 2)) 0) (getF (st.drop (st.length - 2)) 1)])
      rw [getF_drop, getF_drop, show st.length - 2 + 1 = st.length - 1 by omega]; rfl
    | 0, _ => exact absurd (by decide) h4
    | 1, _ => exact absurd (by decide) h4
    | 2, _ => exact absurd (by decide) h4
    | 3, _ => exact absurd (by decide) h4
theorem step_short (st : List (Int → Bool)) (s : Int) (k : Nat) (hk : k < 7) (h : hasK k s = true) (ht : st.length < gT k) : stepP st s = none := by
  have hneg : s < 0 := by
    match k, hk with
    | 0, _ => exact absurd ht (by simp [gT])
    | 1, _ => exact absurd ht (by simp [gT])
    | 2, _ => exact absurd ht (by simp [gT])
    | 3, _ => exact absurd ht (by simp [gT])
    | 4, _ => simp [hasK, gA, gC] at h; omega
    | 5, _ => simp [hasK, gA, gC] at h; omega
    | 6, _ => simp [hasK, gA, gC] at h; omega
  have hl : leaf s = false := by unfold leaf; rw [leafF_neg s hneg]; rfl
  match k, hk with
  | 4, _ => simp [hasK, gA, gC] at h; have ht : st.length < 1 := ht; exact step_bad st s hl (by omega) (by omega) (by omega)
  | 5, _ => simp [hasK, gA, gC] at h; have ht : st.length < 2 := ht; exact step_bad st s hl (by omega) (by omega) (by omega)
  | 6, _ => simp [hasK, gA, gC] at h; have ht : st.length < 2 := ht; exact step_bad st s hl (by omega) (by omega) (by omega)
  | 0, _ => exact absurd ht (by simp [gT])
  | 1, _ => exact absurd ht (by simp [gT])
  | 2, _ => exact absurd ht (by simp [gT])
  | 3, _ => exact absurd ht (by simp [gT])
theorem step_nohas (st : List (Int → Bool)) (s : Int) (h : ∀ k, k < 7 → hasK k s = false) : stepP st s = none := by
  have h0 := h 0 (by decide)
  have h1 := h 1 (by decide)
  have h2 := h 2 (by decide)
  have h3 := h 3 (by decide)
  have h4 := h 4 (by decide)
  have h5 := h 5 (by decide)
  have h6 := h 6 (by decide)
  simp [hasK, gA, gC] at h0 h1 h2 h3 h4 h5 h6
  refine step_bad st s ?_ (by omega) (by omega) (by omega)
  rw [leaf_iff]
  simp
  omega
theorem gEnt (k : Nat) (hk : k < 7) : Enters Tryd.prog (gF k) := by
  match k, hk with
  | 0, _ => exact enters_of Tryd.func117 (by kernel_rfl) rfl
  | 1, _ => exact enters_of Tryd.func119 (by kernel_rfl) rfl
  | 2, _ => exact enters_of Tryd.func121 (by kernel_rfl) rfl
  | 3, _ => exact enters_of Tryd.func123 (by kernel_rfl) rfl
  | 4, _ => exact enters_of Tryd.func125 (by kernel_rfl) rfl
  | 5, _ => exact enters_of Tryd.func127 (by kernel_rfl) rfl
  | 6, _ => exact enters_of Tryd.func129 (by kernel_rfl) rfl
theorem gMk (k : Nat) (hk : k < 7) (n : Int) (tv : Value) (st : List (Int → Bool)) (w : World) (L : Nat) (hL : L ≤ w.heap.size) (h : PileF L w tv st) (hs : gT k ≤ st.length) (hs2 : st.length ≤ 1048576) :
    Calls Tryd.prog (gF k) #[.int .i64 n, tv] w fun e w' => ∃ v, e = .returned v ∧ Means L w' v (gS k n st) ∧ Below w.heap.size w w' := by
  match k, hk with
  | 0, _ => exact mk1_any n tv w hL
  | 1, _ => exact mk2_any n tv w hL
  | 2, _ => exact mk3_any n tv w hL
  | 3, _ => exact mk4_any n tv w hL
  | 4, _ => exact mk5_any n tv st w hL h hs hs2
  | 5, _ => exact mk6_any n tv st w hL h hs hs2
  | 6, _ => exact mk7_any n tv st w hL h hs hs2

set_option maxRecDepth 100000 in
theorem hasG_any (a c t s : Int) (w : World) (ha : -1000 ≤ a) (ha2 : a ≤ 1000) (hc : -1000 ≤ c) (hc2 : c ≤ 1000) :
    Calls Tryd.prog 138 #[.agg #[.int .i64 a, .int .i64 c, .int .i64 t], .int .i64 s] w fun e w' => e = .returned (.bool (decide (a ≤ s ∧ s ≤ a + c - 1))) ∧ Below w.heap.size w w' := by
  have HI := Lib.hid (fun wx => inR_any s a (a + c - 1) wx _ rfl)
  generalize decide (a ≤ s ∧ s ≤ a + c - 1) = r at *
  go_enter Tryd.func138, Tryd.ntmps138
  go_wp2_with fail
  refine (HI.out _).mono ?_
  rintro e _w ⟨rfl, rfl⟩
  go_wp2_with fail
  go_ret
  exact ⟨rfl, (Below.refl _ _).alloc (Nat.le_refl _) _⟩
set_option maxRecDepth 100000 in
theorem has1_any (a c t s : Int) (fv : Value) (b : Nat) (w : World) (hcl : w.cell? ⟨b, 0, none⟩ = some (.int .i64 s)) (ha : -1000 ≤ a) (ha2 : a ≤ 1000) (hc : -1000 ≤ c) (hc2 : c ≤ 1000) :
    Calls Tryd.prog 137 #[.agg #[.int .i64 a, .int .i64 c, .int .i64 t, fv], .pointer (some ⟨b, 0, none⟩)] w fun e w' => e = .returned (.bool (decide (a ≤ s ∧ s ≤ a + c - 1))) ∧ Below w.heap.size w w' := by
  have HI := Lib.hid (fun wx => hasG_any a c t s wx ha ha2 hc hc2)
  generalize decide (a ≤ s ∧ s ≤ a + c - 1) = r at *
  have hcl2 := fun o => (((Below.refl w.heap.size w).alloc (Nat.le_refl _) o).cell (World.block_lt_of_cell? _ _ hcl)).trans hcl
  have hcl3 := hcl2 (.cells #[.int .i64 a, .int .i64 c, .int .i64 t, fv] 152)
  clear hcl2 hcl
  go_enter Tryd.func137, Tryd.ntmps137
  go_wp2_with fail
  refine (HI.out _).mono ?_
  rintro e w1 ⟨rfl, B⟩
  go_wp2_with fail
  go_ret
  exact ⟨rfl, ((Below.refl w.heap.size w).alloc (Nat.le_refl _) _).trans (B.mono (by simp))⟩
set_option maxRecDepth 100000 in
set_option maxHeartbeats 1000000 in
theorem index_any (mb sb : Nat) (s : Int) (w : World) (hM : w.heap[mb]? = some (.cells mbCells 152 (0, 0))) (hS : w.cell? ⟨sb, 0, none⟩ = some (.int .i64 s)) :
    Calls Tryd.prog 136 #[.slice (some ⟨mb, 0, none⟩) 7 7, .func (.func 137) #[] #[.pointer (some ⟨sb, 0, none⟩)]] w fun e w' => (∃ r : Int, e = .returned (.int .i64 r) ∧ ((r = -1 ∧ ∀ j, j < 7 → hasK j s = false) ∨ ∃ k : Nat, r = k ∧ k < 7 ∧ hasK k s = true)) ∧ Below w.heap.size w w' := by
  have HM := Lib.hid (fun wx (bx : Below w.heap.size w wx) => mb_cells ((bx.block _ (Array.getElem?_eq_some_iff.1 hM).1).trans hM))
  have HS := Lib.hid (fun wx (bx : Below w.heap.size w wx) => (bx.cell (World.block_lt_of_cell? _ _ hS)).trans hS)
  clear hM hS
  go_enter Tryd.func136, Tryd.ntmps136
  go_wp2_with fail
  go_loopw [5, 8] (fun _ i wr => ∃ k : Nat, k ≤ 7 ∧ i = .int .i64 k ∧ Below w.heap.size w wr ∧ Hid (∀ j, j < k → hasK j s = false)) (fun _ i _ => 7 - (intOf i).toNat)
  case atStart => exact ⟨0, Nat.zero_le _, rfl, Below.refl _ _, Lib.hid (fun j h => by omega)⟩
  case round =>
    obtain ⟨k, hk, rfl, B, hno⟩ := hrel
    by_cases hlt : k < 7
    · obtain ⟨c0, c1, c2, c3⟩ := HM.out wr B k hlt
      obtain ⟨b1, b2, b3, b4, -⟩ := gA_le k
      have HH := Lib.hid (fun wx bx => has1_any (gA k) (gC k) (gT k) s (.func (.func (gF k)) #[] #[]) sb wx (HS.out wx bx) b1 b2 b3 b4)
      have hd : decide (gA k ≤ s ∧ s ≤ gA k + gC k - 1) = hasK k s := rfl
      rw [hd] at HH
      clear hd b1 b2 b3 b4
      cases hh : hasK k s with
      | true =>
        rw [hh] at HH
        have hres := Lib.hid hh
        clear hh
        generalize gA k = ga at *
        generalize gC k = gc at *
        generalize gT k = gt at *
        generalize gF k = gf at *
        go_wp2_with fail
        refine (HH.out wr B).mono ?_
        rintro e w1 ⟨rfl, B1⟩
        go_wp2_with fail
        go_ret
        exact ⟨⟨_, rfl, .inr ⟨k, rfl, hlt, hres.out⟩⟩, B.trans (B1.mono B.size)⟩
      | false =>
        rw [hh] at HH
        have hno2 : Hid (∀ j, j < k + 1 → hasK j s = false) := Lib.hid (fun j hj => by
          by_cases e : j = k
          · subst e; exact hh
          · exact hno.out j (by omega))
        clear hh
        generalize gA k = ga at *
        generalize gC k = gc at *
        generalize gT k = gt at *
        generalize gF k = gf at *
        go_wp2_with fail
        refine (HH.out wr B).mono ?_
        rintro e w1 ⟨rfl, B1⟩
        have B2 := B.trans (B1.mono B.size)
        go_wp2_with fail
        go_roundw
        case rel => exact ⟨k + 1, by omega, by go_num, B2, hno2⟩
        case measure => simp [intOf]; omega
    · obtain rfl : k = 7 := by omega
      go_wp2_with fail
      go_ret
      exact ⟨⟨_, rfl, .inl ⟨rfl, hno.out⟩⟩, B⟩

theorem info_fn : (Tryd.prog.info? 106).map (fun i => (i.zero, i.size, i.bytes)) = some (some .nilFunc, 1, 8) := by kernel_rfl
theorem info_partsF {p : Option TypeInfo} {z : Value} {s b : Nat} (h : p.map (fun i => (i.zero, i.size, i.bytes)) = some (some z, s, b)) : ∃ i, p = some i ∧ i.zero = some z ∧ i.size = s ∧ i.bytes = b := by
  cases p with
  | none => simp at h
  | some i => simp at h; exact ⟨i, rfl, h.1, h.2.1, h.2.2⟩
theorem app_run (W : World) (g lf : Nat) (olds : List Value) (hlo : olds.length = lf) (ho : ∀ j u, olds[j]? = some u → W.cell? ⟨g, j, none⟩ = some u) (xb : Nat) (x : Value) (hx : W.cell? ⟨xb, 0, none⟩ = some x) (h20 : lf ≤ 1048576) :
    ∃ (g' cap' : Nat) (W' : World), (Builtin.append_ #[149, 149] 149 #[.slice (some ⟨g, 0, none⟩) lf lf, .slice (some ⟨xb, 0, none⟩) 1 1]).run Tryd.prog W = .ok (.slice (some ⟨g', 0, none⟩) (lf + 1) cap') W' ∧
      (∀ j u, olds[j]? = some u → W'.cell? ⟨g', j, none⟩ = some u) ∧ W'.cell? ⟨g', lf, none⟩ = some x ∧ W.heap.size ≤ g' ∧ lf + 1 ≤ cap' ∧ cap' ≤ maxLen ∧ Below W.heap.size W W' := by
  obtain ⟨i0, hi, hz0, hz1, hz2⟩ := info_partsF info_fn
  obtain ⟨v', W', hr, hown, hgr⟩ := run_append_arg_grows (P := Tryd.prog) W 149 149 106 i0 .nilFunc 1 8 Tryd.underlying149 hi hz0 hz1 hz2 rfl (by decide) ⟨g, 0, none⟩ lf lf olds (by omega) (fun j u hj => by
    have := ho j u hj
    by_cases h0 : j = 0
    · subst h0; simpa [Addr.add] using this
    · simpa [Addr.add, h0] using this) ⟨xb, 0, none⟩ 1 1 [x] rfl (fun j u hj => by
    match j with
    | 0 => simp at hj; subst hj; simpa [Addr.add] using hx
    | j + 1 => simp at hj) (by omega) (by unfold maxLen; omega) (by omega)
  have hB : Below W.heap.size W W' := (Below.refl _ _).grown hgr (Nat.le_refl _) (fun k hk => by cases hk)
  obtain ⟨hlen, hsl⟩ := id hown
  rcases hsl with ⟨-, h0⟩ | ⟨g', cap', cur, rfl, hg, hh, h1, h2, h3, h4⟩
  · omega
  refine ⟨g', cap', W', hr, fun j u hj => ?_, ?_, hg, h1, h2, hB⟩
  · have hjl : j < olds.length := (List.getElem?_eq_some_iff.1 hj).1
    rw [hown.cellAt j (by omega), List.getElem?_append_left hjl, hj]
  · rw [hown.cellAt lf (by omega), List.getElem?_append_right (by omega), hlo]; simp

theorem step_append_runP {P : Program} {ops : Array Oper} {o : Oper} {a : Act} {w : World} {K : Act → World → Prop} {Q : Exit → Act → World → Prop} {E : Prop} (hg : o.guard = none) (s x : Operand) (t tn : TypeId)
    (ho : o.op = .call { callee := .builtin .append, args := #[s, x], argTypes := #[t, tn] }) (vs vx : Value) (hs : a.eval s = vs) (hx : a.eval x = vx)
    (v' : Value) (w' : World) (hr : (Builtin.append_ #[t, tn] o.type #[vs, vx]).run P w = .ok v' w') (h : K (a.put o.dst v') w') : if Region.wanted o (yielded ops a.tmps) = true then Oper.wp P o a w K Q else E := by
  have hw : Region.wanted o (yielded ops a.tmps) = true := by simp [Region.wanted, hg]
  rw [if_pos hw]
  exact Lib.wp_append_run w s x t tn ho vs vx hs hx v' w' hr h

/-- A pile of the program's own. -/
def PileO (w : World) (base : Nat) (v : Value) (st : List (Int → Bool)) : Prop :=
  ∃ (g cap : Nat), v = .slice (some ⟨g, 0, none⟩) st.length cap ∧ base ≤ g ∧ st.length ≤ cap ∧ cap ≤ maxLen ∧ ∀ j, j < st.length → ∃ x, w.cell? ⟨g, j, none⟩ = some x ∧ Means base w x (getF st j)
theorem getF_take (st : List (Int → Bool)) (l i : Nat) (h : i < l) : getF (st.take l) i = getF st i := by simp [getF, List.getD, List.getElem?_take, h]
theorem getF_last (st : List (Int → Bool)) (f : Int → Bool) : getF (st ++ [f]) st.length = f := by simp [getF, List.getD]
theorem getF_app (st : List (Int → Bool)) (f : Int → Bool) (i : Nat) (h : i < st.length) : getF (st ++ [f]) i = getF st i := by simp [getF, List.getD, List.getElem?_append_left h]
theorem PileO.below {w w1 : World} {base : Nat} {v : Value} {st : List (Int → Bool)} (h : PileO w base v st) (b : Below w.heap.size w w1) : PileO w1 base v st := by
  obtain ⟨g, cap, e, hb, h1, h2, hc⟩ := h
  refine ⟨g, cap, e, hb, h1, h2, fun j hj => ?_⟩
  obtain ⟨x, hx, hm⟩ := hc j hj
  exact ⟨x, (b.cell (World.block_lt_of_cell? _ _ hx)).trans hx, hm.below b⟩
theorem pileO_next {wz : World} {base g' cap' lf : Nat} {st : List (Int → Bool)} {F : Int → Bool} {olds : List Value} {x : Value} (hlf : lf ≤ st.length) (hb : base ≤ g') (h4 : lf + 1 ≤ cap') (h5 : cap' ≤ maxLen)
    (h1 : ∀ j u, olds[j]? = some u → wz.cell? ⟨g', j, none⟩ = some u) (hom : ∀ j, j < lf → ∃ x, olds[j]? = some x ∧ Means base wz x (getF st j)) (h2 : wz.cell? ⟨g', lf, none⟩ = some x) (hx : Means base wz x F) :
    PileO wz base (.slice (some ⟨g', 0, none⟩) (lf + 1) cap') (st.take lf ++ [F]) := by
  have hl : (st.take lf).length = lf := by rw [List.length_take]; omega
  refine ⟨g', cap', by rw [List.length_append, hl]; rfl, hb, by rw [List.length_append, hl]; exact h4, h5, fun j hj => ?_⟩
  rw [List.length_append, hl, List.length_singleton] at hj
  by_cases e : j = lf
  · subst e
    refine ⟨x, h2, ?_⟩
    have := getF_last (st.take j) F
    rw [hl] at this
    rw [this]; exact hx
  · obtain ⟨y, hy, hm⟩ := hom j (by omega)
    refine ⟨y, h1 j y hy, ?_⟩
    rw [getF_app _ _ _ (by omega), getF_take _ _ _ (by omega)]; exact hm
set_option maxRecDepth 100000 in
set_option maxHeartbeats 4000000 in
theorem workOff_any (v : Value) (zs : List Int) (b mb : Nat) (w : World) (h : RdAt .i64 w v zs b) (hl : zs.length ≤ 1099511627776) (hM : w.heap[mb]? = some (.cells mbCells 152 (0, 0))) :
    Calls Tryd.prog 116 #[v, .slice (some ⟨mb, 0, none⟩) 7 7] w fun e w' => (∃ f, e = .returned (.tuple #[f, .bool (isPat zs)]) ∧ (isPat zs = true → Means w.heap.size w' f (patF zs))) ∧ Below w.heap.size w w' := by
  have hlt0 := h.lt
  obtain ⟨a, cap, rfl, -, -, hcell⟩ := h
  obtain ⟨r, hr⟩ : ∃ r, r = isPat zs := ⟨_, rfl⟩
  have Hr := Lib.hid hr
  rw [← hr]
  clear hr
  obtain ⟨n, hn⟩ : ∃ n, n = zs.length := ⟨_, rfl⟩
  have Hn := Lib.hid hn
  rw [← hn] at hl ⊢
  clear hn
  have HM := Lib.hid (fun wx (bx : Below w.heap.size w wx) => (bx.block _ (Array.getElem?_eq_some_iff.1 hM).1).trans hM)
  have HCl : Hid (∀ wx, Below w.heap.size w wx → ∀ k, k < n → ∃ off, a = some ⟨b, off, none⟩ ∧ wx.cell? ⟨b, off + k, none⟩ = some (.int .i64 (zs.getD k 0))) := Lib.hid (fun wx hb k hk => by
    have hk : k < zs.length := by rw [← Hn.out]; exact hk
    rcases hcell with h0 | ⟨off, e, hc⟩
    · subst h0; simp at hk
    · refine ⟨off, e, ?_⟩
      rw [hb.cell (hlt0 (by intro e; subst e; simp at hk)), hc k hk]
      simp [List.getD, hk])
  clear hcell hlt0 hM
  have HI := Lib.hid (fun wx => inR_any (n : Int) 1 20 wx _ rfl)
  by_cases hin : 1 ≤ n ∧ n ≤ 20
  case neg =>
    have e : decide (1 ≤ (n : Int) ∧ (n : Int) ≤ 20) = false := decide_eq_false (by omega)
    have hres : Hid (r = false) := Lib.hid (by
      rw [Hr.out]
      by_cases h0 : n = 0
      · have : zs = [] := List.length_eq_zero_iff.1 (by rw [← Hn.out]; exact h0)
        subst this; rfl
      · unfold isPat
        split
        · exact decide_eq_false (by rw [← Hn.out]; omega)
        · rfl)
    rw [e] at HI
    clear hin e
    go_enter Tryd.func116, Tryd.ntmps116
    go_wp2_with fail
    refine (HI.out _).mono ?_
    rintro e _w ⟨rfl, rfl⟩
    go_wp2_with fail
    go_ret2
    exact ⟨⟨_, by rw [hres.out]; rfl, fun hh => by rw [hres.out] at hh; cases hh⟩, Below.refl _ _⟩
  have e : decide (1 ≤ (n : Int) ∧ (n : Int) ≤ 20) = true := decide_eq_true (by omega)
  rw [e] at HI
  clear e
  obtain ⟨hn1, hn20⟩ := hin
  go_enter Tryd.func116, Tryd.ntmps116
  go_wp2_with fail
  refine (HI.out _).mono ?_
  rintro e _w ⟨rfl, rfl⟩
  go_wp2_with fail
  go_loopw [7, 9, 10, 11, 12, 21] (fun p _ _ _ _ i wr => ∃ (k : Nat) (st : List (Int → Bool)), k ≤ n ∧ i = .int .i64 k ∧ Below w.heap.size w wr ∧ Hid (workP [] (zs.take k) = some st) ∧ st.length ≤ k ∧ PileO wr w.heap.size p st) (fun _ _ _ _ _ i _ => n - (intOf i).toNat)
  case atStart => exact ⟨0, [], Nat.zero_le _, rfl, (Below.refl _ _).alloc (Nat.le_refl _) _, Lib.hid rfl, Nat.zero_le _, ⟨_, _, rfl, Nat.le_refl _, Nat.le_refl _, Nat.zero_le _, fun j hj => by simp at hj⟩⟩
  case round =>
    obtain ⟨k, st, hk, rfl, B, hst, hsl, hp⟩ := hrel
    by_cases hlt : k < n
    · have hkz : k < zs.length := by rw [← Hn.out]; exact hlt
      obtain ⟨off, ha, hc⟩ := HCl.out wr B k hlt
      subst ha
      obtain ⟨s, hs⟩ : ∃ s, Hid (zs.getD k 0 = s) := ⟨_, Lib.hid rfl⟩
      rw [hs.out] at hc
      have hz : Hid (zs[k] = s) := Lib.hid (by rw [← hs.out]; simp [List.getD, hkz])
      have hW1 := patNew wr (.cells #[.int .i64 s] 3)
      have B1 : Below wr.heap.size wr (wr.alloc (.cells #[.int .i64 s] 3)) := (Below.refl _ _).alloc (Nat.le_refl _) _
      have HX := Lib.hid (index_any mb wr.heap.size s (wr.alloc (.cells #[.int .i64 s] 3)) ((B1.block _ (Array.getElem?_eq_some_iff.1 (HM.out wr B)).1).trans (HM.out wr B)) (patCell hW1))
      have hmf : ∀ (fn : Fn) (first cap : Array Value) (w : World), (Instr.makeFunc fn first cap).run Tryd.prog w = .ok (.func fn first cap) w := fun _ _ _ _ => rfl
      have Hp := Lib.hid hp
      obtain ⟨g, cp, rfl, hg0, hg1, hg2, -⟩ := hp
      have HB1 := Lib.hid B1
      have HW1 := Lib.hid hW1
      clear B1 hW1
      go_wp2_with fail
      refine HX.out.mono ?_
      rintro e w1 ⟨⟨ri, rfl, hri⟩, Bx⟩
      have hS1 := Lib.hid ((Bx.block _ (by simp)).trans HW1.out)
      have B2 := HB1.out.trans (Bx.mono (by simp))
      rcases hri with ⟨rfl, hno⟩ | ⟨q, rfl, hq7, hhas⟩
      · have hres : Hid (r = false) := Lib.hid (by rw [Hr.out]; exact pat_bad zs k hkz st hst.out (by rw [hz.out]; exact step_nohas st s hno))
        have B3 := B.trans (B2.mono B.size)
        clear hno HX Bx
        go_wp2_with fail
        go_ret2
        exact ⟨⟨_, by rw [hres.out]; rfl, fun hh => by rw [hres.out] at hh; cases hh⟩, B3⟩
      · have BM := B.trans (B2.mono B.size)
        obtain ⟨c0, c1, c2, c3⟩ := mb_cells (HM.out w1 BM) q hq7
        obtain ⟨b1, b2, b3, b4, b5⟩ := gA_le q
        by_cases hsh : st.length < gT q
        · have hres : Hid (r = false) := Lib.hid (by rw [Hr.out]; exact pat_bad zs k hkz st hst.out (by rw [hz.out]; exact step_short st s q hq7 hhas hsh))
          clear hhas HX Bx
          generalize gA q = ga at *
          generalize gC q = gc at *
          generalize gT q = gt at *
          generalize gF q = gf at *
          generalize st.length = sl at *
          have hd : decide (sl < gt) = true := by simpa using hsh
          go_wp2_with fail
          go_ret2
          exact ⟨⟨_, by rw [hres.out]; rfl, fun hh => by rw [hres.out] at hh; cases hh⟩, BM⟩
        · have hgt : gT q ≤ st.length := by omega
          have hstep := Lib.hid (step_has st s q hq7 hhas hgt)
          have hgE := gEnt q hq7
          unfold Enters at hgE
          have HK := Lib.hid (fun tv st' wx (hw : w.heap.size ≤ wx.heap.size) h1 h2 h3 => gMk q hq7 (s - gA q) tv st' wx w.heap.size hw h1 h2 h3)
          have HBz := Lib.hid B.size
          have hd : decide (st.length < gT q) = false := decide_eq_false (by omega)
          obtain ⟨lf, hlf⟩ : ∃ lf : Nat, lf = st.length - gT q := ⟨_, rfl⟩
          have hlfs : st.length = lf + gT q := by omega
          rw [← hlf] at hstep
          have Hlf := Lib.hid hlf
          have hs18 : s - gA q = s - gA q := rfl
          have hsb : -1000 ≤ s ∧ s ≤ 3000 := by
            have := of_decide_eq_true hhas
            omega
          obtain ⟨hsb1, hsb2⟩ := hsb
          clear hlf hsh hhas HX Bx hd
          generalize gS q = gs at *
          generalize gA q = ga at *
          generalize gC q = gc at *
          generalize gT q = gt at *
          generalize gF q = gf at *
          obtain ⟨W2, hW2⟩ : ∃ W, W = w1.alloc (.cells #[.int .i64 ga, .int .i64 gc, .int .i64 gt, .func (.func gf) #[] #[]] 152) := ⟨_, rfl⟩
          have BW2 : Below w1.heap.size w1 W2 := by rw [hW2]; exact (Below.refl _ _).alloc (Nat.le_refl _) _
          have lW2 : w1.heap.size < W2.heap.size := by rw [hW2]; simp
          have cW2 : W2.heap[w1.heap.size]? = some (.cells #[.int .i64 ga, .int .i64 gc, .int .i64 gt, .func (.func gf) #[] #[]] 152 (0, 0)) := by rw [hW2]; exact patNew _ _
          have HW2 := Lib.hid hW2
          have BrW2 : Below wr.heap.size wr W2 := B2.trans (BW2.mono B2.size)
          have lw1 : wr.heap.size < w1.heap.size := (Array.getElem?_eq_some_iff.1 hS1.out).1
          have HG : Hid (∀ wx, Below W2.heap.size W2 wx → wx.cell? ⟨w1.heap.size, 0, none⟩ = some (.int .i64 ga) ∧ wx.cell? ⟨w1.heap.size, 3, none⟩ = some (.func (.func gf) #[] #[]) ∧ wx.cell? ⟨wr.heap.size, 0, none⟩ = some (.int .i64 s)) := Lib.hid (fun wx bx => by
            have c := (bx.block _ lW2).trans cW2
            have d := (bx.block _ (by omega)).trans ((BW2.block _ lw1).trans hS1.out)
            refine ⟨?_, ?_, patCell d⟩ <;> simp [World.cell?, c])
          have HPF : Hid (∀ wx, Below wr.heap.size wr wx → ∀ a', (gt = 0 ∨ a' = some ⟨g, lf, none⟩) → PileF w.heap.size wx (.slice a' gt (cp - lf)) (st.drop lf)) := Lib.hid (fun wx bx a' ha' => by
            obtain ⟨g', cap', e, hgb, -, -, hcs⟩ := Hp.out.below bx
            simp only [Value.slice.injEq, Option.some.injEq, Addr.mk.injEq, and_true, true_and] at e
            obtain ⟨rfl, rfl⟩ := e
            have hdl : (st.drop lf).length = gt := by rw [List.length_drop]; omega
            refine ⟨a', cp - lf, by rw [hdl], by rw [hdl]; omega, by omega, ?_⟩
            rcases ha' with h0 | rfl
            · exact .inl (List.length_eq_zero_iff.1 (by rw [hdl]; exact h0))
            · refine .inr ⟨g, lf, rfl, hgb, fun j hj => ?_⟩
              obtain ⟨x, hx, hm⟩ := hcs (lf + j) (by rw [hdl] at hj; omega)
              exact ⟨x, hx, by rw [getF_drop]; exact hm⟩)
          obtain ⟨olds, holds⟩ : ∃ olds : List Value, olds = (List.range lf).map fun j => (wr.cell? ⟨g, j, none⟩).getD undef := ⟨_, rfl⟩
          have hlo : olds.length = lf := by rw [holds]; simp
          have HO : Hid (∀ wx, Below wr.heap.size wr wx → ∀ j u, olds[j]? = some u → wx.cell? ⟨g, j, none⟩ = some u) := Lib.hid (fun wx bx j u hj => by
            have hjl : j < lf := by have := (List.getElem?_eq_some_iff.1 hj).1; omega
            obtain ⟨g', cap', e, -, -, -, hcs⟩ := Hp.out
            simp only [Value.slice.injEq, Option.some.injEq, Addr.mk.injEq, and_true, true_and] at e
            obtain ⟨rfl, rfl⟩ := e
            obtain ⟨x, hx, hm⟩ := hcs j (by omega)
            rw [holds] at hj
            simp [hjl, hx] at hj
            subst hj
            exact (bx.cell (World.block_lt_of_cell? _ _ hx)).trans hx)
          have HOM : Hid (∀ wx, Below wr.heap.size wr wx → ∀ j, j < lf → ∃ x, olds[j]? = some x ∧ Means w.heap.size wx x (getF st j)) := Lib.hid (fun wx bx j hjl => by
            obtain ⟨g', cap', e, -, -, -, hcs⟩ := Hp.out
            simp only [Value.slice.injEq, Option.some.injEq, Addr.mk.injEq, and_true, true_and] at e
            obtain ⟨rfl, rfl⟩ := e
            obtain ⟨x, hx, hm⟩ := hcs j (by omega)
            exact ⟨x, by rw [holds]; simp [hjl, hx], hm.below bx⟩)
          have hdl : (st.drop lf).length = gt := by rw [List.length_drop]; omega
          have hlf20 : lf ≤ 1048576 := by omega
          have hgt20 : gt ≤ 1048576 := by omega
          have Hdl := Lib.hid hdl
          have Hlo := Lib.hid hlo
          have HBr := Lib.hid BrW2
          have hcpc : cp ≤ 9223372036854775807 := by unfold maxLen at hg2; exact hg2
          have hsg : IntKind.i64.wrap (s - ga) = s - ga := by rw [IntKind.wrap_i64]; omega
          clear hW2 cW2 holds hdl hlo BW2 BrW2
          go_wp2_with fail
          clear c0 c1 c2 c3 hS1 hc
          rw [← HW2.out]
          by_cases hcp : lf < cp
          · have hcp1 : ¬ (cp - lf = 0) := by omega
            have iA : lf ≤ cp := by omega
            have iA' : (lf : Int) ≤ (cp : Int) := by omega
            have iB : (lf : Int) ≤ (lf : Int) + (gt : Int) := by omega
            have iC : ¬ cp = lf := by omega
            have iD : (0 : Int) ≤ (lf : Int) := by omega
            have HPF1 := Lib.hid (fun wx bx => HPF.out wx bx (some ⟨g, lf, none⟩) (.inr rfl))
            obtain ⟨y00, y01, y02⟩ := HG.out W2 (Below.refl _ _)
            go_region_held3 (fun w' => w'.cell? ⟨w1.heap.size, 0, none⟩ = some (.int .i64 ga) ∧ w'.cell? ⟨w1.heap.size, 3, none⟩ = some (.func (.func gf) #[] #[]) ∧ w'.cell? ⟨wr.heap.size, 0, none⟩ = some (.int .i64 s)) (go_keep) (first
              | (go_at_fn gf; refine (HK.out _ (st.drop lf) _ (Nat.le_trans HBz.out HBr.out.drew.size) (HPF1.out _ HBr.out.drew) (by rw [Hdl.out]; exact Nat.le_refl _) (by rw [Hdl.out]; exact hgt20)).mono ?_; rintro e wy ⟨xv, rfl, hmv, By⟩; obtain ⟨fx, cx, ex, -⟩ := id hmv; subst ex; have Bry : Below wr.heap.size wr wy := HBr.out.drew.trans (By.mono HBr.out.drew.size); have B2y : Below W2.heap.size W2 wy := (Below.refl _ _).drew.trans By; obtain ⟨y0, y1, y2⟩ := HG.out wy B2y)
              | (obtain ⟨g', cap', wz, hrz, hz1, hz2, hz3, hz4, hz5, Bz⟩ := app_run (wy.alloc (.cells #[.func (.func fx) #[] cx] 106)) g lf olds Hlo.out (HO.out _ (Bry.alloc Bry.size _)) wy.heap.size _ (patCell (patNew wy _)) hlf20; refine step_append_runP rfl _ _ _ _ rfl _ _ rfl rfl _ _ hrz ?_; have Byz : Below wy.heap.size wy wz := ((Below.refl _ _).alloc (Nat.le_refl _) _).trans (Bz.mono (by simp)); obtain ⟨z0, z1, z2⟩ := HG.out wz (B2y.trans (Byz.mono B2y.size))))
            all_goals
              have Brz : Below wr.heap.size wr wz := Bry.trans (Byz.mono Bry.size)
              have hrel2 : Hid (PileO wz w.heap.size (.slice (some ⟨g', 0, none⟩) (lf + 1) cap') (st.take lf ++ [gs (s - ga) (st.drop lf)])) := Lib.hid (pileO_next (by omega) (by have := B.size; have := Bry.size; simp at hz3; omega) hz4 hz5 hz1 (HOM.out wz Brz) hz2 (hmv.below Byz))
              have hst2 : Hid (workP [] (zs.take (k + 1)) = some (st.take lf ++ [gs (s - ga) (st.drop lf)])) := Lib.hid (by rw [work_next zs k hkz st hst.out, hz.out, hstep.out])
              have hln : (st.take lf ++ [gs (s - ga) (st.drop lf)]).length ≤ k + 1 := by rw [List.length_append, List.length_take]; simp; omega
              have Bwz : Below w.heap.size w wz := B.trans (Brz.mono B.size)
              clear hrz hz1 hz2 hz3 hz4 hz5 hmv Bz Byz z0 z1 z2 y0 y1 y2
              go_wp2_with fail
              go_roundw
              case rel => exact ⟨k + 1, _, by omega, by go_num, Bwz, hst2, hln, hrel2.out⟩
              case measure => simp [intOf]; omega
          · obtain rfl : gt = 0 := by omega
            obtain rfl : cp = lf := by omega
            have HPF1 : Hid (∀ wx, Below wr.heap.size wr wx → PileF w.heap.size wx (.slice (some ⟨g, 0, none⟩) 0 0) (st.drop cp)) := Lib.hid (fun wx bx => by simpa using HPF.out wx bx (some ⟨g, 0, none⟩) (.inl rfl))
            obtain ⟨y00, y01, y02⟩ := HG.out W2 (Below.refl _ _)
            go_region_held3 (fun w' => w'.cell? ⟨w1.heap.size, 0, none⟩ = some (.int .i64 ga) ∧ w'.cell? ⟨w1.heap.size, 3, none⟩ = some (.func (.func gf) #[] #[]) ∧ w'.cell? ⟨wr.heap.size, 0, none⟩ = some (.int .i64 s)) (go_keep) (first
              | (go_at_fn gf; refine (HK.out _ (st.drop cp) _ (Nat.le_trans HBz.out HBr.out.drew.size) (HPF1.out _ HBr.out.drew) (by rw [Hdl.out]; exact Nat.le_refl _) (by rw [Hdl.out]; exact hgt20)).mono ?_; rintro e wy ⟨xv, rfl, hmv, By⟩; obtain ⟨fx, cx, ex, -⟩ := id hmv; subst ex; have Bry : Below wr.heap.size wr wy := HBr.out.drew.trans (By.mono HBr.out.drew.size); have B2y : Below W2.heap.size W2 wy := (Below.refl _ _).drew.trans By; obtain ⟨y0, y1, y2⟩ := HG.out wy B2y)
              | (obtain ⟨g', cap', wz, hrz, hz1, hz2, hz3, hz4, hz5, Bz⟩ := app_run (wy.alloc (.cells #[.func (.func fx) #[] cx] 106)) g cp olds Hlo.out (HO.out _ (Bry.alloc Bry.size _)) wy.heap.size _ (patCell (patNew wy _)) hlf20; refine step_append_runP rfl _ _ _ _ rfl _ _ rfl rfl _ _ hrz ?_; have Byz : Below wy.heap.size wy wz := ((Below.refl _ _).alloc (Nat.le_refl _) _).trans (Bz.mono (by simp)); obtain ⟨z0, z1, z2⟩ := HG.out wz (B2y.trans (Byz.mono B2y.size))))
            all_goals
              have Brz : Below wr.heap.size wr wz := Bry.trans (Byz.mono Bry.size)
              have hrel2 : Hid (PileO wz w.heap.size (.slice (some ⟨g', 0, none⟩) (cp + 1) cap') (st.take cp ++ [gs (s - ga) (st.drop cp)])) := Lib.hid (pileO_next (by omega) (by have := B.size; have := Bry.size; simp at hz3; omega) hz4 hz5 hz1 (HOM.out wz Brz) hz2 (hmv.below Byz))
              have hst2 : Hid (workP [] (zs.take (k + 1)) = some (st.take cp ++ [gs (s - ga) (st.drop cp)])) := Lib.hid (by rw [work_next zs k hkz st hst.out, hz.out, hstep.out])
              have hln : (st.take cp ++ [gs (s - ga) (st.drop cp)]).length ≤ k + 1 := by rw [List.length_append, List.length_take]; simp; omega
              have Bwz : Below w.heap.size w wz := B.trans (Brz.mono B.size)
              clear hrz hz1 hz2 hz3 hz4 hz5 hmv Bz Byz z0 z1 z2 y0 y1 y2
              go_wp2_with fail
              go_roundw
              case rel => exact ⟨k + 1, _, by omega, by go_num, Bwz, hst2, hln, hrel2.out⟩
              case measure => simp [intOf]; omega
    · obtain rfl : k = n := by omega
      have hz : Hid (workP [] zs = some st) := Lib.hid (by rw [← hst.out, List.take_of_length_le (by rw [Hn.out]; exact Nat.le_refl _)])
      have hend := pat_end zs st hz.out
      rw [← Hr.out, decide_eq_true (show zs.length ≤ 20 by rw [← Hn.out]; exact hn20), Bool.and_true] at hend
      obtain ⟨g, cp, rfl, hg0, hg1, hg2, hcs⟩ := hp
      by_cases h1 : st.length = 1
      · obtain ⟨x, hx, hm⟩ := hcs 0 (by omega)
        have hq : ((st.length : Int) != 1) = false := by simp; omega
        have hrt : Hid (r = true) := Lib.hid (by rw [hend]; exact decide_eq_true h1)
        have hpf : Hid (patF zs = getF st 0) := Lib.hid (by
          match st, h1 with
          | [f], _ => unfold patF; rw [hz.out]; rfl)
        have Hm := Lib.hid hm
        have hpos : (0 : Int) < (st.length : Int) := by omega
        clear hend hcs hm h1
        generalize st.length = sl at *
        go_wp2_with fail
        go_ret2
        exact ⟨⟨x, by rw [hrt.out]; rfl, fun _ => by rw [hpf.out]; exact Hm.out⟩, B⟩
      · have hq : ((st.length : Int) != 1) = true := by simp; omega
        have hres : Hid (r = false) := Lib.hid (by rw [hend]; exact decide_eq_false h1)
        clear hend hcs h1
        generalize st.length = sl at *
        go_wp2_with fail
        go_ret2
        exact ⟨⟨_, by rw [hres.out]; rfl, fun hh => by rw [hres.out] at hh; cases hh⟩, B⟩
set_option maxRecDepth 100000 in
set_option maxHeartbeats 1000000 in
theorem matcherOf_any (v : Value) (zs : List Int) (b : Nat) (w : World) (h : RdAt .i64 w v zs b) (hl : zs.length ≤ 1099511627776) (hG : Grps w) :
    Calls Tryd.prog 108 #[v] w fun e w' => (∃ f, e = .returned (.tuple #[f, .bool (isPat zs)]) ∧ (isPat zs = true → Means w.heap.size w' f (patF zs))) ∧ Below w.heap.size w w' := by
  have B0 : Below w.heap.size w (w.alloc (.cells mbCells 152)) := (Below.refl _ _).alloc (Nat.le_refl _) _
  have HW := Lib.hid (workOff_any v zs b w.heap.size (w.alloc (.cells mbCells 152)) (h.below B0) hl (patNew _ _))
  obtain ⟨a, cap, rfl, -, -, -⟩ := h
  obtain ⟨⟨g00, g01, g02⟩, ⟨g10, g11, g12⟩, ⟨g20, g21, g22⟩, ⟨g30, g31, g32⟩, ⟨g40, g41, g42⟩, ⟨g50, g51, g52⟩, ⟨g60, g61, g62⟩⟩ := hG
  have HB0 := Lib.hid B0
  clear B0
  unfold mbCells at HW HB0
  go_enter Tryd.func108, Tryd.ntmps108
  go_wp2_with fail
  refine HW.out.mono ?_
  rintro e w1 ⟨⟨f, rfl, hm⟩, B1⟩
  have B2 := HB0.out.trans (B1.mono (by simp))
  go_wp2_with fail
  go_ret2
  exact ⟨⟨f, rfl, fun h => (hm h).weaken (by simp)⟩, B2⟩
end Go.Proofs.YtmfammgdcdlceaaDoor
