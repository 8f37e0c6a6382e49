/-
  Stacked, both sides.
-/
import Derived.Test.YtoeobpdgfhgpiaaPileJ
import Derived.Test.YtoeobpdgfhgpiaaCopyI
import Derived.Test.YtoeobpdgfhgpiaaFrX
import Derived.Test.YtoeobpdgfhgpiaaNPile
import Derived.Maps.AppendAt
import Derived.Deep.RegionLaw
import Derived.Laws.ResultCell
import Derived.Lib.AppendZerosOnto
namespace Go.Proofs.Ytoeobpdgfhgpiaa
open Go.RowKit
set_option linter.unusedVariables false
set_option linter.unusedSimpArgs false

theorem nodup_len : ∀ (zs L : List Int), (∀ x ∈ zs, x ∈ L) → zs.Nodup → zs.length ≤ L.length
  | [], _, _, _ => by simp
  | z :: zs, L, h, hn => by
    have hz : z ∈ L := h z (by simp)
    obtain ⟨hz2, hn2⟩ := List.nodup_cons.1 hn
    have := nodup_len zs (L.erase z) (fun x hx => (List.mem_erase_of_ne (by rintro rfl; exact hz2 hx)).2 (h x (by simp [hx]))) hn2
    rw [List.length_erase_of_mem hz] at this
    have := List.length_pos_of_mem hz
    simp only [List.length_cons]; omega
theorem hand_nodup {zs : List Int} (h : isHand zs = true) : ∀ k, k ≤ zs.length → (zs.take k).Nodup
  | 0, _ => by simp
  | k + 1, hk => by
    have h2 := (of_decide_eq_true h) k (by omega)
    rw [List.take_succ_eq_append_getElem (by omega)]
    refine List.nodup_append.2 ⟨hand_nodup h k (by omega), by simp, ?_⟩
    intro a ha b hb hab
    simp at hb
    subst hb; subst hab
    exact h2.2 ha
theorem hand_52 {zs : List Int} (h : isHand zs = true) : zs.length ≤ 52 := by
  have h1 := hand_nodup h zs.length (Nat.le_refl _)
  rw [List.take_length] at h1
  have := nodup_len zs ((List.range 52).map Int.ofNat) (fun x hx => by
    obtain ⟨j, hj, rfl⟩ := List.getElem_of_mem hx
    have h3 := isCard_t ((of_decide_eq_true h) j hj).1
    exact List.mem_map.2 ⟨(zs[j]).toNat, by simp; omega, by show ((zs[j]).toNat : Int) = _; omega⟩) h1
  simpa using this
/-- The first k cards go on the pile, one by one. -/
def stOK (D : MPile) (zs : List Int) (k : Nat) : Bool := decide (∀ i, i < k → mayStack ⟨D.cards ++ zs.take i, D.hidden⟩ (zs.getD i 0) = true)
def stacked (D : MPile) (zs : List Int) : MPile := if stOK D zs zs.length = true then ⟨D.cards ++ zs, D.hidden⟩ else D
theorem stOK_0 (D : MPile) (zs : List Int) : stOK D zs 0 = true := by simp [stOK]
theorem stOK_s {D : MPile} {zs : List Int} {k : Nat} (h : stOK D zs k = true) (h2 : mayStack ⟨D.cards ++ zs.take k, D.hidden⟩ (zs.getD k 0) = true) : stOK D zs (k + 1) = true := by
  unfold stOK at h ⊢
  have h := of_decide_eq_true h
  refine decide_eq_true (fun i hi => ?_)
  rcases Nat.lt_or_ge i k with e | e
  · exact h i e
  · obtain rfl : i = k := by omega
    exact h2
theorem stOK_no {D : MPile} {zs : List Int} {k n : Nat} (hk : k < n) (h2 : mayStack ⟨D.cards ++ zs.take k, D.hidden⟩ (zs.getD k 0) = false) : stOK D zs n = false := by
  unfold stOK
  refine decide_eq_false (fun h => ?_)
  rw [h k hk] at h2; cases h2
theorem stOK_len {D : MPile} {zs : List Int} {k : Nat} (h : stOK D zs k = true) (hf : D.Few) (hk : k ≤ zs.length) : (D.cards ++ zs.take k).length ≤ 1048576 := by
  have h0 : D.cards.length ≤ 1048576 := hf.1
  rcases k with _ | k
  · simpa using h0
  · have h1 := (of_decide_eq_true h) k (by omega)
    unfold mayStack at h1
    rw [Bool.and_eq_true] at h1
    have h2 := hand_52 (pile_t h1.1).1
    simp only [List.length_append, List.length_take] at h2 ⊢
    omega
theorem stacked_few (D : MPile) (zs : List Int) (hf : D.Few) : (stacked D zs).Few := by
  unfold stacked
  split
  · have := stOK_len (by assumption) hf (Nat.le_refl _)
    rw [List.take_length] at this
    exact ⟨this, trivial⟩
  · exact hf
theorem results_cell_row_tmp {P : Program} {fn : Func} {p u : Tmp} {ty : TypeId} (h : fn.results = #[.cell p ty, .tmp u]) (tmps : Array Value) (w : World) (g : Nat) (t : TypeId) (cs : Array Value) (fr : Nat × Nat) (d : TypeDesc)
    (hp : tmps.getD p undef = .pointer (some ⟨g, 0, none⟩)) (hg : w.heap[g]? = some (.cells cs t fr))
    (hu : P.underlying ty = some d) (hd : (match d with | .struct _ | .array _ _ => true | _ => false) = true) (hi : (P.info? ty).map (·.size) = some cs.size) :
    (results fn tmps).run P w = .ok (.tuple #[.agg cs, tmps.getD u undef]) w := by
  have hp' : tmps[p]?.getD undef = .pointer (some ⟨g, 0, none⟩) := by simpa using hp
  simp [results, h, hp', asAddr, run_loadVar_row w g t ty cs fr d hg hu hd hi]
/-- What the call owns, grown by one number that lies in a fresh block. -/
theorem snocS_run {w : World} {base : Nat} {v : Value} {F : List Int} (h : w.ownsRow base 3 1 v F.length (F.map (Value.int .i64))) (y : Int) (hF : F.length ≤ 200000000) (hb : base ≤ w.heap.size) (ty : TypeId) :
    ∃ v' w', (Builtin.append_ #[22, 22] ty #[v, .slice (some ⟨w.heap.size, 0, none⟩) 1 1]).run Try.prog (w.alloc (.cells #[.int .i64 y] 3)) = .ok v' w' ∧
      w'.ownsRow base 3 1 v' (F ++ [y]).length ((F ++ [y]).map (Value.int .i64)) ∧ (∀ w0 : World, Below w0.heap.size w0 w → w0.heap.size ≤ base → Below w0.heap.size w0 w') ∧
      (∀ g o, g < w.heap.size → v.ownBlock ≠ some g → w.heap[g]? = some o → w'.heap[g]? = some o ∧ v'.ownBlock ≠ some g) ∧ w.heap.size ≤ w'.heap.size ∧ ∃ p c, v' = .slice p (F.length + 1) c := by
  obtain ⟨i0, hi, hz0, hz1, hz2⟩ := info_parts info_i64
  have hb1 : Below w.heap.size w (w.alloc (.cells #[.int .i64 y] 3)) := (Below.refl _ _).alloc (Nat.le_refl _) _
  obtain ⟨v', w', hrun, hown, hgr, -, hat⟩ := run_append_own_at (P := Try.prog) (w.alloc (.cells #[.int .i64 y] 3)) base 22 ty 3 i0 (.int .i64 0) 1 8 Try.underlying22 hi hz0 hz1 hz2 rfl (by decide) _ _ _ (h.alloc _) ⟨w.heap.size, 0, none⟩ 1 1 [.int .i64 y] rfl (cell_one_new _ _ _) (one_cell _ _) (by unfold maxLen; omega) (by omega) (Nat.le_trans hb hb1.size)
  refine ⟨v', w', hrun, by rw [List.length_append, List.map_append]; exact hown, fun w0 B0 h0 => ?_, fun g o hg hne ho => ⟨?_, ?_⟩, by have := hgr.size; have := hb1.size; omega, own_shape hown⟩
  · have B1 := B0.trans (hb1.mono B0.size)
    exact B1.grown hgr B1.size (fun q hq => by have := own_block h q hq; omega)
  · rw [hgr.block g (Nat.lt_of_lt_of_le hg hb1.size) (fun e => hne e.symm), hb1.block g hg]; exact ho
  · rcases hat with e | e
    · rw [e]; exact hne
    · rw [e]; intro e2
      have := Option.some.inj e2
      have : (w.alloc (.cells #[.int .i64 y] 3)).heap.size = w.heap.size + 1 := by simp
      omega
theorem step_append_runS {P : Program} {ops : Array Oper} {o : Oper} {a : Act} {w : World} {K : Act → World → Prop} {Q : Exit → Act → World → Prop} {E : Prop} (hg : o.guard = none) (s x : Operand) (t tn : TypeId)
    (ho : o.op = .call { callee := .builtin .append, args := #[s, x], argTypes := #[t, tn] }) (vs vx : Value) (hs : a.eval s = vs) (hx : a.eval x = vx)
    (v' : Value) (w' : World) (hr : (Builtin.append_ #[t, tn] o.type #[vs, vx]).run P w = .ok v' w') (h : K (a.put o.dst v') w') : if Region.wanted o (yielded ops a.tmps) = true then Oper.wp P o a w K Q else E := by
  have hw : Region.wanted o (yielded ops a.tmps) = true := by simp [Region.wanted, hg]
  rw [if_pos hw]
  exact Lib.wp_append_run w s x t tn ho vs vx hs hx v' w' hr h
theorem own_same {w w' : World} {B : Nat} {E : TypeId} {size n : Nat} {v : Value} {xs : List Value} (h : w.ownsRow B E size v n xs) (hk : ∀ q, v.ownBlock = some q → w'.heap[q]? = w.heap[q]?) : w'.ownsRow B E size v n xs := by
  obtain ⟨hl, h⟩ := h
  refine ⟨hl, h.imp id ?_⟩
  rintro ⟨g', cap', cur, e', hg, hh, r⟩
  refine ⟨g', cap', cur, e', hg, ?_, r⟩
  rw [hk g' (by rw [e']; rfl)]; exact hh
/-- A copy of a row, appended to nothing. -/
theorem copy_run {w : World} {vr : Value} {zs : List Int} {b : Nat} (hr : RdAt .i64 w vr zs b) (hl : zs.length ≤ 1048576) (ty : TypeId) :
    ∃ v' w', (Builtin.append_ #[22, 22] ty #[.slice (some ⟨w.heap.size, 0, none⟩) 0 0, vr]).run Try.prog (w.alloc (.cells #[] 3)) = .ok v' w' ∧ w'.ownsRow w.heap.size 3 1 v' zs.length (zs.map (Value.int .i64)) ∧ Below w.heap.size w w' := by
  obtain ⟨i0, hi, hz0, hz1, hz2⟩ := info_parts info_i64
  have hown0 := World.ownsRow_lit (base := w.heap.size) (e := 3) (size := 1) w #[] 0 (Nat.le_refl _) (Nat.zero_le _) rfl
  have hb0 : Below w.heap.size w (w.alloc (.cells #[] 3)) := (Below.refl _ _).alloc (Nat.le_refl _) _
  have ha := hr.below hb0
  rcases ha.open with ⟨rfl, ad, cap, rfl, hcm, hnil⟩ | ⟨hne, off, cap, rfl, hcap, hc⟩
  · cases ad with
    | none =>
      have hc0 := hnil rfl
      subst hc0
      exact ⟨_, _, run_append_owned_none _ w.heap.size 22 ty 3 i0 1 Try.underlying22 hi _ 0 [] hown0, hown0, hb0⟩
    | some ad =>
      obtain ⟨v', w', hrun, hown, hgr, -, -⟩ := run_append_own_at (P := Try.prog) (w.alloc (.cells #[] 3)) w.heap.size 22 ty 3 i0 (.int .i64 0) 1 8 Try.underlying22 hi hz0 hz1 hz2 rfl (by decide) _ _ _ hown0 ad 0 cap [] rfl (by simp) (by simp) (by unfold maxLen; omega) (by omega) hb0.size
      exact ⟨v', w', hrun, by simpa using hown, hb0.grown hgr hb0.size (own_block hown0)⟩
  · obtain ⟨v', w', hrun, hown, hgr, -, -⟩ := run_append_own_at (P := Try.prog) (w.alloc (.cells #[] 3)) w.heap.size 22 ty 3 i0 (.int .i64 0) 1 8 Try.underlying22 hi hz0 hz1 hz2 rfl (by decide) _ _ _ hown0 ⟨b, off, none⟩ zs.length cap (zs.map (Value.int .i64)) (by simp) (fun j u hu => by
        have hj : j < zs.length := by have := (List.getElem?_eq_some_iff.1 hu).1; simpa using this
        have e2 : (⟨b, off, none⟩ : Addr).add j = ⟨b, off + j, none⟩ := by simp [Addr.add]
        rw [e2, hc j hj]
        simpa [hj] using hu) (by intro u hu; simp at hu; obtain ⟨y, _, rfl⟩ := hu; rfl) (by unfold maxLen; omega) (by omega) hb0.size
    exact ⟨v', w', hrun, by simpa using hown, hb0.grown hgr hb0.size (own_block hown0)⟩
set_option maxRecDepth 100000 in
set_option maxHeartbeats 1000000 in
theorem copyPile_any (v : Value) (D : MPile) (w : World) (h : RdPile w v D) (hf : D.Few) :
    Calls Try.prog 27 #[v] w fun e w' => ∃ p c, e = .returned (.agg #[.slice p D.cards.length c, .int .i64 D.hidden]) ∧ w'.ownsRow (w.heap.size + 2) 3 1 (.slice p D.cards.length c) D.cards.length (D.cards.map (Value.int .i64)) ∧ Below w.heap.size w w' := by
  obtain ⟨v0, b0, rfl, h0, -⟩ := h
  obtain ⟨p0, c0, e0, -⟩ := id h0
  subst e0
  obtain ⟨f0, -⟩ := hf
  obtain ⟨n, hn⟩ : ∃ n, n = D.cards.length := ⟨_, rfl⟩
  have HC : Hid (∀ wx, Below w.heap.size w wx → Calls Try.prog 42 #[.slice p0 n c0] wx fun e w' => ∃ v', e = .returned v' ∧ w'.ownsRow wx.heap.size 3 1 v' n (D.cards.map (Value.int .i64)) ∧ Below wx.heap.size wx w') := Lib.hid (fun wx hb => by
    rw [hn]; exact copyInts_own _ D.cards b0 wx (h0.below hb) (by omega))
  have B0 : Below w.heap.size w ((w.alloc (.cells #[.slice p0 n c0, .int .i64 D.hidden] 32)).alloc (.cells #[.slice none 0 0, .int .i64 0] 32)) := ((Below.refl _ _).alloc (Nat.le_refl _) _).alloc (by simp) _
  obtain ⟨W0, hW0⟩ : ∃ W, W = (w.alloc (.cells #[.slice p0 n c0, .int .i64 D.hidden] 32)).alloc (.cells #[.slice none 0 0, .int .i64 0] 32) := ⟨_, rfl⟩
  have G0 : W0.heap[w.heap.size]? = some (.cells #[.slice p0 n c0, .int .i64 D.hidden] 32 (0, 0)) := by rw [hW0]; exact heap_alloc2_old _ _ _
  have G1 : W0.heap[w.heap.size + 1]? = some (.cells #[.slice none 0 0, .int .i64 0] 32 (0, 0)) := by rw [hW0]; exact heap_alloc2_new _ _ _
  have hsz : W0.heap.size = w.heap.size + 2 := by rw [hW0]; simp
  rw [← hW0] at B0
  have HW := Lib.hid hW0
  have HS := Lib.hid hsz
  obtain ⟨k0, k1⟩ := SPile_cells G0
  have HG := Lib.hid (And.intro G0 G1)
  rw [← hn]
  clear hW0 hsz hn h0 f0 G0 G1
  go_enter Try.func27, Try.ntmps27
  go_wp2_with fail
  rw [← HW.out]
  refine (HC.out _ B0).mono ?_
  rintro e w1 ⟨v1, rfl, ho, bb⟩
  obtain ⟨p1, c1, e1⟩ := own_shape ho
  subst e1
  have hs0 := HS.out
  have hs1 := bb.size
  have g0 := (bb.block _ (show w.heap.size < W0.heap.size by omega)).trans HG.out.1
  have g1 := (bb.block _ (show w.heap.size + 1 < W0.heap.size by omega)).trans HG.out.2
  obtain ⟨X0, hX0⟩ : ∃ X, X = w1.setCell ⟨w.heap.size, 0, none⟩ (.slice p1 n c1) := ⟨_, rfl⟩
  have gx0 : X0.heap[w.heap.size]? = some (.cells #[.slice p1 n c1, .int .i64 D.hidden] 32 (0, 0)) := by rw [hX0]; exact box_set g0 0 _
  have gx1 : X0.heap[w.heap.size + 1]? = some (.cells #[.slice none 0 0, .int .i64 0] 32 (0, 0)) := by rw [hX0, Below.heap_setCell _ _ _ _ (show w.heap.size + 1 ≠ w.heap.size by omega)]; exact g1
  have HN : Hid (((X0.setRow (w.heap.size + 1) #[.slice p1 n c1, .int .i64 D.hidden]).ownsRow (w.heap.size + 2) 3 1 (.slice p1 n c1) n (D.cards.map (Value.int .i64))) ∧ Below w.heap.size w (X0.setRow (w.heap.size + 1) #[.slice p1 n c1, .int .i64 D.hidden])) := Lib.hid (by
    refine ⟨?_, ?_⟩
    · rw [← HS.out]
      refine own_same ho (fun q hq => ?_)
      have := own_block ho q hq
      rw [setRow_other _ _ _ _ (by omega), hX0, Below.heap_setCell _ _ _ _ (show q ≠ w.heap.size by omega)]
    · rw [hX0]; exact below_setRow ((B0.trans (bb.mono B0.size)).setCell (show w.heap.size ≤ w.heap.size from Nat.le_refl _) _) (by omega) _)
  have HX0 := Lib.hid hX0
  have k0 := box_cell g0 0
  have z0 := box_free g0 0
  simp at k0
  clear hX0 ho bb hs0 hs1 g0 g1
  go_upto_region 2 with fail
  rw [← HX0.out]
  clear k0 z0
  refine wp_region_lit ?_
  refine wpList_load_row rfl 32 _ rfl w.heap.size rfl 32 _ _ _ gx0 Try.underlying32 rfl (by kernel_rfl) ?_
  refine wpList_store_row rfl 32 _ _ rfl (w.heap.size + 1) #[.slice p1 n c1, .int .i64 D.hidden] rfl rfl 32 _ gx1 (by kernel_rfl) rfl (by simp [Value.oneCell']) ?_
  have N2 := setRow_heap X0 (w.heap.size + 1) _ #[.slice p1 n c1, .int .i64 D.hidden] _ _ gx1
  go_wp2_with fail
  (try simp only [Exit.inBlock, Exit.then]); refine bodyPost_ret (results_cell_row rfl _ _ (w.heap.size + 1) _ _ _ _ rfl N2 Try.underlying32 rfl (by kernel_rfl)) rfl ?_
  exact ⟨_, _, rfl, HN.out.1, HN.out.2⟩
set_option maxRecDepth 100000 in
set_option maxHeartbeats 1000000 in
theorem sCopyPile_any (v : Value) (D : MPile) (w : World) (h : RdPile w v D) (hf : D.Few) :
    Calls Try.prog 25 #[v] w fun e w' => ∃ p c, e = .returned (.agg #[.slice p D.cards.length c, .int .i64 D.hidden]) ∧ w'.ownsRow (w.heap.size + 2) 3 1 (.slice p D.cards.length c) D.cards.length (D.cards.map (Value.int .i64)) ∧ Below w.heap.size w w' := by
  obtain ⟨v0, b0, rfl, h0, -⟩ := h
  obtain ⟨p0, c0, e0, -⟩ := id h0
  subst e0
  obtain ⟨f0, -⟩ := hf
  obtain ⟨n, hn⟩ : ∃ n, n = D.cards.length := ⟨_, rfl⟩
  have B0 : Below w.heap.size w ((w.alloc (.cells #[.slice p0 n c0, .int .i64 D.hidden] 32)).alloc (.cells #[.slice none 0 0, .int .i64 0] 32)) := ((Below.refl _ _).alloc (Nat.le_refl _) _).alloc (by simp) _
  obtain ⟨W0, hW0⟩ : ∃ W, W = (w.alloc (.cells #[.slice p0 n c0, .int .i64 D.hidden] 32)).alloc (.cells #[.slice none 0 0, .int .i64 0] 32) := ⟨_, rfl⟩
  have G0 : W0.heap[w.heap.size]? = some (.cells #[.slice p0 n c0, .int .i64 D.hidden] 32 (0, 0)) := by rw [hW0]; exact heap_alloc2_old _ _ _
  have G1 : W0.heap[w.heap.size + 1]? = some (.cells #[.slice none 0 0, .int .i64 0] 32 (0, 0)) := by rw [hW0]; exact heap_alloc2_new _ _ _
  have hsz : W0.heap.size = w.heap.size + 2 := by rw [hW0]; simp
  rw [← hW0] at B0
  have bD : Below W0.heap.size W0 W0.drew := (Below.refl _ _).drew
  have h1 := h0.below (B0.trans (bD.mono B0.size))
  obtain ⟨v1, w3, hrun, ho, hb3⟩ := copy_run h1 (by omega) 22
  have hb3 := bD.trans (hb3.mono bD.size)
  obtain ⟨p1, c1, e1⟩ := own_shape ho
  subst e1
  rw [← hn] at hrun ho ⊢
  have hsD : W0.drew.heap.size = w.heap.size + 2 := by show W0.heap.size = _; exact hsz
  have hbA : Below W0.heap.size W0 (W0.alloc (.cells #[] 3)) := (Below.refl _ _).alloc (Nat.le_refl _) _
  have gA0 := (hbA.block _ (show w.heap.size < W0.heap.size by omega)).trans G0
  have g30 := (hb3.block _ (show w.heap.size < W0.heap.size by omega)).trans G0
  have g31 := (hb3.block _ (show w.heap.size + 1 < W0.heap.size by omega)).trans G1
  obtain ⟨k00, k01⟩ := SPile_cells G0
  obtain ⟨k10, k11⟩ := SPile_cells gA0
  obtain ⟨k30, k31⟩ := SPile_cells g30
  have y0 := box_cell g31 0
  have y1 := box_cell g31 1
  have x0 := box_free g31 0
  have x1 := box_free g31 1
  simp at y0 y1
  have Q := Lib.hid hrun
  have HW := Lib.hid hW0
  have N2 : Hid (((w3.setCell ⟨w.heap.size + 1, 0, none⟩ (.slice p1 n c1)).setCell ⟨w.heap.size + 1, 1, none⟩ (.int .i64 D.hidden)).heap[w.heap.size + 1]? = some (.cells #[.slice p1 n c1, .int .i64 D.hidden] 32 (0, 0))) := Lib.hid (box_set (box_set g31 0 _) 1 _)
  have HN : Hid (((w3.setCell ⟨w.heap.size + 1, 0, none⟩ (.slice p1 n c1)).setCell ⟨w.heap.size + 1, 1, none⟩ (.int .i64 D.hidden)).ownsRow (w.heap.size + 2) 3 1 (.slice p1 n c1) n (D.cards.map (Value.int .i64)) ∧ Below w.heap.size w ((w3.setCell ⟨w.heap.size + 1, 0, none⟩ (.slice p1 n c1)).setCell ⟨w.heap.size + 1, 1, none⟩ (.int .i64 D.hidden))) := Lib.hid (by
    refine ⟨?_, ?_⟩
    · rw [hsD] at ho
      refine own_same ho (fun q hq => ?_)
      have := own_block ho q hq
      rw [Below.heap_setCell _ _ _ _ (show q ≠ w.heap.size + 1 by omega), Below.heap_setCell _ _ _ _ (show q ≠ w.heap.size + 1 by omega)]
    · exact ((B0.trans (hb3.mono B0.size)).setCell (show w.heap.size ≤ w.heap.size + 1 by omega) _).setCell (show w.heap.size ≤ w.heap.size + 1 by omega) _)
  have Hk := Lib.hid (And.intro hsz (And.intro hsD (And.intro hb3 (And.intro ho (And.intro g31 B0)))))
  clear hW0 hsz hn h0 f0 G0 G1 h1 hrun hb3 bD hbA gA0 g30 g31 ho hsD B0
  go_enter Try.func25, Try.ntmps25
  go_upto_region 1 with fail
  rw [← HW.out]
  go_region_law (refine step_append_runS rfl (.tmp 3) (.tmp 5) 22 22 rfl _ _ rfl rfl _ _ Q.out ?_)
  all_goals
    go_wp2_with fail
    exact bodyPost_ret (results_cell_row rfl _ _ (w.heap.size + 1) _ _ _ _ rfl N2.out Try.underlying32 rfl (by kernel_rfl)) rfl ⟨_, _, rfl, HN.out.1, HN.out.2⟩
/-- The pile that grows: its cards are the call's own, the variable lies in block g. -/
def PB (w : World) (base g : Nat) (F : List Int) (H : Int) : Prop :=
  ∃ (p : Option Addr) (c : Nat), w.heap[g]? = some (.cells #[.slice p F.length c, .int .i64 H] 32 (0, 0)) ∧ w.ownsRow base 3 1 (.slice p F.length c) F.length (F.map (Value.int .i64)) ∧ (Value.slice p F.length c).ownBlock ≠ some g
theorem PB.below {w w' : World} {base g : Nat} {F : List Int} {H : Int} (h : PB w base g F H) (b : Below w.heap.size w w') : PB w' base g F H := by
  obtain ⟨p, c, h1, h2, h3⟩ := h
  exact ⟨p, c, (b.block _ (Array.getElem?_eq_some_iff.1 h1).1).trans h1, own_below h2 b, h3⟩
theorem PB.val {w : World} {base g : Nat} {F : List Int} {H : Int} (h : PB w base g F H) (hF : ∀ x ∈ F, (Lit.int .i64 x).wf = true) (hH : (Lit.int .i64 H).wf = true) : ∃ (p : Option Addr) (c : Nat), w.heap[g]? = some (.cells #[.slice p F.length c, .int .i64 H] 32 (0, 0)) ∧ RdPile w (.agg #[.slice p F.length c, .int .i64 H]) ⟨F, H⟩ ∧ WrPile (In base w.heap.size) w (.agg #[.slice p F.length c, .int .i64 H]) ⟨F, H⟩ := by
  obtain ⟨p, c, h1, h2, h3⟩ := h
  obtain ⟨b, hb, hw⟩ := own_wr h2 hF
  exact ⟨p, c, h1, ⟨_, b, rfl, hw.rd, hH⟩, ⟨p, c, _, rfl, WrIn.of hw hb, fun _ hx => hx, hH⟩⟩
theorem PB.snoc {w : World} {base g : Nat} {F : List Int} {H : Int} {p : Option Addr} {c : Nat} (h1 : w.heap[g]? = some (.cells #[.slice p F.length c, .int .i64 H] 32 (0, 0))) (h2 : w.ownsRow base 3 1 (.slice p F.length c) F.length (F.map (Value.int .i64))) (h3 : (Value.slice p F.length c).ownBlock ≠ some g) (y : Int) (hF : F.length ≤ 200000000) (hb : base ≤ w.heap.size) (w0 : World) (B0 : Below w0.heap.size w0 w) (h0 : w0.heap.size ≤ base) (hg0 : w0.heap.size ≤ g) :
    ∃ p3 c3 w3, (Builtin.append_ #[22, 22] 22 #[.slice p F.length c, .slice (some ⟨w.heap.size, 0, none⟩) 1 1]).run Try.prog (w.alloc (.cells #[.int .i64 y] 3)) = .ok (.slice p3 (F.length + 1) c3) w3 ∧
      w3.heap[g]? = some (.cells #[.slice p F.length c, .int .i64 H] 32 (0, 0)) ∧
      PB (w3.setCell ⟨g, 0, none⟩ (.slice p3 (F.length + 1) c3)) base g (F ++ [y]) H ∧ Below w0.heap.size w0 (w3.setCell ⟨g, 0, none⟩ (.slice p3 (F.length + 1) c3)) ∧ w.heap.size ≤ (w3.setCell ⟨g, 0, none⟩ (.slice p3 (F.length + 1) c3)).heap.size := by
  obtain ⟨v', w3, hrun, hown3, hB3, hK3, hs3, ⟨p3, c3, e3⟩⟩ := snocS_run h2 y hF hb 22
  subst e3
  obtain ⟨g3, hne3⟩ := hK3 g _ (Array.getElem?_eq_some_iff.1 h1).1 h3 h1
  refine ⟨p3, c3, w3, hrun, g3, ⟨p3, c3, ?_, ?_, ?_⟩, (hB3 w0 B0 h0).setCell hg0 _, by simp [World.setCell]; exact hs3⟩
  · rw [List.length_append]; exact box_set g3 0 _
  · have e : (F ++ [y]).length = F.length + 1 := by simp
    rw [e] at hown3 ⊢
    exact own_same hown3 (fun q hq => Below.heap_setCell _ _ _ _ (fun e => hne3 (by rw [hq, e])))
  · rw [List.length_append]; exact hne3
theorem own_baseK {w : World} {B B' : Nat} {E : TypeId} {n : Nat} {v : Value} {xs : List Value} (h : w.ownsRow B E 1 v n xs) (hb : B' ≤ B) : w.ownsRow B' E 1 v n xs := by
  obtain ⟨hl, h⟩ := h
  refine ⟨hl, h.imp id ?_⟩
  rintro ⟨g', cap', cur, e', hg, hh, r⟩
  exact ⟨g', cap', cur, e', by omega, hh, r⟩
/-- The result's box filled: two cells of block r. -/
theorem WrPile.res {lo lo2 r : Nat} {w : World} {v : Value} {D : MPile} (h : WrPile (In lo w.heap.size) w v D) (hr : r < lo) (hl : lo2 ≤ lo) (x y : Value) : WrPile (In lo2 ((w.setCell ⟨r, 0, none⟩ x).setCell ⟨r, 1, none⟩ y).heap.size) ((w.setCell ⟨r, 0, none⟩ x).setCell ⟨r, 1, none⟩ y) v D := by
  have b0 : Below 0 w ((w.setCell ⟨r, 0, none⟩ x).setCell ⟨r, 1, none⟩ y) := ((Below.refl 0 w).setCell (Nat.zero_le _) _).setCell (Nat.zero_le _) _
  have hs : ((w.setCell ⟨r, 0, none⟩ x).setCell ⟨r, 1, none⟩ y).heap.size = w.heap.size := by simp [World.setCell]
  have tX : Touch (fun k => k = r) w ((w.setCell ⟨r, 0, none⟩ x).setCell ⟨r, 1, none⟩ y) := ⟨b0.os, b0.tape, b0.output, b0.size, fun k _ hn => by rw [Below.heap_setCell _ _ _ _ (show k ≠ r from hn), Below.heap_setCell _ _ _ _ (show k ≠ r from hn)]⟩
  exact (h.touch tX (fun b h1 h2 => by have := h1.1; omega)).mono (fun b h1 => by obtain ⟨h1, h2⟩ := h1; rw [hs]; exact ⟨by omega, h2⟩)
theorem wf_take {F zs : List Int} (h1 : ∀ x ∈ F, (Lit.int .i64 x).wf = true) (h2 : ∀ x ∈ zs, (Lit.int .i64 x).wf = true) (k : Nat) : ∀ x ∈ F ++ zs.take k, (Lit.int .i64 x).wf = true := by
  intro x hx
  rcases List.mem_append.1 hx with e | e
  · exact h1 x e
  · exact h2 x (List.mem_of_mem_take e)
theorem take_getD {zs : List Int} {k : Nat} (h : k < zs.length) : zs.take (k + 1) = zs.take k ++ [zs.getD k 0] := by
  rw [List.take_succ_eq_append_getElem h]; simp [List.getD, h]
theorem own_pile {w : World} {B : Nat} {F : List Int} {H : Int} {p : Option Addr} {c : Nat} (ho : w.ownsRow B 3 1 (.slice p F.length c) F.length (F.map (Value.int .i64))) (hF : ∀ x ∈ F, (Lit.int .i64 x).wf = true) (hH : (Lit.int .i64 H).wf = true) : WrPile (In B w.heap.size) w (.agg #[.slice p F.length c, .int .i64 H]) ⟨F, H⟩ := by
  obtain ⟨b, hb, hw⟩ := own_wr ho hF
  exact ⟨p, c, _, rfl, WrIn.of hw hb, fun _ hx => hx, hH⟩
theorem stacked_t {D : MPile} {zs : List Int} (h : stOK D zs zs.length = true) : stacked D zs = ⟨D.cards ++ zs, D.hidden⟩ := by unfold stacked; rw [if_pos h]
theorem stacked_f {D : MPile} {zs : List Int} (h : stOK D zs zs.length = false) : stacked D zs = D := by unfold stacked; rw [if_neg (by rw [h]; decide)]
set_option maxRecDepth 100000 in
set_option maxHeartbeats 2000000 in
theorem stacked_any (v vz : Value) (D : MPile) (zs : List Int) (b : Nat) (w : World) (h : RdPile w v D) (hf : D.Few) (hz : RdAt .i64 w vz zs b) (hl : zs.length ≤ 1048576) :
    Calls Try.prog 15 #[v, vz] w fun e w' => ∃ v', e = .returned (.tuple #[v', .bool (stOK D zs zs.length)]) ∧ WrPile (In w.heap.size w'.heap.size) w' v' (stacked D zs) ∧ Below w.heap.size w w' := by
  have h00 := h
  obtain ⟨F, H⟩ := D
  obtain ⟨v0, b0, rfl, h0, wf1⟩ := h
  dsimp only at h0 wf1
  obtain ⟨p0, c0, e0, -⟩ := id h0
  subst e0
  obtain ⟨pz, cz, ez, -⟩ := id hz
  subst ez
  obtain ⟨n, hn⟩ : ∃ n, n = zs.length := ⟨_, rfl⟩
  obtain ⟨m, hm⟩ : ∃ m, m = F.length := ⟨_, rfl⟩
  have B0 : Below w.heap.size w ((w.alloc (.cells #[.slice p0 m c0, .int .i64 H] 32)).alloc (.cells #[.slice none 0 0, .int .i64 0] 32)) := ((Below.refl _ _).alloc (Nat.le_refl _) _).alloc (by simp) _
  obtain ⟨W0, hW0⟩ : ∃ W, W = (w.alloc (.cells #[.slice p0 m c0, .int .i64 H] 32)).alloc (.cells #[.slice none 0 0, .int .i64 0] 32) := ⟨_, rfl⟩
  have G0 : W0.heap[w.heap.size]? = some (.cells #[.slice p0 m c0, .int .i64 H] 32 (0, 0)) := by rw [hW0]; exact heap_alloc2_old _ _ _
  have G1 : W0.heap[w.heap.size + 1]? = some (.cells #[.slice none 0 0, .int .i64 0] 32 (0, 0)) := by rw [hW0]; exact heap_alloc2_new _ _ _
  have hsz : W0.heap.size = w.heap.size + 2 := by rw [hW0]; simp
  rw [← hW0] at B0
  have HC : Hid (∀ wx, Below w.heap.size w wx → Calls Try.prog 27 #[.agg #[.slice p0 m c0, .int .i64 H]] wx fun e w' => ∃ p c, e = .returned (.agg #[.slice p m c, .int .i64 H]) ∧ w'.ownsRow (wx.heap.size + 2) 3 1 (.slice p m c) m (F.map (Value.int .i64)) ∧ Below wx.heap.size wx w') := Lib.hid (fun wx hb => by
    rw [hm]; exact copyPile_any _ ⟨F, H⟩ wx (h00.below hb) hf)
  have HM : Hid (∀ wx c p k F2, F2.length ≤ 1048576 → RdPile wx (.agg #[.slice p F2.length k, .int .i64 H]) ⟨F2, H⟩ → Calls Try.prog 28 #[.agg #[.slice p F2.length k, .int .i64 H], .int .i64 c] wx fun e w' => e = .returned (.bool (mayStack ⟨F2, H⟩ c)) ∧ Below wx.heap.size wx w') := Lib.hid (fun wx c p k F2 hk hr => mayStack_any _ ⟨F2, H⟩ c wx hr ⟨hk, trivial⟩ _ rfl)
  have HCl : Hid (∀ wx, Below w.heap.size w wx → ∀ k, k < n → ∃ off, pz = some ⟨b, off, none⟩ ∧ wx.cell? ⟨b, off + k, none⟩ = some (.int .i64 (zs.getD k 0))) := Lib.hid (fun wx hb k hk => by
    rcases (hz.below hb).open with ⟨h00, -⟩ | ⟨-, off, c, hv, -, hc⟩
    · rw [hn, h00] at hk; simp at hk
    · exact ⟨off, (Value.slice.inj hv).1, cells_getD hc k (by omega)⟩)
  have Hwf : Hid ((∀ x ∈ F, (Lit.int .i64 x).wf = true) ∧ (∀ x ∈ zs, (Lit.int .i64 x).wf = true) ∧ (Lit.int .i64 H).wf = true) := Lib.hid ⟨h0.wf, hz.wf, wf1⟩
  have Hf := Lib.hid hf
  have Hn := Lib.hid hn
  have Hm := Lib.hid hm
  have HW := Lib.hid hW0
  have HS := Lib.hid hsz
  have HG := Lib.hid (And.intro G0 G1)
  dsimp only at hf ⊢
  rw [← hn] at hl ⊢
  rw [← hm] at ⊢
  clear hW0 hsz hn hm h0 hz h00 wf1 hf G0 G1
  go_enter Try.func15, Try.ntmps15
  go_wp2_with fail
  rw [← HW.out]
  refine (HC.out _ B0).mono ?_
  rintro e w1 ⟨p1, c1, rfl, ho, bb⟩
  have PB0 : Hid (PB (w1.alloc (.cells #[.slice p1 m c1, .int .i64 H] 32)) W0.heap.size w1.heap.size (F ++ zs.take 0) H) := Lib.hid (by
    rw [List.take_zero, List.append_nil]
    have hm := Hm.out
    subst hm
    have ho := own_baseK ho (show W0.heap.size ≤ W0.heap.size + 2 by omega)
    refine ⟨p1, c1, heap_alloc_new _ _, ho.alloc _, fun e => ?_⟩
    obtain ⟨-, h⟩ := ho
    rcases h with ⟨e1, -⟩ | ⟨g', cap', cur, e', hg, hh, r⟩
    · rw [e1] at e; cases e
    · rw [e'] at e
      have : g' = w1.heap.size := Option.some.inj e
      have := (Array.getElem?_eq_some_iff.1 hh).1
      omega)
  have B1 : Below W0.heap.size W0 (w1.alloc (.cells #[.slice p1 m c1, .int .i64 H] 32)) := bb.alloc bb.size _
  have hs1 : w1.heap.size < (w1.alloc (.cells #[.slice p1 m c1, .int .i64 H] 32)).heap.size := by simp
  have H1 : Hid (W0.heap.size ≤ w1.heap.size) := Lib.hid bb.size
  clear ho bb
  go_wp2_with fail
  go_loopw [5, 8, 13] (fun _ _ i wr => ∃ k : Nat, k ≤ n ∧ i = .int .i64 k ∧ Below W0.heap.size W0 wr ∧ w1.heap.size < wr.heap.size ∧ Hid (stOK ⟨F, H⟩ zs k = true) ∧ Hid (PB wr W0.heap.size w1.heap.size (F ++ zs.take k) H)) (fun _ _ i _ => n - (intOf i).toNat)
  case atStart => exact ⟨0, Nat.zero_le _, rfl, B1, hs1, Lib.hid (stOK_0 _ _), PB0⟩
  case round =>
    clear PB0 B1 hs1
    obtain ⟨k, hk, rfl, B, hlt1, hst, hpb⟩ := hrel
    have Bw := B0.trans (B.mono B0.size)
    have hF2 := wf_take Hwf.out.1 Hwf.out.2.1 k
    have hFl := stOK_len hst.out Hf.out (by rw [← Hn.out]; exact hk)
    obtain ⟨F2, hF⟩ : ∃ F2, F2 = F ++ zs.take k := ⟨_, rfl⟩
    have HF := Lib.hid hF
    dsimp only at hFl
    rw [← hF] at hF2 hFl hpb
    obtain ⟨p2, c2, g2, hrd, hwr⟩ := hpb.out.val hF2 Hwf.out.2.2
    have hs0 := HS.out
    have gr0 := (B.block _ (show w.heap.size < W0.heap.size by omega)).trans HG.out.1
    have gr1 := (B.block _ (show w.heap.size + 1 < W0.heap.size by omega)).trans HG.out.2
    obtain ⟨k0, k1⟩ := SPile_cells g2
    by_cases hlt : k < n
    · obtain ⟨off, hp, hc⟩ := HCl.out wr Bw k hlt
      subst hp
      obtain ⟨y, hy⟩ : ∃ y, Hid (zs.getD k 0 = y) := ⟨_, Lib.hid rfl⟩
      rw [hy.out] at hc
      have HM1 := HM.out wr y p2 c2 F2 hFl hrd
      cases hms : mayStack ⟨F2, H⟩ y with
      | true =>
        rw [hms] at HM1
        have HM1 := Lib.hid HM1
        have hst2 : Hid (stOK ⟨F, H⟩ zs (k + 1) = true) := Lib.hid (stOK_s hst.out (by rw [hy.out]; dsimp only; rw [← HF.out]; exact hms))
        have HT : Hid (F ++ zs.take (k + 1) = F2 ++ [y]) := Lib.hid (by rw [take_getD (by rw [← Hn.out]; exact hlt), ← List.append_assoc, ← HF.out, hy.out])
        have Hpb := hpb
        clear hms hst hrd hwr g2 hpb gr0 gr1 hF hF2 hs0
        generalize hgl : F2.length = q at *
        have Hgl := Lib.hid hgl
        clear hgl
        go_wp2_with fail
        refine HM1.out.mono ?_
        rintro e w2 ⟨rfl, bb⟩
        obtain ⟨p4, c4, g4, ho4, hne4⟩ := Hpb.out.below bb
        have B2 := B.trans (bb.mono B.size)
        have hs2 := bb.size
        obtain ⟨p5, c5, w3, hrun, g5, hpb5, B5, hs5⟩ := PB.snoc g4 ho4 hne4 y (by rw [Hgl.out]; omega) B2.size W0 B2 (Nat.le_refl _) H1.out
        rw [Hgl.out] at g4 hrun g5 hpb5 B5 hs5
        have HN : Hid (Below W0.heap.size W0 (w3.setCell ⟨w1.heap.size, 0, none⟩ (.slice p5 (q + 1) c5)) ∧ w1.heap.size < (w3.setCell ⟨w1.heap.size, 0, none⟩ (.slice p5 (q + 1) c5)).heap.size ∧ Hid (PB (w3.setCell ⟨w1.heap.size, 0, none⟩ (.slice p5 (q + 1) c5)) W0.heap.size w1.heap.size (F ++ zs.take (k + 1)) H)) := Lib.hid ⟨B5, by omega, Lib.hid (by rw [HT.out]; exact hpb5)⟩
        have k4 := (SPile_cells g4).1
        have k5 := (SPile_cells g5).1
        have z5 := box_free g5 0
        have Q := Lib.hid hrun
        clear bb g4 ho4 hne4 B2 hs2 hrun g5 hpb5 B5 hs5 k0 k1
        go_wp2_with (at_builtin; refine Lib.wpList_append_run _ rfl _ _ _ _ rfl _ _ rfl rfl _ _ Q.out ?_)
        go_roundw
        case rel => exact ⟨k + 1, by omega, by go_num, HN.out.1, HN.out.2.1, hst2, HN.out.2.2⟩
        case measure => simp [intOf]; omega
      | false =>
        rw [hms] at HM1
        have HM1 := Lib.hid HM1
        have HNo : Hid (stOK ⟨F, H⟩ zs n = false) := Lib.hid (stOK_no hlt (by rw [hy.out]; dsimp only; rw [← HF.out]; exact hms))
        have HSt : Hid (stacked ⟨F, H⟩ zs = ⟨F, H⟩) := Lib.hid (stacked_f (by rw [← Hn.out]; exact HNo.out))
        have Hg := Lib.hid (And.intro gr0 gr1)
        clear hms hst hrd hwr g2 hpb gr0 gr1 hF hF2 hs0
        generalize hgl : F2.length = q at *
        clear hgl
        go_wp2_with fail
        refine HM1.out.mono ?_
        rintro e w2 ⟨rfl, bb⟩
        have Bw2 := Bw.trans (bb.mono Bw.size)
        have hsz := HS.out
        have hBs := B.size
        have hs2 := bb.size
        have g20 := (bb.block _ (show w.heap.size < wr.heap.size by omega)).trans Hg.out.1
        have g21 := (bb.block _ (show w.heap.size + 1 < wr.heap.size by omega)).trans Hg.out.2
        obtain ⟨m0, m1⟩ := SPile_cells g20
        clear bb k0 k1
        have Hs := Lib.hid (And.intro hsz (And.intro hBs hs2))
        clear hsz hBs hs2
        go_wp2_with fail
        refine (HC.out w2 Bw2).mono ?_
        rintro e w5 ⟨p5, c5, rfl, ho5, bb⟩
        obtain ⟨hsz, hBs, hs2⟩ := Hs.out
        have hs5 := bb.size
        have g51 := (bb.block _ (show w.heap.size + 1 < w2.heap.size by omega)).trans g21
        have B5 := Bw2.trans (bb.mono Bw2.size)
        have HN : Hid (WrPile (In w.heap.size ((w5.setCell ⟨w.heap.size + 1, 0, none⟩ (.slice p5 m c5)).setCell ⟨w.heap.size + 1, 1, none⟩ (.int .i64 H)).heap.size) ((w5.setCell ⟨w.heap.size + 1, 0, none⟩ (.slice p5 m c5)).setCell ⟨w.heap.size + 1, 1, none⟩ (.int .i64 H)) (.agg #[.slice p5 m c5, .int .i64 H]) ⟨F, H⟩ ∧ Below w.heap.size w ((w5.setCell ⟨w.heap.size + 1, 0, none⟩ (.slice p5 m c5)).setCell ⟨w.heap.size + 1, 1, none⟩ (.int .i64 H))) := Lib.hid (by
          refine ⟨?_, (B5.setCell (show w.heap.size ≤ w.heap.size + 1 by omega) _).setCell (show w.heap.size ≤ w.heap.size + 1 by omega) _⟩
          have hm := Hm.out
          subst hm
          exact (own_pile (own_baseK ho5 (show W0.heap.size ≤ w2.heap.size + 2 by omega)) Hwf.out.1 Hwf.out.2.2).res (by omega) (by omega) _ _)
        have N2 : Hid (((w5.setCell ⟨w.heap.size + 1, 0, none⟩ (.slice p5 m c5)).setCell ⟨w.heap.size + 1, 1, none⟩ (.int .i64 H)).heap[w.heap.size + 1]? = some (.cells #[.slice p5 m c5, .int .i64 H] 32 (0, 0))) := Lib.hid (box_set (box_set g51 0 _) 1 _)
        have y0 := box_cell g51 0
        have y1 := box_cell g51 1
        have x0 := box_free g51 0
        have x1 := box_free g51 1
        simp at y0 y1
        clear bb ho5 g20 g21 g51 m0 m1 hsz hBs hs2 hs5 B5 Bw2
        go_wp2_with fail
        refine bodyPost_ret (results_cell_row_tmp rfl _ _ (w.heap.size + 1) _ _ _ _ rfl N2.out Try.underlying32 rfl (by kernel_rfl)) rfl ?_
        refine ⟨.agg #[.slice p5 m c5, .int .i64 H], ?_, ?_, HN.out.2⟩
        · rw [HNo.out]; rfl
        · rw [HSt.out]; exact HN.out.1
    · obtain rfl : k = n := by omega
      have HYes := hst
      have HSt : Hid (stacked ⟨F, H⟩ zs = ⟨F2, H⟩) := Lib.hid (by
        rw [stacked_t (by rw [← Hn.out]; exact hst.out), HF.out, Hn.out, List.take_length])
      have hBs := B.size
      have HN : Hid (WrPile (In w.heap.size ((wr.setCell ⟨w.heap.size + 1, 0, none⟩ (.slice p2 F2.length c2)).setCell ⟨w.heap.size + 1, 1, none⟩ (.int .i64 H)).heap.size) ((wr.setCell ⟨w.heap.size + 1, 0, none⟩ (.slice p2 F2.length c2)).setCell ⟨w.heap.size + 1, 1, none⟩ (.int .i64 H)) (.agg #[.slice p2 F2.length c2, .int .i64 H]) ⟨F2, H⟩ ∧ Below w.heap.size w ((wr.setCell ⟨w.heap.size + 1, 0, none⟩ (.slice p2 F2.length c2)).setCell ⟨w.heap.size + 1, 1, none⟩ (.int .i64 H))) := Lib.hid
        ⟨hwr.res (by omega) (by omega) _ _, (Bw.setCell (show w.heap.size ≤ w.heap.size + 1 by omega) _).setCell (show w.heap.size ≤ w.heap.size + 1 by omega) _⟩
      have N2 : Hid (((wr.setCell ⟨w.heap.size + 1, 0, none⟩ (.slice p2 F2.length c2)).setCell ⟨w.heap.size + 1, 1, none⟩ (.int .i64 H)).heap[w.heap.size + 1]? = some (.cells #[.slice p2 F2.length c2, .int .i64 H] 32 (0, 0))) := Lib.hid (box_set (box_set gr1 0 _) 1 _)
      have y0 := box_cell gr1 0
      have y1 := box_cell gr1 1
      have x0 := box_free gr1 0
      have x1 := box_free gr1 1
      simp at y0 y1
      clear hst hrd hwr g2 hpb gr0 gr1 hF hF2 hs0 hBs
      go_wp2_with fail
      refine bodyPost_ret (results_cell_row_tmp rfl _ _ (w.heap.size + 1) _ _ _ _ rfl N2.out Try.underlying32 rfl (by kernel_rfl)) rfl ?_
      refine ⟨.agg #[.slice p2 F2.length c2, .int .i64 H], ?_, ?_, HN.out.2⟩
      · rw [HYes.out]; rfl
      · rw [HSt.out]; exact HN.out.1
set_option maxRecDepth 100000 in
set_option maxHeartbeats 2000000 in
theorem sStacked_any (v vz : Value) (D : MPile) (zs : List Int) (b : Nat) (w : World) (h : RdPile w v D) (hf : D.Few) (hz : RdAt .i64 w vz zs b) (hl : zs.length ≤ 1048576) :
    Calls Try.prog 12 #[v, vz] w fun e w' => ∃ v', e = .returned (.tuple #[v', .bool (stOK D zs zs.length)]) ∧ WrPile (In w.heap.size w'.heap.size) w' v' (stacked D zs) ∧ Below w.heap.size w w' := by
  have h00 := h
  obtain ⟨F, H⟩ := D
  obtain ⟨v0, b0, rfl, h0, wf1⟩ := h
  dsimp only at h0 wf1
  obtain ⟨p0, c0, e0, -⟩ := id h0
  subst e0
  obtain ⟨pz, cz, ez, -⟩ := id hz
  subst ez
  obtain ⟨n, hn⟩ : ∃ n, n = zs.length := ⟨_, rfl⟩
  obtain ⟨m, hm⟩ : ∃ m, m = F.length := ⟨_, rfl⟩
  have B0 : Below w.heap.size w ((w.alloc (.cells #[.slice p0 m c0, .int .i64 H] 32)).alloc (.cells #[.slice none 0 0, .int .i64 0] 32)) := ((Below.refl _ _).alloc (Nat.le_refl _) _).alloc (by simp) _
  obtain ⟨W0, hW0⟩ : ∃ W, W = (w.alloc (.cells #[.slice p0 m c0, .int .i64 H] 32)).alloc (.cells #[.slice none 0 0, .int .i64 0] 32) := ⟨_, rfl⟩
  have G0 : W0.heap[w.heap.size]? = some (.cells #[.slice p0 m c0, .int .i64 H] 32 (0, 0)) := by rw [hW0]; exact heap_alloc2_old _ _ _
  have G1 : W0.heap[w.heap.size + 1]? = some (.cells #[.slice none 0 0, .int .i64 0] 32 (0, 0)) := by rw [hW0]; exact heap_alloc2_new _ _ _
  have hsz : W0.heap.size = w.heap.size + 2 := by rw [hW0]; simp
  rw [← hW0] at B0
  have HC : Hid (∀ wx, Below w.heap.size w wx → Calls Try.prog 25 #[.agg #[.slice p0 m c0, .int .i64 H]] wx fun e w' => ∃ p c, e = .returned (.agg #[.slice p m c, .int .i64 H]) ∧ w'.ownsRow (wx.heap.size + 2) 3 1 (.slice p m c) m (F.map (Value.int .i64)) ∧ Below wx.heap.size wx w') := Lib.hid (fun wx hb => by
    rw [hm]; exact sCopyPile_any _ ⟨F, H⟩ wx (h00.below hb) hf)
  have HM : Hid (∀ wx c p k F2, F2.length ≤ 1048576 → RdPile wx (.agg #[.slice p F2.length k, .int .i64 H]) ⟨F2, H⟩ → Calls Try.prog 26 #[.agg #[.slice p F2.length k, .int .i64 H], .int .i64 c] wx fun e w' => e = .returned (.bool (mayStack ⟨F2, H⟩ c)) ∧ Below wx.heap.size wx w') := Lib.hid (fun wx c p k F2 hk hr => sMayStack_any _ ⟨F2, H⟩ c wx hr ⟨hk, trivial⟩ _ rfl)
  have HCl : Hid (∀ wx, Below w.heap.size w wx → ∀ k, k < n → ∃ off, pz = some ⟨b, off, none⟩ ∧ wx.cell? ⟨b, off + k, none⟩ = some (.int .i64 (zs.getD k 0))) := Lib.hid (fun wx hb k hk => by
    rcases (hz.below hb).open with ⟨h00, -⟩ | ⟨-, off, c, hv, -, hc⟩
    · rw [hn, h00] at hk; simp at hk
    · exact ⟨off, (Value.slice.inj hv).1, cells_getD hc k (by omega)⟩)
  have Hwf : Hid ((∀ x ∈ F, (Lit.int .i64 x).wf = true) ∧ (∀ x ∈ zs, (Lit.int .i64 x).wf = true) ∧ (Lit.int .i64 H).wf = true) := Lib.hid ⟨h0.wf, hz.wf, wf1⟩
  have Hf := Lib.hid hf
  have Hn := Lib.hid hn
  have Hm := Lib.hid hm
  have HW := Lib.hid hW0
  have HS := Lib.hid hsz
  have HG := Lib.hid (And.intro G0 G1)
  dsimp only at hf ⊢
  rw [← hn] at hl ⊢
  rw [← hm] at ⊢
  clear hW0 hsz hn hm h0 hz h00 wf1 hf G0 G1
  go_enter Try.func12, Try.ntmps12
  go_wp2_with fail
  rw [← HW.out]
  refine (HC.out _ B0).mono ?_
  rintro e w1 ⟨p1, c1, rfl, ho, bb⟩
  have PB0 : Hid (PB (w1.alloc (.cells #[.slice p1 m c1, .int .i64 H] 32)) W0.heap.size w1.heap.size (F ++ zs.take 0) H) := Lib.hid (by
    rw [List.take_zero, List.append_nil]
    have hm := Hm.out
    subst hm
    have ho := own_baseK ho (show W0.heap.size ≤ W0.heap.size + 2 by omega)
    refine ⟨p1, c1, heap_alloc_new _ _, ho.alloc _, fun e => ?_⟩
    obtain ⟨-, h⟩ := ho
    rcases h with ⟨e1, -⟩ | ⟨g', cap', cur, e', hg, hh, r⟩
    · rw [e1] at e; cases e
    · rw [e'] at e
      have : g' = w1.heap.size := Option.some.inj e
      have := (Array.getElem?_eq_some_iff.1 hh).1
      omega)
  have B1 : Below W0.heap.size W0 (w1.alloc (.cells #[.slice p1 m c1, .int .i64 H] 32)) := bb.alloc bb.size _
  have hs1 : w1.heap.size < (w1.alloc (.cells #[.slice p1 m c1, .int .i64 H] 32)).heap.size := by simp
  have H1 : Hid (W0.heap.size ≤ w1.heap.size) := Lib.hid bb.size
  clear ho bb
  go_wp2_with fail
  go_loopw [5, 7] (fun _ i wr => ∃ k : Nat, k ≤ n ∧ i = .int .i64 k ∧ Below W0.heap.size W0 wr ∧ w1.heap.size < wr.heap.size ∧ Hid (stOK ⟨F, H⟩ zs k = true) ∧ Hid (PB wr W0.heap.size w1.heap.size (F ++ zs.take k) H)) (fun _ i _ => n - (intOf i).toNat)
  case atStart => exact ⟨0, Nat.zero_le _, rfl, B1, hs1, Lib.hid (stOK_0 _ _), PB0⟩
  case round =>
    clear PB0 B1 hs1
    obtain ⟨k, hk, rfl, B, hlt1, hst, hpb⟩ := hrel
    have Bw := B0.trans (B.mono B0.size)
    have hF2 := wf_take Hwf.out.1 Hwf.out.2.1 k
    have hFl := stOK_len hst.out Hf.out (by rw [← Hn.out]; exact hk)
    obtain ⟨F2, hF⟩ : ∃ F2, F2 = F ++ zs.take k := ⟨_, rfl⟩
    have HF := Lib.hid hF
    dsimp only at hFl
    rw [← hF] at hF2 hFl hpb
    obtain ⟨p2, c2, g2, hrd, hwr⟩ := hpb.out.val hF2 Hwf.out.2.2
    have hs0 := HS.out
    have gr0 := (B.block _ (show w.heap.size < W0.heap.size by omega)).trans HG.out.1
    have gr1 := (B.block _ (show w.heap.size + 1 < W0.heap.size by omega)).trans HG.out.2
    obtain ⟨k0, k1⟩ := SPile_cells g2
    by_cases hlt : k < n
    · obtain ⟨off, hp, hc⟩ := HCl.out wr Bw k hlt
      subst hp
      obtain ⟨y, hy⟩ : ∃ y, Hid (zs.getD k 0 = y) := ⟨_, Lib.hid rfl⟩
      rw [hy.out] at hc
      have HM1 := fun wx (hb : Below wr.heap.size wr wx) => HM.out wx y p2 c2 F2 hFl (hrd.below hb)
      have HG5 : Hid (∀ wx, Below wr.heap.size wr wx → wx.cell? ⟨b, off + k, none⟩ = some (.int .i64 y) ∧ wx.cell? ⟨w1.heap.size, 0, none⟩ = some (.slice p2 F2.length c2) ∧ wx.cell? ⟨w1.heap.size, 1, none⟩ = some (.int .i64 H)) := Lib.hid (fun wx hb => ⟨(hb.cell (World.block_lt_of_cell? _ _ hc)).trans hc, (hb.cell (World.block_lt_of_cell? _ _ k0)).trans k0, (hb.cell (World.block_lt_of_cell? _ _ k1)).trans k1⟩)
      cases hms : mayStack ⟨F2, H⟩ y with
      | true =>
        simp only [hms] at HM1
        have HM1 := Lib.hid HM1
        have hst2 : Hid (stOK ⟨F, H⟩ zs (k + 1) = true) := Lib.hid (stOK_s hst.out (by rw [hy.out]; dsimp only; rw [← HF.out]; exact hms))
        have HT : Hid (F ++ zs.take (k + 1) = F2 ++ [y]) := Lib.hid (by rw [take_getD (by rw [← Hn.out]; exact hlt), ← List.append_assoc, ← HF.out, hy.out])
        have Hpb := hpb
        clear hms hst hrd hwr g2 hpb gr0 gr1 hF hF2 hs0
        generalize hgl : F2.length = q at *
        have Hgl := Lib.hid hgl
        clear hgl
        go_wp2_with fail
        go_region_held3 (fun w' => w'.cell? ⟨b, off + k, none⟩ = some (.int .i64 y) ∧ w'.cell? ⟨w1.heap.size, 0, none⟩ = some (.slice p2 q c2) ∧ w'.cell? ⟨w1.heap.size, 1, none⟩ = some (.int .i64 H)) (go_keep) (first
          | (go_at_call 26; refine (HM1.out _ (Below.refl _ _).drew).mono ?_; rintro e w2 ⟨rfl, bb⟩; obtain ⟨y0, y1, y2⟩ := HG5.out w2 ((Below.refl _ _).drew.trans bb)))
        all_goals
          replace bb := (Below.refl wr.heap.size wr).drew.trans bb
          obtain ⟨p4, c4, g4, ho4, hne4⟩ := Hpb.out.below bb
          have e4 := (SPile_cells g4).1.symm.trans y1
          rw [Hgl.out] at e4
          simp only [Option.some.injEq, Value.slice.injEq] at e4
          obtain ⟨rfl, -, rfl⟩ := e4
          have B2 := B.trans (bb.mono B.size)
          have hs2 := bb.size
          have bD : Below w2.heap.size w2 w2.drew := (Below.refl _ _).drew
          have bA : Below w2.heap.size w2 (w2.alloc (.cells #[.int .i64 y] 3)) := (Below.refl _ _).alloc (Nat.le_refl _) _
          obtain ⟨p5, c5, w3, hrun, g5, hpb5, B5, hs5⟩ := PB.snoc (w := w2.drew) g4 (own_below ho4 bD) hne4 y (by rw [Hgl.out]; omega) (Nat.le_trans B2.size bD.size) W0 (B2.trans (bD.mono B2.size)) (Nat.le_refl _) H1.out
          have hs5 : w2.heap.size ≤ _ := hs5
          rw [Hgl.out] at g4 hrun g5 hpb5 B5 hs5
          have HN : Hid (Below W0.heap.size W0 (w3.setCell ⟨w1.heap.size, 0, none⟩ (.slice p5 (q + 1) c5)) ∧ w1.heap.size < (w3.setCell ⟨w1.heap.size, 0, none⟩ (.slice p5 (q + 1) c5)).heap.size ∧ Hid (PB (w3.setCell ⟨w1.heap.size, 0, none⟩ (.slice p5 (q + 1) c5)) W0.heap.size w1.heap.size (F ++ zs.take (k + 1)) H)) := Lib.hid ⟨B5, by omega, Lib.hid (by rw [HT.out]; exact hpb5)⟩
          have k4 := (SPile_cells g4).1
          have kA := (bA.cell (p := ⟨w1.heap.size, 0, none⟩) (World.block_lt_of_cell? _ _ k4)).trans k4
          have k5 := (SPile_cells g5).1
          have z5 := box_free g5 0
          have Q := Lib.hid hrun
          clear bb g4 ho4 hne4 B2 hs2 hrun g5 hpb5 B5 hs5 k0 k1 bD bA y1 y2 hc
          go_upto_region 7 with fail
          go_region_law (refine step_append_runS rfl (.tmp 26) (.tmp 31) 22 22 rfl _ _ rfl rfl _ _ Q.out ?_)
          all_goals
            go_wp2_with fail
            go_roundw
            case rel => exact ⟨k + 1, by omega, by go_num, HN.out.1, HN.out.2.1, hst2, HN.out.2.2⟩
            case measure => simp [intOf]; omega
      | false =>
        simp only [hms] at HM1
        have HM1 := Lib.hid HM1
        have HNo : Hid (stOK ⟨F, H⟩ zs n = false) := Lib.hid (stOK_no hlt (by rw [hy.out]; dsimp only; rw [← HF.out]; exact hms))
        have HSt : Hid (stacked ⟨F, H⟩ zs = ⟨F, H⟩) := Lib.hid (stacked_f (by rw [← Hn.out]; exact HNo.out))
        have Hg := Lib.hid (And.intro gr0 gr1)
        clear hms hst hrd hwr g2 hpb gr0 gr1 hF hF2 hs0
        generalize hgl : F2.length = q at *
        clear hgl
        go_wp2_with fail
        go_region_held3 (fun w' => w'.cell? ⟨b, off + k, none⟩ = some (.int .i64 y) ∧ w'.cell? ⟨w1.heap.size, 0, none⟩ = some (.slice p2 q c2) ∧ w'.cell? ⟨w1.heap.size, 1, none⟩ = some (.int .i64 H)) (go_keep) (first
          | (go_at_call 26; refine (HM1.out _ (Below.refl _ _).drew).mono ?_; rintro e w2 ⟨rfl, bb⟩; obtain ⟨y0, y1, y2⟩ := HG5.out w2 ((Below.refl _ _).drew.trans bb)))
        all_goals
          replace bb := (Below.refl wr.heap.size wr).drew.trans bb
          have Bw2 := Bw.trans (bb.mono Bw.size)
          have hsz := HS.out
          have hBs := B.size
          have hs2 := bb.size
          have g20 := (bb.block _ (show w.heap.size < wr.heap.size by omega)).trans Hg.out.1
          have g21 := (bb.block _ (show w.heap.size + 1 < wr.heap.size by omega)).trans Hg.out.2
          obtain ⟨m0, m1⟩ := SPile_cells g20
          clear bb k0 k1 y0 y1 y2 hc HG5
          have Hs := Lib.hid (And.intro hsz (And.intro hBs hs2))
          clear hsz hBs hs2
          go_wp2_with fail
          refine (HC.out w2 Bw2).mono ?_
          rintro e w5 ⟨p5, c5, rfl, ho5, bb⟩
          obtain ⟨hsz, hBs, hs2⟩ := Hs.out
          have hs5 := bb.size
          have g51 := (bb.block _ (show w.heap.size + 1 < w2.heap.size by omega)).trans g21
          have B5 := Bw2.trans (bb.mono Bw2.size)
          have HN : Hid (WrPile (In w.heap.size ((w5.setCell ⟨w.heap.size + 1, 0, none⟩ (.slice p5 m c5)).setCell ⟨w.heap.size + 1, 1, none⟩ (.int .i64 H)).heap.size) ((w5.setCell ⟨w.heap.size + 1, 0, none⟩ (.slice p5 m c5)).setCell ⟨w.heap.size + 1, 1, none⟩ (.int .i64 H)) (.agg #[.slice p5 m c5, .int .i64 H]) ⟨F, H⟩ ∧ Below w.heap.size w ((w5.setCell ⟨w.heap.size + 1, 0, none⟩ (.slice p5 m c5)).setCell ⟨w.heap.size + 1, 1, none⟩ (.int .i64 H))) := Lib.hid (by
            refine ⟨?_, (B5.setCell (show w.heap.size ≤ w.heap.size + 1 by omega) _).setCell (show w.heap.size ≤ w.heap.size + 1 by omega) _⟩
            have hm := Hm.out
            subst hm
            exact (own_pile (own_baseK ho5 (show W0.heap.size ≤ w2.heap.size + 2 by omega)) Hwf.out.1 Hwf.out.2.2).res (by omega) (by omega) _ _)
          have N2 : Hid (((w5.setCell ⟨w.heap.size + 1, 0, none⟩ (.slice p5 m c5)).setCell ⟨w.heap.size + 1, 1, none⟩ (.int .i64 H)).heap[w.heap.size + 1]? = some (.cells #[.slice p5 m c5, .int .i64 H] 32 (0, 0))) := Lib.hid (box_set (box_set g51 0 _) 1 _)
          have y0 := box_cell g51 0
          have y1 := box_cell g51 1
          have x0 := box_free g51 0
          have x1 := box_free g51 1
          simp at y0 y1
          clear bb ho5 g20 g21 g51 m0 m1 hsz hBs hs2 hs5 B5 Bw2
          go_wp2_with fail
          refine bodyPost_ret (results_cell_row_tmp rfl _ _ (w.heap.size + 1) _ _ _ _ rfl N2.out Try.underlying32 rfl (by kernel_rfl)) rfl ?_
          refine ⟨.agg #[.slice p5 m c5, .int .i64 H], ?_, ?_, HN.out.2⟩
          · rw [HNo.out]; rfl
          · rw [HSt.out]; exact HN.out.1
    · obtain rfl : k = n := by omega
      have HYes := hst
      have HSt : Hid (stacked ⟨F, H⟩ zs = ⟨F2, H⟩) := Lib.hid (by
        rw [stacked_t (by rw [← Hn.out]; exact hst.out), HF.out, Hn.out, List.take_length])
      have hBs := B.size
      have HN : Hid (WrPile (In w.heap.size ((wr.setCell ⟨w.heap.size + 1, 0, none⟩ (.slice p2 F2.length c2)).setCell ⟨w.heap.size + 1, 1, none⟩ (.int .i64 H)).heap.size) ((wr.setCell ⟨w.heap.size + 1, 0, none⟩ (.slice p2 F2.length c2)).setCell ⟨w.heap.size + 1, 1, none⟩ (.int .i64 H)) (.agg #[.slice p2 F2.length c2, .int .i64 H]) ⟨F2, H⟩ ∧ Below w.heap.size w ((wr.setCell ⟨w.heap.size + 1, 0, none⟩ (.slice p2 F2.length c2)).setCell ⟨w.heap.size + 1, 1, none⟩ (.int .i64 H))) := Lib.hid
        ⟨hwr.res (by omega) (by omega) _ _, (Bw.setCell (show w.heap.size ≤ w.heap.size + 1 by omega) _).setCell (show w.heap.size ≤ w.heap.size + 1 by omega) _⟩
      have N2 : Hid (((wr.setCell ⟨w.heap.size + 1, 0, none⟩ (.slice p2 F2.length c2)).setCell ⟨w.heap.size + 1, 1, none⟩ (.int .i64 H)).heap[w.heap.size + 1]? = some (.cells #[.slice p2 F2.length c2, .int .i64 H] 32 (0, 0))) := Lib.hid (box_set (box_set gr1 0 _) 1 _)
      have y0 := box_cell gr1 0
      have y1 := box_cell gr1 1
      have x0 := box_free gr1 0
      have x1 := box_free gr1 1
      simp at y0 y1
      clear hst hrd hwr g2 hpb gr0 gr1 hF hF2 hs0 hBs
      go_wp2_with fail
      refine bodyPost_ret (results_cell_row_tmp rfl _ _ (w.heap.size + 1) _ _ _ _ rfl N2.out Try.underlying32 rfl (by kernel_rfl)) rfl ?_
      refine ⟨.agg #[.slice p2 F2.length c2, .int .i64 H], ?_, ?_, HN.out.2⟩
      · rw [HYes.out]; rfl
      · rw [HSt.out]; exact HN.out.1
end Go.Proofs.Ytoeobpdgfhgpiaa
