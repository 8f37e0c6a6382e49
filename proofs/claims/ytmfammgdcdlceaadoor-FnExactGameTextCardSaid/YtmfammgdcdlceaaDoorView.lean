/-
  The program's writer of words: put, joined, line.
-/
import Derived.Test.YtmfammgdcdlceaaDoorJoinL
import Derived.Test.YtmfammgdcdlceaaDoorShelf
import Derived.Lib.SliceRun
import Derived.Laws.Rows
namespace Go.Proofs.YtmfammgdcdlceaaDoor
open Go.RowKit
set_option linter.unusedVariables false
set_option linter.unusedSimpArgs false

theorem cellsW {w : World} {g : Nat} {v : Value} {t : TypeId} {fr : Nat × Nat} (h : w.heap[g]? = some (.cells #[v] t fr)) : w.cell? ⟨g, 0, none⟩ = some v := by simp [World.cell?, h]
theorem freeW {w : World} {g : Nat} {v : Value} {t : TypeId} (h : w.heap[g]? = some (.cells #[v] t (0, 0))) (i : Nat) : w.frozen? ⟨g, i, none⟩ = false := by simp [World.frozen?, h]
theorem setW {w : World} {g : Nat} {v : Value} {t : TypeId} {fr : Nat × Nat} (h : w.heap[g]? = some (.cells #[v] t fr)) (v' : Value) : (w.setCell ⟨g, 0, none⟩ v').heap[g]? = some (.cells #[v'] t fr) := by
  simp [World.setCell, Array.getElem?_modify, h]
/-- The writer in block g keeps these words; what it owns lies from B on. -/
def VW (w : World) (B g : Nat) (ls : List (List UInt8)) : Prop :=
  B ≤ g ∧ ∃ v, w.heap[g]? = some (.cells #[v] 73 (0, 0)) ∧ w.ownsRow B 9 1 v ls.length (ls.map strV)
theorem VW.below {w w' : World} {B g : Nat} {ls : List (List UInt8)} (h : VW w B g ls) (b : Below w.heap.size w w') : VW w' B g ls := by
  obtain ⟨hB, v, h1, h2⟩ := h
  exact ⟨hB, v, (b.block _ (Array.getElem?_eq_some_iff.1 h1).1).trans h1, own_below h2 b⟩
theorem VW.fresh (w : World) : VW (w.alloc (.cells #[.slice none 0 0] 73)) w.heap.size w.heap.size [] :=
  ⟨Nat.le_refl _, _, heap_alloc_new _ _, World.ownsRow_nil _ _ _ _⟩
theorem own_keep1 {w w' : World} {B : Nat} {E : TypeId} {size n : Nat} {v : Value} {xs : List Value} (h : w.ownsRow B E size v n xs) (hk : ∀ q, v.ownBlock = some q → w'.heap[q]? = w.heap[q]?) : w'.ownsRow B E size v n xs := by
  obtain ⟨hl, h⟩ := h
  refine ⟨hl, h.imp id ?_⟩
  rintro ⟨g', cap', cur, e', hg, hh, r⟩
  refine ⟨g', cap', cur, e', hg, ?_, r⟩
  rw [hk g' (by rw [e']; rfl)]; exact hh
set_option maxRecDepth 100000 in
set_option maxHeartbeats 1000000 in
theorem put1_any (B g b : Nat) (ls : List (List UInt8)) (l : List UInt8) (w : World) (h : VW w B g ls) (hc : w.cell? ⟨b, 0, none⟩ = some (strV l)) (hx : ls.length ≤ 200000000) (hB : B ≤ w.heap.size) :
    Calls Tryd.prog 43 #[.pointer (some ⟨g, 0, none⟩), .slice (some ⟨b, 0, none⟩) 1 1] w fun e w' => e = .returned (.tuple #[]) ∧ VW w' B g (ls ++ [l]) ∧ Below B w w' := by
  obtain ⟨i0, hi, hz0, hz1, hz2⟩ := info_parts info_str
  obtain ⟨hBg, v, hg, hown⟩ := h
  have k0 := cellsW hg
  have hne := Lib.ownBlock_ne hown hg (by decide)
  have hlt := (Array.getElem?_eq_some_iff.1 hg).1
  obtain ⟨n, hn⟩ : ∃ n, n = ls.length := ⟨_, rfl⟩
  have Hn := Lib.hid hn
  rw [← hn] at hown hx
  clear hn
  go_enter Tryd.func43, Tryd.ntmps43
  go_wp2_with (at_builtin; refine wpList_append_own _ rfl _ _ 64 rfl B 9 i0 (.string ⟨#[]⟩) 1 16 Tryd.underlying64 hi hz0 hz1 hz2 rfl (by decide) _ _ _ rfl hown ⟨b, 0, none⟩ 1 1 [strV l] rfl rfl ?c1 ?c2 ?c3 ?c4 ?c5 ?_)
  case c1 =>
    intro j u hj
    have : j = 0 := by have := (List.getElem?_eq_some_iff.1 hj).1; simpa using this
    subst this
    simp at hj
    subst hj
    simpa [Addr.add] using hc
  case c2 => exact one_word1 l
  case c3 => unfold maxLen; omega
  case c4 => omega
  case c5 => exact hB
  intro v' w1 hown' hgr _
  obtain ⟨pv, cv, ev⟩ := own_shape hown'
  subst ev
  have g1 : w1.heap[g]? = some (.cells #[v] 73 (0, 0)) := (hgr.block _ hlt (fun e => hne e.symm)).trans hg
  have c1 := cellsW g1
  have x1 := freeW g1 0
  have B1 : Below B w w1 := (Below.refl B w).grown hgr hB (own_block hown)
  have hN : Hid (VW (w1.setCell ⟨g, 0, none⟩ (.slice pv (n + 1) cv)) B g (ls ++ [l]) ∧ Below B w (w1.setCell ⟨g, 0, none⟩ (.slice pv (n + 1) cv))) := Lib.hid (by
    refine ⟨⟨hBg, _, setW g1 _, ?_⟩, B1.setCell (show B ≤ g from hBg) _⟩
    have hne2 := Lib.ownBlock_ne hown' g1 (by decide)
    have e : (ls ++ [l]).map strV = ls.map strV ++ [strV l] := by simp
    rw [e, List.length_append, ← Hn.out]
    exact own_keep1 hown' (fun q hq => Below.heap_setCell _ _ _ _ (fun e => hne2 (by rw [hq, e])))
  )
  clear hown hown' hgr hg g1 hc k0 B1 hne
  go_wp2_with fail
  exact bodyPost_end (v := .tuple #[]) (by first | rfl | simp [results, go_sem]) rfl ⟨rfl, hN.out.1, hN.out.2⟩
theorem VW.open {w : World} {B g : Nat} {ls : List (List UInt8)} (h : VW w B g ls) : (ls = [] ∧ ∃ a cap, w.heap[g]? = some (.cells #[.slice a 0 cap] 73 (0, 0)) ∧ w.ownsRow B 9 1 (.slice a 0 cap) 0 []) ∨
    (ls ≠ [] ∧ ∃ q cap cur, w.heap[g]? = some (.cells #[.slice (some ⟨q, 0, none⟩) ls.length cap] 73 (0, 0)) ∧ w.heap[q]? = some (.cells cur 9 (0, 0)) ∧ cur.size = cap ∧ ls.length ≤ cap ∧ cap ≤ maxLen ∧ B ≤ q ∧ cur.toList.take ls.length = ls.map strV) := by
  obtain ⟨hB, v, h1, h2⟩ := h
  by_cases hz : ls = []
  · subst hz
    obtain ⟨a, cap, rfl⟩ := own_shape h2
    exact .inl ⟨rfl, a, cap, h1, h2⟩
  · refine .inr ⟨hz, ?_⟩
    obtain ⟨hl, h2⟩ := h2
    rcases h2 with ⟨-, h0⟩ | ⟨q, cap, cur, rfl, hq, hh, hnc, hcm, hcs, ht⟩
    · exact absurd (List.eq_nil_of_length_eq_zero h0) hz
    · exact ⟨q, cap, cur, h1, hh, by simpa using hcs, hnc, hcm, hq, by simpa using ht⟩
theorem join_map (ls : List (List UInt8)) : (ls.map fun l => (⟨l.toArray⟩ : ByteArray)).map (·.data.toList) = ls := by
  rw [List.map_map]
  conv => rhs; rw [← List.map_id ls]
  apply List.map_congr_left
  intro l _
  rfl
theorem take_cells_str {w : World} {q : Nat} {cur : Array Value} {t : TypeId} {ls : List (List UInt8)} (hh : w.heap[q]? = some (.cells cur t (0, 0))) (ht : cur.toList.take ls.length = ls.map strV) : ∀ (j : Nat) x, (ls.map fun l => (⟨l.toArray⟩ : ByteArray))[j]? = some x → w.cell? ⟨q, 0 + j, none⟩ = some (.string x) := by
  intro j x hx
  have hj : j < ls.length := by have := (List.getElem?_eq_some_iff.1 hx).1; simpa using this
  have e : (cur.toList.take ls.length)[j]? = (ls.map strV)[j]? := by rw [ht]
  rw [List.getElem?_take, if_pos hj] at e
  have hb : w.cell? ⟨q, j, none⟩ = cur[j]? := by simp [World.cell?, hh]
  rw [Nat.zero_add, hb, ← Array.getElem?_toList, e]
  simp [hj] at hx ⊢
  rw [← hx]
  rfl
theorem cells_keepW (q : Nat) (t : TypeId) (fr : Nat × Nat) : ∀ (vs : List Value) (o : Nat) (w : World) (cur : Array Value), w.heap[q]? = some (.cells cur t fr) → ∃ cur2, (w.setCells q o vs).heap[q]? = some (.cells cur2 t fr) ∧ cur2.size = cur.size
  | [], o, w, cur, h => ⟨cur, h, rfl⟩
  | v :: r, o, w, cur, h => by
    have h2 : (w.setCell ⟨q, o, none⟩ v).heap[q]? = some (.cells (cur.setIfInBounds o v) t fr) := by simp [World.setCell, Array.getElem?_modify, h]
    obtain ⟨cur2, h3, h4⟩ := cells_keepW q t fr r (o + 1) _ _ h2
    exact ⟨cur2, h3, by simpa using h4⟩
theorem cells_otherW (b : Nat) {i : Nat} (hi : i ≠ b) : ∀ (vs : List Value) (o : Nat) (w : World), (w.setCells b o vs).heap[i]? = w.heap[i]?
  | [], _, _ => rfl
  | v :: r, o, w => by rw [World.setCells, cells_otherW b hi r (o + 1), Below.heap_setCell _ _ _ _ hi]
theorem cells_belowW {B : Nat} {a : World} (b : Nat) (hb : B ≤ b) : ∀ (vs : List Value) (o : Nat) {w : World}, Below B a w → Below B a (w.setCells b o vs)
  | [], _, _, h => h
  | v :: r, o, w, h => by rw [World.setCells]; exact cells_belowW b hb r (o + 1) (h.setCell (show B ≤ b from hb) v)
set_option maxRecDepth 100000 in
set_option maxHeartbeats 1000000 in
theorem joined_any (B g : Nat) (ls : List (List UInt8)) (sep : List UInt8) (w : World) (h : VW w B g ls) (hx : ls.length ≤ 200000000) (hb : jlen sep ls ≤ 1099511627776) (hB : B ≤ w.heap.size) :
    Calls Tryd.prog 44 #[.pointer (some ⟨g, 0, none⟩), .string ⟨sep.toArray⟩] w fun e w' => e = .returned (.string ⟨(jl sep ls).toArray⟩) ∧ VW w' B g [] ∧ Below B w w' := by
  have hBg := h.1
  rcases h.open with ⟨rfl, a, cap, hg, hown⟩ | ⟨hz, q, cap, cur, hg, hq, hcs, hnc, hcm, hBq, ht⟩
  · have k0 := cellsW hg
    have x0 := freeW hg 0
    have HJ := Lib.hid (Tryd.strings_Join_none a cap ⟨sep.toArray⟩ w)
    have hcl : ∀ ty, (Builtin.clear_ #[64] ty #[.slice a 0 cap]).run Tryd.prog w = .ok (.tuple #[]) w := fun ty => by
      simp [Builtin.clear_, run_underlying Tryd.underlying64, Builtin.zeroCells]
      cases a <;> simp
    have Q := Lib.hid hcl
    have hN : Hid (VW (w.setCell ⟨g, 0, none⟩ (.slice a 0 cap)) B g [] ∧ Below B w (w.setCell ⟨g, 0, none⟩ (.slice a 0 cap))) := Lib.hid (by
      have hne2 := Lib.ownBlock_ne hown hg (by decide)
      exact ⟨⟨hBg, _, setW hg _, own_keep1 hown (fun q hq => Below.heap_setCell _ _ _ _ (fun e => hne2 (by rw [hq, e])))⟩, (Below.refl B w).setCell (show B ≤ g from hBg) _⟩)
    have hcap : cap ≤ 9223372036854775807 := by
      obtain ⟨-, h2⟩ := hown
      rcases h2 with ⟨e, -⟩ | ⟨q, c2, cur, e, -, -, -, hm, -⟩
      · have := (Value.slice.inj e).2.2; omega
      · have := (Value.slice.inj e).2.2; unfold maxLen at hm; omega
    have hnil : a = none → cap = 0 := by
      obtain ⟨-, h2⟩ := hown
      rcases h2 with ⟨e, -⟩ | ⟨q, c2, cur, e, -, -, -, hm, -⟩
      · intro _; exact (Value.slice.inj e).2.2
      · intro h; rw [h] at e; cases e
    clear hcl hown hg
    cases a with
    | none =>
      obtain rfl := hnil rfl
      go_enter Tryd.func44, Tryd.ntmps44
      go_wp2_with fail
      refine HJ.out.mono ?_
      rintro e _w ⟨rfl, rfl⟩
      have hcl := Q.out 0
      go_wp2_with fail
      go_ret
      exact ⟨rfl, hN.out.1, hN.out.2⟩
    | some ad =>
      go_enter Tryd.func44, Tryd.ntmps44
      go_wp2_with fail
      refine HJ.out.mono ?_
      rintro e _w ⟨rfl, rfl⟩
      have hcl := Q.out 0
      go_wp2_with fail
      go_ret
      exact ⟨rfl, hN.out.1, hN.out.2⟩
  · have k0 := cellsW hg
    have hlg := (Array.getElem?_eq_some_iff.1 hg).1
    have hlq := (Array.getElem?_eq_some_iff.1 hq).1
    obtain ⟨n, hn⟩ : ∃ n, n = ls.length := ⟨_, rfl⟩
    have hn0 : 0 < n := by rw [hn]; exact List.length_pos_iff.2 hz
    have hgq : g ≠ q := by
      intro e; rw [e, hq] at hg
      have := (Obj.cells.inj (Option.some.inj hg)).2.1
      exact absurd this (by decide)
    have HJ := Tryd.strings_Join q 0 cap (ls.map fun l => (⟨l.toArray⟩ : ByteArray)) ⟨sep.toArray⟩ w (take_cells_str hq ht) hlq (by simp; omega) (by simpa using hnc) (by rw [join_map]; exact Nat.le_trans (jl_len sep ls) (by omega))
    rw [join_map, List.length_map, ← hn] at HJ
    replace HJ := Lib.hid HJ
    have HQ : Hid (∀ wx, Below w.heap.size w wx → wx.cell? ⟨g, 0, none⟩ = some (.slice (some ⟨q, 0, none⟩) n cap) ∧ wx.heap[q]? = some (.cells cur 9 (0, 0)) ∧ wx.heap[g]? = some (.cells #[.slice (some ⟨q, 0, none⟩) n cap] 73 (0, 0))) := Lib.hid (fun wx hb => by
      rw [← hn] at hg
      have h1 := (hb.block _ hlg).trans hg
      exact ⟨cellsW h1, (hb.block _ hlq).trans hq, h1⟩)
    rw [← hn] at k0
    rw [← hn] at hnc
    have HC := Lib.hid (And.intro hcs (And.intro hnc (And.intro hcm (And.intro hBq (And.intro hgq hlg)))))
    clear hg hq hcs hcm hBq ht hn hz
    go_enter Tryd.func44, Tryd.ntmps44
    go_wp2_with fail
    refine HJ.out.mono ?_
    rintro e w1 ⟨rfl, b1⟩
    obtain ⟨k1, hq1, hg1⟩ := HQ.out w1 b1
    obtain ⟨hcs, hnc, hcm, hBq, hgq, hlg⟩ := HC.out
    have B1 : Below B w w1 := b1.mono hB
    obtain ⟨W2, hW2⟩ : ∃ W, W = w1.setCells q 0 (List.replicate n (.string ⟨#[]⟩)) := ⟨_, rfl⟩
    have hcl : ∀ ty, (Builtin.clear_ #[64] ty #[.slice (some ⟨q, 0, none⟩) n cap]).run Tryd.prog w1 = .ok (.tuple #[]) W2 := fun ty => by
      rw [hW2]
      exact Lib.run_clear_slice w1 64 9 ty (.string ⟨#[]⟩) Tryd.underlying64 Tryd.zeroValue9 rfl rfl q 0 n cap hn0 (fun j hj => by simp [World.cell?, hq1]; omega) (fun j hj => by simp [World.frozen?, hq1])
    have Q := Lib.hid hcl
    have g2 : W2.heap[g]? = some (.cells #[.slice (some ⟨q, 0, none⟩) n cap] 73 (0, 0)) := by rw [hW2, cells_otherW q hgq]; exact hg1
    obtain ⟨cur2, q2, hc2⟩ : ∃ cur2, W2.heap[q]? = some (.cells cur2 9 (0, 0)) ∧ cur2.size = cur.size := by rw [hW2]; exact cells_keepW q _ _ _ 0 w1 cur hq1
    have k2 := cellsW g2
    have x2 := freeW g2 0
    have B2 : Below B w W2 := by rw [hW2]; exact cells_belowW q hBq _ 0 B1
    have hcap2 : cap ≤ 9223372036854775807 := by unfold maxLen at hcm; omega
    have hN : Hid (VW (W2.setCell ⟨g, 0, none⟩ (.slice (some ⟨q, 0, none⟩) 0 cap)) B g [] ∧ Below B w (W2.setCell ⟨g, 0, none⟩ (.slice (some ⟨q, 0, none⟩) 0 cap))) := Lib.hid (by
      refine ⟨⟨hBg, _, setW g2 _, ⟨rfl, .inr ⟨q, cap, cur2, rfl, hBq, ?_, Nat.zero_le _, hcm, by omega, rfl⟩⟩⟩, B2.setCell (show B ≤ g from hBg) _⟩
      rw [Below.heap_setCell _ _ _ _ (Ne.symm hgq)]; exact q2)
    have HW2 := Lib.hid hW2
    have hnC := Lib.hid hnc
    clear hcl g2 q2 hc2 B2 b1 B1 hq1 hg1 hW2 hcm hcs HJ HQ HC k0
    have hcl := Q.out 0
    go_wp2_with fail
    go_ret
    exact ⟨rfl, hN.out.1, hN.out.2⟩
set_option maxRecDepth 100000 in
set_option maxHeartbeats 1000000 in
theorem line_any (B g : Nat) (ls : List (List UInt8)) (w : World) (h : VW w B g ls) (hx : ls.length ≤ 200000000) (hb : jlen [32] ls ≤ 1099511627776) (hB : B ≤ w.heap.size) :
    Calls Tryd.prog 45 #[.pointer (some ⟨g, 0, none⟩)] w fun e w' => e = .returned (.string (lineT [32] ls)) ∧ Below B w w' := by
  have HJ := Lib.hid (joined_any B g ls [32] w h hx hb hB)
  obtain ⟨-, v, hg, hown⟩ := h
  obtain ⟨a, cap, rfl⟩ := own_shape hown
  have k0 := cellsW hg
  obtain ⟨n, hn⟩ : ∃ n, n = ls.length := ⟨_, rfl⟩
  rw [← hn] at k0
  clear hg hown hb
  by_cases h0 : n = 0
  · subst h0
    have HT := Lib.hid (lineT_nil [32] ls hn.symm)
    clear hn
    go_enter Tryd.func45, Tryd.ntmps45
    go_wp2_with fail
    go_ret
    exact ⟨by rw [HT.out]; rfl, Below.refl _ _⟩
  · have HT := Lib.hid (lineT_some [32] ls (by omega))
    have hq : ((n : Int) == 0) = false := by simp; omega
    clear hn
    go_enter Tryd.func45, Tryd.ntmps45
    go_wp2_with fail
    refine HJ.out.mono ?_
    rintro e w1 ⟨rfl, -, B1⟩
    go_wp2_with fail
    go_ret
    exact ⟨by rw [HT.out]; rfl, B1⟩
end Go.Proofs.YtmfammgdcdlceaaDoor
