/-
  Slices of slices of integers: what can be read, what may be written; the laws' helpers over them.
-/
import Derived.Test.YtmfammgdcdlceaaDoorSzI
import Derived.Deep.Matrix
namespace Go.Proofs.YtmfammgdcdlceaaDoor
open Go.RowKit
set_option linter.unusedVariables false
set_option linter.unusedSimpArgs false

/-- The value v is a slice of slices, which hold the numbers zss. -/
def RdRows (k : IntKind) (w : World) (v : Value) (zss : List (List Int)) : Prop :=
  ∃ (a : Option Addr) (cap : Nat), v = .slice a zss.length cap ∧ (zss.length ≤ cap ∧ cap ≤ maxLen ∧ (a = none → cap = 0)) ∧
    (zss = [] ∨ ∃ blk off, a = some ⟨blk, off, none⟩ ∧ ∀ j (hj : j < zss.length), ∃ (r : Value) (b : Nat), w.cell? ⟨blk, off + j, none⟩ = some r ∧ RdAt k w r zss[j] b)
theorem RdRows.below {k : IntKind} {w w' : World} {v : Value} {zss : List (List Int)} (h : RdRows k w v zss) (hb : Below w.heap.size w w') : RdRows k w' v zss := by
  obtain ⟨a, cap, h1, h2, h3⟩ := h
  refine ⟨a, cap, h1, h2, ?_⟩
  rcases h3 with h3 | ⟨blk, off, h4, h5⟩
  · exact .inl h3
  · refine .inr ⟨blk, off, h4, fun j hj => ?_⟩
    obtain ⟨r, b, hc, hr⟩ := h5 j hj
    exact ⟨r, b, by rw [hb.cell (p := ⟨blk, off + j, none⟩) (World.block_lt_of_cell? _ _ hc)]; exact hc, hr.below hb⟩
/-- A row that is read. -/
theorem RdRows.row {k : IntKind} {w : World} {v : Value} {zss : List (List Int)} (h : RdRows k w v zss) {j : Nat} (hj : j < zss.length) :
    ∃ (blk off cap : Nat) (p : Option Addr) (c b : Nat), v = .slice (some ⟨blk, off, none⟩) zss.length cap ∧ w.cell? ⟨blk, off + j, none⟩ = some (.slice p zss[j].length c) ∧ RdAt k w (.slice p zss[j].length c) zss[j] b ∧ zss[j].length ≤ maxLen := by
  obtain ⟨a, cap, h1, h2, h3⟩ := h
  rcases h3 with h3 | ⟨blk, off, rfl, h5⟩
  · subst h3; simp at hj
  · obtain ⟨r, b, hc, hr⟩ := h5 j hj
    obtain ⟨p, c, rfl, hcap, -⟩ := id hr
    exact ⟨blk, off, cap, p, c, b, h1, hc, hr, Nat.le_trans hcap.1 hcap.2.1⟩
/-- A slice of slices that came in. -/
def IsRows (k : IntKind) (w : World) (a : Option Addr) (len cap : Nat) (zss : List (List Int)) : Prop := RdRows k w (.slice a len cap) zss
theorem isRows_nil {k : IntKind} {w : World} : IsRows k w none 0 0 [] := ⟨none, 0, rfl, ⟨Nat.le_refl _, Nat.zero_le _, fun _ => rfl⟩, .inl rfl⟩
theorem rows_of_open {k : IntKind} {w : World} {a : Addr} {len cap : Nat} (hl : len ≤ cap) (hm : cap ≤ maxLen) (A : Nat → Option Addr) (L C : Nat → Nat) (Z : Nat → List Int)
    (h : ∀ r, r < cap → w.cell? (a.add r) = some (.slice (A r) (L r) (C r)) ∧ L r ≤ C r ∧ C r ≤ maxLen ∧ (Z r).length = C r ∧ (∀ n ∈ Z r, (Lit.int k n).wf = true) ∧ (A r = none → C r = 0) ∧
        ∀ a', A r = some a' → 0 ≤ a'.block ∧ ∀ c, c < C r → w.cell? (a'.add c) = some (.int k ((Z r).getD c 0))) :
    RdRows k w (.slice (some a) len cap) ((List.range len).map fun r => (Z r).take (L r)) := by
  refine ⟨some a, cap, by simp, ⟨by simpa using hl, hm, fun h => by cases h⟩, ?_⟩
  by_cases h0 : len = 0
  · subst h0; exact .inl rfl
  obtain ⟨blk, off, spot⟩ := a
  have hs : spot = none := by
    have := (h 0 (by omega)).1
    simpa [Addr.add] using World.cell?_spot this
  subst hs
  refine .inr ⟨blk, off, rfl, fun j hj => ?_⟩
  have hj' : j < len := by simpa using hj
  obtain ⟨h1, h2, h3, h4, h5, h6, h7⟩ := h j (by omega)
  have e : (⟨blk, off, none⟩ : Addr).add j = ⟨blk, off + j, none⟩ := by simp [Addr.add]
  rw [e] at h1
  have hrow : IsRow k w (A j) (L j) (C j) (Z j) := by
    cases hA : A j with
    | none =>
      have hc0 := h6 hA
      have hz : Z j = [] := List.length_eq_zero_iff.1 (by omega)
      exact .inl ⟨rfl, by omega, hc0, hz⟩
    | some x => exact .inr ⟨x, rfl, h2, h3, h4, fun i hi => (h7 x hA).2 i (by omega), h5⟩
  obtain ⟨b, hr, -⟩ := hrow.rd
  exact ⟨_, b, h1, by simpa using hr⟩

def sumLen (zss : List (List Int)) : Nat := (zss.map List.length).sum
theorem sumLen_take (zss : List (List Int)) (k : Nat) (h : k < zss.length) : sumLen (zss.take (k + 1)) = sumLen (zss.take k) + zss[k].length := by
  unfold sumLen
  rw [List.take_succ_eq_append_getElem h, List.map_append, List.sum_append]; simp
theorem sumLen_take_le (zss : List (List Int)) (k : Nat) : sumLen (zss.take k) ≤ sumLen zss := by
  have : sumLen zss = sumLen (zss.take k) + sumLen (zss.drop k) := by
    unfold sumLen; rw [← List.sum_append, ← List.map_append, List.take_append_drop]
  omega
theorem len_le_sum : ∀ (zss : List (List Int)) {j : Nat} (h : j < zss.length), zss[j].length ≤ sumLen zss
  | [], j, h => by simp at h
  | z :: zss, 0, h => by simp [sumLen]
  | z :: zss, j + 1, h => by
    have := len_le_sum zss (j := j) (by simpa using h)
    simp only [sumLen, List.map_cons, List.sum_cons, List.getElem_cons_succ] at this ⊢
    omega


set_option maxRecDepth 100000 in
theorem szIntSS_any (v : Value) (zss : List (List Int)) (left : Int) (w : World) (h : RdRows .i64 w v zss) (h0 : 0 ≤ left) (h1 : left ≤ 1048576) :
    Calls Tryd.prog 8 #[v, .int .i64 left] w fun e w' => (∃ r : Int, e = .returned (.int .i64 r) ∧ -1 ≤ r ∧ r ≤ 1048576 ∧ (0 ≤ r → (zss.length : Int) + sumLen zss + r = left)) ∧ w = w' := by
  have hrow := fun j (hj : j < zss.length) => h.row hj
  obtain ⟨a, cap, rfl, hcap, -⟩ := id h
  obtain ⟨n, hn⟩ : ∃ n, n = zss.length := ⟨_, rfl⟩
  have Hn := Lib.hid hn
  have hn2 : n ≤ 9223372036854775807 := by have := hcap.1; have h2 := hcap.2.1; unfold maxLen at h2; omega
  have Hrow := Lib.hid hrow
  rw [← hn]
  clear hn hrow h hcap
  by_cases hl : left < n
  · have hd : left - (n : Int) < 0 := by omega
    go_enter Tryd.func8, Tryd.ntmps8
    go_wp2_with fail
    go_ret
    exact ⟨⟨-1, rfl, by omega, by omega, fun h => by omega⟩, rfl⟩
  · have hd : ¬ left - (n : Int) < 0 := by omega
    go_enter Tryd.func8, Tryd.ntmps8
    go_wp2_with fail
    go_loop [1, 5] (fun l i => ∃ (k : Nat) (x : Int), k ≤ n ∧ i = .int .i64 k ∧ l = .int .i64 x ∧ 0 ≤ x ∧ x ≤ 1048576 ∧ Hid ((n : Int) + sumLen (zss.take k) + x = left)) (fun _ i => n - (intOf i).toNat)
    case atStart => exact ⟨0, left - n, Nat.zero_le _, rfl, rfl, by omega, by omega, Lib.hid (by simp [sumLen]; omega)⟩
    case round =>
      obtain ⟨k, x, hk, rfl, rfl, hx0, hx1, hs⟩ := hrel
      by_cases hlt : k < n
      · have hz : k < zss.length := by rw [← Hn.out]; exact hlt
        obtain ⟨blk, off, cap', p, c, b, hv, hc, -, hml⟩ := Hrow.out k hz
        have ha := (Value.slice.inj hv).1
        clear hv
        subst ha
        have hst := sumLen_take zss k hz
        obtain ⟨m, hm⟩ : ∃ m, m = (zss[k]'hz).length := ⟨_, rfl⟩
        rw [← hm] at hc hml hst
        have Hst := Lib.hid hst
        unfold maxLen at hml
        clear hm hst
        by_cases hxm : x < m
        · have HC := Lib.hid (szIntS_any p m c x w hx0 hx1 (by omega))
          rw [if_pos hxm] at HC
          go_wp2_with fail
          refine HC.out.mono ?_
          rintro e _w ⟨rfl, rfl⟩
          go_wp2_with fail
          go_ret
          exact ⟨⟨-1, rfl, by omega, by omega, fun h => by omega⟩, rfl⟩
        · have HC := Lib.hid (szIntS_any p m c x w hx0 hx1 (by omega))
          rw [if_neg hxm] at HC
          have hs2 : Hid ((n : Int) + sumLen (zss.take (k + 1)) + (x - m) = left) := Lib.hid (by have := hs.out; rw [Hst.out]; omega)
          go_wp2_with fail
          refine HC.out.mono ?_
          rintro e _w ⟨rfl, rfl⟩
          go_wp2_with fail
          go_round
          case rel => exact ⟨k + 1, x - m, by omega, by go_num, rfl, by omega, by omega, hs2⟩
          case measure => simp [intOf]; omega
      · obtain rfl : k = n := by omega
        have hs2 : Hid ((k : Int) + sumLen zss + x = left) := Lib.hid (by have := hs.out; rw [List.take_of_length_le (by rw [Hn.out]; exact Nat.le_refl _)] at this; exact this)
        go_wp2_with fail
        go_ret
        exact ⟨⟨x, rfl, by omega, by omega, fun _ => hs2.out⟩, rfl⟩

theorem info_rowI : (Tryd.prog.info? 30).map (fun i => (i.zero, i.size, i.bytes)) = some (some (.slice none 0 0), 1, 24) := by kernel_rfl

/-- .. and may be written: each row in a block of its own, the blocks behind one another. -/
def WrRows (k : IntKind) (w : World) (B : Nat) (v : Value) (zss : List (List Int)) : Prop :=
  ∃ (blk cap : Nat) (bf : Nat → Nat), v = .slice (some ⟨blk, 0, none⟩) zss.length cap ∧ (zss.length ≤ cap ∧ cap ≤ maxLen) ∧ B ≤ blk ∧ blk < w.heap.size ∧
    (∀ i j, i < j → j < zss.length → bf i < bf j) ∧ ∀ j (hj : j < zss.length), blk < bf j ∧ bf j < w.heap.size ∧ w.frozen? ⟨blk, j, none⟩ = false ∧ ∃ r, w.cell? ⟨blk, j, none⟩ = some r ∧ WrAt k w r zss[j] (bf j)
theorem WrRows.rd {k : IntKind} {w : World} {B : Nat} {v : Value} {zss : List (List Int)} (h : WrRows k w B v zss) : RdRows k w v zss := by
  obtain ⟨blk, cap, bf, rfl, ⟨h1, h2⟩, -, -, -, h3⟩ := h
  refine ⟨_, cap, rfl, ⟨h1, h2, fun h => by cases h⟩, ?_⟩
  by_cases h0 : zss = []
  · exact .inl h0
  · refine .inr ⟨blk, 0, rfl, fun j hj => ?_⟩
    obtain ⟨-, -, -, r, hc, hr⟩ := h3 j hj
    exact ⟨r, bf j, by rw [Nat.zero_add]; exact hc, hr.rd⟩

set_option maxRecDepth 100000 in
set_option maxHeartbeats 1000000 in
theorem toIntSS_any (v : Value) (zss : List (List Int)) (w : World) (h : RdRows .i64 w v zss) (hl : zss.length ≤ 1048576) (hl2 : sumLen zss ≤ 1048576) :
    Calls Tryd.prog 10 #[v] w fun e w' => ∃ v', e = .returned v' ∧ WrRows .i64 w' w.heap.size v' zss ∧ Below w.heap.size w w' := by
  obtain ⟨i0, hi, hz0, hz1, hz2⟩ := info_parts info_rowI
  have hrow := fun wx (hb : Below w.heap.size w wx) j (hj : j < zss.length) => (h.below hb).row hj
  obtain ⟨a, cap, rfl, hcap, -⟩ := id h
  obtain ⟨n, hn⟩ : ∃ n, n = zss.length := ⟨_, rfl⟩
  have Hn := Lib.hid hn
  have Hrow := Lib.hid hrow
  have Hsum : Hid (∀ j (hj : j < zss.length), zss[j].length ≤ 1048576) := Lib.hid (fun j hj => Nat.le_trans (len_le_sum zss hj) hl2)
  rw [← hn] at hl ⊢
  clear hn hrow h hcap hl2
  go_enter Tryd.func10, Tryd.ntmps10
  go_wp2_with (at_make; refine wpList_make_full _ rfl _ _ 22 rfl w.heap.size 30 i0 (.slice none 0 0) 1 Tryd.underlying22 hi hz0 hz1 _ _ _ _ n rfl rfl rfl rfl ?c1 ?c2 ?c3 ?_)
  case c1 => rw [hz2]; omega
  case c2 => unfold maxLen; omega
  case c3 => exact Nat.le_refl _
  intro w1 hown hgr
  have hb1 : Below w.heap.size w w1 := (Below.refl _ _).grown hgr (Nat.le_refl _) (fun k hk => by cases hk)
  have hlt1 := own_madeIntS hown
  clear hgr hi hz0 hz1 hz2
  go_wp2_with fail
  go_loopw [4] (fun i wr => ∃ k : Nat, k ≤ n ∧ i = .int .i64 k ∧ Below w.heap.size w wr ∧ w.heap.size < wr.heap.size ∧ ∃ (xs : List Value) (bf : Nat → Nat), wr.ownsRow w.heap.size 30 1 (.slice (some ⟨w.heap.size, 0, none⟩) n n) n xs ∧
      Hid (∀ i j, i < j → j < k → bf i < bf j) ∧ Hid (∀ j (hj : j < zss.length), j < k → w.heap.size < bf j ∧ bf j < wr.heap.size ∧ ∃ r, xs[j]? = some r ∧ WrAt .i64 wr r zss[j] (bf j))) (fun i _ => n - (intOf i).toNat)
  case atStart => exact ⟨0, Nat.zero_le _, rfl, hb1, hlt1, _, fun _ => 0, hown, Lib.hid (fun i j _ h => by omega), Lib.hid (fun j _ h => by omega)⟩
  case round =>
    clear hown hb1 hlt1
    obtain ⟨k, hk, rfl, B, hlt1, xs, bf, hown, hmono, hxs⟩ := hrel
    by_cases hlt : k < n
    · have hz : k < zss.length := by rw [← Hn.out]; exact hlt
      obtain ⟨blk, off, cap', p, c, b, hv, hc, hr, -⟩ := Hrow.out wr B k hz
      have ha := (Value.slice.inj hv).1
      clear hv
      subst ha
      have hsm := Hsum.out k hz
      have hcall := toIntS_any _ _ _ wr hr (by omega)
      have Hz : Hid (k < zss.length) := Lib.hid hz
      obtain ⟨zs, hzs⟩ : ∃ zs, zs = zss[k]'hz := ⟨_, rfl⟩
      rw [← hzs] at hc hcall hsm
      have Hzs := Lib.hid hzs
      have hcall := Lib.hid hcall
      clear hr hzs
      go_wp2_with fail
      refine hcall.out.mono ?_
      rintro e w2 ⟨v2, rfl, hw2, B2, hlt2⟩
      obtain ⟨pa, pc, hv2, -⟩ := id hw2
      have hown2 := own_below hown B2
      have hB2 := B.trans (B2.mono B.size)
      obtain ⟨x, hx⟩ : ∃ x, xs[k]? = some x := ⟨_, List.getElem?_eq_getElem (by rw [hown.1]; omega)⟩
      have hc2 : w2.cell? ⟨w.heap.size, k, none⟩ = some x := by rw [hown2.cellAt k (by omega), hx]
      have hf2 : w2.frozen? ⟨w.heap.size, k, none⟩ = false := hown2.frozenAt k
      have hst := (hown2.stored k v2).1
      have hb3 : Below w.heap.size w (w2.setCell ⟨w.heap.size, k, none⟩ v2) := hB2.setCell (Nat.le_refl _) _
      have hs3 : (w2.setCell ⟨w.heap.size, k, none⟩ v2).heap.size = w2.heap.size := by simp [World.setCell]
      have hkeep : ∀ q, q ≠ w.heap.size → (w2.setCell ⟨w.heap.size, k, none⟩ v2).heap[q]? = w2.heap[q]? := fun q hq => Below.heap_setCell _ _ _ _ hq
      have hmono2 : Hid (∀ i j, i < j → j < k + 1 → (fun j => if j = k then wr.heap.size else bf j) i < (fun j => if j = k then wr.heap.size else bf j) j) := Lib.hid (fun i j hij hj => by
        have hik : i ≠ k := by omega
        have hiz : i < zss.length := by have := Hz.out; omega
        simp only [if_neg hik]
        by_cases e : j = k
        · rw [if_pos e]; exact (hxs.out i hiz (by omega)).2.1
        · rw [if_neg e]; exact hmono.out i j hij (by omega))
      have hrel2 : Hid (∀ j (hj : j < zss.length), j < k + 1 → w.heap.size < (fun j => if j = k then wr.heap.size else bf j) j ∧ (fun j => if j = k then wr.heap.size else bf j) j < (w2.setCell ⟨w.heap.size, k, none⟩ v2).heap.size ∧ ∃ r, (xs.set k v2)[j]? = some r ∧ WrAt .i64 (w2.setCell ⟨w.heap.size, k, none⟩ v2) r zss[j] ((fun j => if j = k then wr.heap.size else bf j) j)) := Lib.hid (fun j hjz hj => by
        rw [hs3]
        by_cases e : j = k
        · subst e
          simp only [if_true]
          refine ⟨hlt1, hlt2, v2, by rw [List.getElem?_set_self (by rw [hown.1]; omega)], ?_⟩
          rw [← Hzs.out]
          exact hw2.keep fun _ => hkeep _ (by omega)
        · obtain ⟨g1, g2, r, g3, g4⟩ := hxs.out j hjz (by omega)
          simp only [if_neg e]
          refine ⟨g1, Nat.lt_of_lt_of_le g2 B2.size, r, by rw [List.getElem?_set_ne (by omega)]; exact g3, ?_⟩
          exact (g4.below B2).keep fun _ => hkeep _ (by omega))
      have hlt3 : Hid (w.heap.size < (w2.setCell ⟨w.heap.size, k, none⟩ v2).heap.size) := Lib.hid (by rw [hs3]; exact Nat.lt_of_lt_of_le hlt1 B2.size)
      subst hv2
      clear hw2 hown2 hx hB2 hown hxs hmono B B2 hs3 hkeep hlt2 hlt1 hcall
      go_wp2_with fail
      go_roundw
      case rel => exact ⟨k + 1, by omega, by go_num, hb3, hlt3.out, _, _, hst, hmono2, hrel2⟩
      case measure => simp [intOf]; omega
    · obtain rfl : k = n := by omega
      go_wp2_with fail
      go_ret
      refine ⟨_, rfl, ⟨w.heap.size, k, bf, by rw [← Hn.out]; rfl, ⟨by rw [Hn.out]; exact Nat.le_refl _, by unfold maxLen; omega⟩, Nat.le_refl _, hlt1, fun i j hij hj => hmono.out i j hij (by rw [Hn.out]; exact hj), fun j hj => ?_⟩, B⟩
      obtain ⟨g1, g2, r, g3, g4⟩ := hxs.out j hj (by rw [Hn.out]; exact hj)
      exact ⟨g1, g2, hown.frozenAt j, r, by rw [hown.cellAt j (by rw [Hn.out]; omega)]; exact g3, g4⟩

set_option maxRecDepth 100000 in
set_option maxHeartbeats 1000000 in
theorem eqIntSS_t (va vb : Value) (zss : List (List Int)) (w : World) (ha : RdRows .i64 w va zss) (hb : RdRows .i64 w vb zss) (hl : zss.length ≤ 1048576) (hl2 : sumLen zss ≤ 1048576) :
    Calls Tryd.prog 12 #[va, vb] w fun e w' => e = .returned (.bool true) ∧ Below w.heap.size w w' := by
  have hrow := fun wx (h : Below w.heap.size w wx) j (hj : j < zss.length) => (ha.below h).row hj
  have hrow2 := fun wx (h : Below w.heap.size w wx) j (hj : j < zss.length) => (hb.below h).row hj
  obtain ⟨a, cap, rfl, -, -⟩ := id ha
  obtain ⟨a2, cap2, rfl, -, -⟩ := id hb
  obtain ⟨n, hn⟩ : ∃ n, n = zss.length := ⟨_, rfl⟩
  have Hn := Lib.hid hn
  have Hrow := Lib.hid hrow
  have Hrow2 := Lib.hid hrow2
  have Hsum : Hid (∀ j (hj : j < zss.length), zss[j].length ≤ 1048576) := Lib.hid (fun j hj => Nat.le_trans (len_le_sum zss hj) hl2)
  rw [← hn] at hl ⊢
  clear hn hrow hrow2 ha hb hl2
  go_enter Tryd.func12, Tryd.ntmps12
  go_wp2_with fail
  go_loopw [5] (fun i wr => ∃ k : Nat, k ≤ n ∧ i = .int .i64 k ∧ Below w.heap.size w wr) (fun i _ => n - (intOf i).toNat)
  case atStart => exact ⟨0, Nat.zero_le _, rfl, Below.refl _ _⟩
  case round =>
    obtain ⟨k, hk, rfl, B⟩ := hrel
    by_cases hlt : k < n
    · have hz : k < zss.length := by rw [← Hn.out]; exact hlt
      obtain ⟨blk, off, cap', p, c, b, hv, hc, hr, -⟩ := Hrow.out wr B k hz
      obtain ⟨blk2, off2, cap2', p2, c2, b2, hv2, hc2, hr2, -⟩ := Hrow2.out wr B k hz
      have ha := (Value.slice.inj hv).1
      have ha2 := (Value.slice.inj hv2).1
      clear hv hv2
      subst ha ha2
      have hsm := Hsum.out k hz
      have HQ : Hid (∀ q, Calls Tryd.prog 39 #[.slice p zss[k].length c, .slice p2 zss[k].length c2] (wr.drewN q) fun e w' => e = .returned (.bool true) ∧ ∃ m, w' = (wr.drewN q).drewN m) := Lib.hid (fun q => (eqIntS_any _ _ zss[k] zss[k] b b2 (wr.drewN q) (hr.below (below_drewN (Below.refl _ _) _)) (hr2.below (below_drewN (Below.refl _ _) _)) (by omega) (by omega)).mono (by
        rintro e w' ⟨⟨r, rfl, hr⟩, m, rfl⟩
        obtain rfl : r = true := hr.2 rfl
        exact ⟨rfl, m, rfl⟩))
      obtain ⟨m, hm⟩ : ∃ m, m = (zss[k]'hz).length := ⟨_, rfl⟩
      rw [← hm] at hc hc2 HQ
      clear hr hr2 hm hsm
      go_wp2_with fail
      go_quiet ((go_at_call 39; exact Calls.quiet_of (HQ.out _)))
      go_wp2_with fail
      go_roundw
      case rel => exact ⟨k + 1, by omega, by go_num, below_drewN B _⟩
      case measure => simp [intOf]; omega
    · obtain rfl : k = n := by omega
      go_wp2_with fail
      go_ret
      exact ⟨rfl, B⟩
theorem WrRows.keepS {k : IntKind} {w w' : World} {B : Nat} {v : Value} {zss : List (List Int)} (h : WrRows k w B v zss) (hk : ∀ i, B ≤ i → i < w.heap.size → w'.heap[i]? = w.heap[i]?) (hs : w.heap.size ≤ w'.heap.size) : WrRows k w' B v zss := by
  obtain ⟨blk, cap, bf, rfl, h12, hB, hlt, hm, h3⟩ := h
  refine ⟨blk, cap, bf, rfl, h12, hB, by omega, hm, fun j hj => ?_⟩
  obtain ⟨q1, q2, q3, r, hc, hr⟩ := h3 j hj
  have e := hk blk hB hlt
  refine ⟨q1, by omega, by rw [World.frozen?_of_block (a := ⟨blk, j, none⟩) e]; exact q3, r, by rw [World.cell?_of_block (a := ⟨blk, j, none⟩) e]; exact hc, hr.keep fun _ => hk _ (by omega) q2⟩
end Go.Proofs.YtmfammgdcdlceaaDoor
