/-
  Riffle by contract, both sides.
-/
import Derived.Test.YtcneogkokganpaaRiffle0
import Derived.Laws.EntriesVeiled
namespace Go.Proofs.Ytcneogkokganpaa
open Go.RowKit

theorem cell_blkR {w : World} {b : Nat} {c : Array Value} {t : TypeId} {fr : Nat × Nat} (h : w.heap[b]? = some (.cells c t fr)) (i : Nat) : w.cell? ⟨b, i, none⟩ = c[i]? := by
  simp [World.cell?, h]
theorem frozen_blkR {w : World} {b : Nat} {c : Array Value} {t : TypeId} (h : w.heap[b]? = some (.cells c t (0, 0))) (i : Nat) : w.frozen? ⟨b, i, none⟩ = false := by
  simp [World.frozen?, h]
/-- What a taker holds: its list, and how many it has given. -/
def Taker (w : World) (tb nb : Nat) (a : Option Addr) (n cap k : Nat) : Prop :=
  w.heap[tb]? = some (.cells #[.slice a n cap] 22 (0, 0)) ∧ w.heap[nb]? = some (.cells #[.int .i64 k] 3 (0, 0)) ∧ tb ≠ nb
theorem Taker.keep {w w' : World} {tb nb : Nat} {a : Option Addr} {n cap k : Nat} (h : Taker w tb nb a n cap k) (h1 : w'.heap[tb]? = w.heap[tb]?) (h2 : w'.heap[nb]? = w.heap[nb]?) : Taker w' tb nb a n cap k := ⟨h1.trans h.1, h2.trans h.2.1, h.2.2⟩
theorem Taker.lt {w : World} {tb nb : Nat} {a : Option Addr} {n cap k : Nat} (h : Taker w tb nb a n cap k) : tb < w.heap.size ∧ nb < w.heap.size := ⟨(Array.getElem?_eq_some_iff.1 h.1).1, (Array.getElem?_eq_some_iff.1 h.2.1).1⟩
theorem Taker.next {w : World} {tb nb : Nat} {a : Option Addr} {n cap k : Nat} (h : Taker w tb nb a n cap k) : Taker (w.setCell ⟨nb, 0, none⟩ (.int .i64 ((k : Int) + 1))) tb nb a n cap (k + 1) :=
  ⟨by rw [Below.heap_setCell _ _ _ _ h.2.2]; exact h.1, by simp [World.setCell, Array.getElem?_modify, h.2.1], h.2.2⟩

theorem grown_reflR (w : World) (r : Option Nat) : w.grownBy w r := ⟨rfl, rfl, rfl, Nat.le_refl _, fun _ _ _ => rfl⟩
def lenV (v : Value) : Nat := match v with
  | .slice _ n _ => n
  | _ => 0
/-- What the rounds carry. -/
def RS (w : World) (h1 h2 : Nat) (a a2 : Option Addr) (na ca nb cb : Nat) (fs : Array Value) (wr : World) (k m : Nat) (o : Value) (xs : List Int) : Prop :=
  Taker wr w.heap.size (w.heap.size + 1) a na ca k ∧ Taker wr h1 (h1 + 1) a2 nb cb m ∧ wr.heap[h2]? = some (.cells fs 35 (0, 0)) ∧ Below w.heap.size w wr ∧ wr.ownsRow (h2 + 1) 3 1 o xs.length (xs.map (Value.int .i64))
theorem RS.more_a {w wr : World} {h1 h2 : Nat} {a a2 : Option Addr} {na ca nb cb : Nat} {fs : Array Value} {k m : Nat} {o : Value} {xs : List Int} (h : RS w h1 h2 a a2 na ca nb cb fs wr k m o xs) (e1 : h1 = w.heap.size + 2) (e2 : h2 = h1 + 2) :
    RS w h1 h2 a a2 na ca nb cb fs (wr.setCell ⟨w.heap.size + 1, 0, none⟩ (.int .i64 ((k : Int) + 1))) (k + 1) m o xs := by
  obtain ⟨t1, t2, fn, B, hown⟩ := h
  refine ⟨t1.next, t2.keep (Below.heap_setCell _ _ _ _ (by show h1 ≠ w.heap.size + 1; omega)) (Below.heap_setCell _ _ _ _ (by show h1 + 1 ≠ w.heap.size + 1; omega)), ?_, B.setCell (by show w.heap.size ≤ w.heap.size + 1; omega) _, ?_⟩
  · rw [Below.heap_setCell _ _ _ _ (by show h2 ≠ w.heap.size + 1; omega)]; exact fn
  · exact hown.kept (grown_store (grown_reflR _ _) ⟨w.heap.size + 1, 0, none⟩ rfl _) (.inr (fun e => by have : h2 + 1 ≤ w.heap.size + 1 := own_block hown _ e; omega))
theorem RS.more_b {w wr : World} {h1 h2 : Nat} {a a2 : Option Addr} {na ca nb cb : Nat} {fs : Array Value} {k m : Nat} {o : Value} {xs : List Int} (h : RS w h1 h2 a a2 na ca nb cb fs wr k m o xs) (e1 : h1 = w.heap.size + 2) (e2 : h2 = h1 + 2) :
    RS w h1 h2 a a2 na ca nb cb fs (wr.setCell ⟨h1 + 1, 0, none⟩ (.int .i64 ((m : Int) + 1))) k (m + 1) o xs := by
  obtain ⟨t1, t2, fn, B, hown⟩ := h
  refine ⟨t1.keep (Below.heap_setCell _ _ _ _ (by show w.heap.size ≠ h1 + 1; omega)) (Below.heap_setCell _ _ _ _ (by show w.heap.size + 1 ≠ h1 + 1; omega)), t2.next, ?_, B.setCell (by show w.heap.size ≤ h1 + 1; omega) _, ?_⟩
  · rw [Below.heap_setCell _ _ _ _ (by show h2 ≠ h1 + 1; omega)]; exact fn
  · exact hown.kept (grown_store (grown_reflR _ _) ⟨h1 + 1, 0, none⟩ rfl _) (.inr (fun e => by have : h2 + 1 ≤ h1 + 1 := own_block hown _ e; omega))
theorem RS.app {w wr w' : World} {h1 h2 : Nat} {a a2 : Option Addr} {na ca nb cb : Nat} {fs : Array Value} {k m : Nat} {o v' : Value} {xs : List Int} {x : Int} {ob : Obj} (h : RS w h1 h2 a a2 na ca nb cb fs wr k m o xs) (e1 : h1 = w.heap.size + 2) (e2 : h2 = h1 + 2)
    (ho : w'.ownsRow (h2 + 1) 3 1 v' (xs.length + 1) (xs.map (Value.int .i64) ++ [.int .i64 x])) (hg : (wr.alloc ob).grownBy w' o.ownBlock) : RS w h1 h2 a a2 na ca nb cb fs w' k m v' (xs ++ [x]) := by
  obtain ⟨t1, t2, fn, B, hown⟩ := h
  have hlt := (Array.getElem?_eq_some_iff.1 fn).1
  have keep : ∀ i, i ≤ h2 → w'.heap[i]? = wr.heap[i]? := fun i hi => by
    rw [hg.block i (by simp; omega) (fun e => by have := own_block hown _ e.symm; omega)]
    exact ((Below.refl wr.heap.size wr).alloc (Nat.le_refl _) ob).block i (by omega)
  refine ⟨t1.keep (keep _ (by omega)) (keep _ (by omega)), t2.keep (keep _ (by omega)) (keep _ (by omega)), (keep _ (Nat.le_refl _)).trans fn, ?_, own_snoc ho⟩
  exact (B.alloc B.size ob).grown hg (by have := B.size; simp; omega) (fun q hq => by have := own_block hown q hq; omega)

theorem twoR0 (w : World) (o1 o2 : Obj) : ((w.alloc o1).alloc o2).heap[w.heap.size]? = some o1 := by
  show ((w.heap.push o1).push o2)[w.heap.size]? = _
  rw [Array.getElem?_push, if_neg (by simp)]; simp
theorem twoR1 (w : World) (o1 o2 : Obj) : ((w.alloc o1).alloc o2).heap[w.heap.size + 1]? = some o2 := by
  show ((w.heap.push o1).push o2)[w.heap.size + 1]? = _
  rw [Array.getElem?_push, if_pos (by simp)]

@[go_sem] theorem run_ix20 (f0 f1 : Value) (w : World) : (Instr.index 35 (.agg #[f0, f1]) (.int .i64 0)).run Try.prog w = .ok f0 w := by
  simp [Instr.index, run_underlying Try.underlying35, asIntOf, go_sem]
@[go_sem] theorem run_ix21 (f0 f1 : Value) (w : World) : (Instr.index 35 (.agg #[f0, f1]) (.int .i64 1)).run Try.prog w = .ok f1 w := by
  simp [Instr.index, run_underlying Try.underlying35, asIntOf, go_sem]

theorem takerOf_any (a : Option Addr) (n cap : Nat) (w : World) :
    Calls Try.prog 17 #[.slice a n cap] w fun e w' => e = .returned (.func (.func 21) #[] #[.pointer (some ⟨w.heap.size + 1, 0, none⟩), .pointer (some ⟨w.heap.size, 0, none⟩)]) ∧
      w' = (w.alloc (.cells #[.slice a n cap] 22)).alloc (.cells #[.int .i64 0] 3) := by
  have hmf : ∀ (fn : Fn) (first cap : Array Value) (w : World), (Instr.makeFunc fn first cap).run Try.prog w = .ok (.func fn first cap) w := fun _ _ _ _ => rfl
  go_enter Try.func17, Try.ntmps17
  go_wp2
  go_ret
  exact ⟨rfl, rfl⟩

theorem take_more (tb nb b off n cap k : Nat) (x : Int) (w : World) (h : Taker w tb nb (some ⟨b, off, none⟩) n cap k) (hk : k < n) (hn : n ≤ 1099511627776) (hc : w.cell? ⟨b, off + k, none⟩ = some (.int .i64 x)) :
    Calls Try.prog 21 #[.pointer (some ⟨nb, 0, none⟩), .pointer (some ⟨tb, 0, none⟩)] w fun e w' => e = .returned (.tuple #[.int .i64 x, .bool true]) ∧ w' = w.setCell ⟨nb, 0, none⟩ (.int .i64 ((k : Int) + 1)) := by
  obtain ⟨h1, h2, -⟩ := h
  have c1 := cell_blkR h1 0
  have c2 := cell_blkR h2 0
  have z2 := frozen_blkR h2 0
  simp at c1 c2
  have hq : ((k : Int) == (n : Int)) = false := by simp; omega
  have hkz : (0 : Int) ≤ (k : Int) := by omega
  have hkn : (k : Int) < (n : Int) := by omega
  clear h1 h2
  go_enter Try.func21, Try.ntmps21
  go_wp2
  go_ret2
  exact ⟨rfl, rfl⟩
theorem take_none (tb nb n cap : Nat) (a : Option Addr) (w : World) (h : Taker w tb nb a n cap n) :
    Calls Try.prog 21 #[.pointer (some ⟨nb, 0, none⟩), .pointer (some ⟨tb, 0, none⟩)] w fun e w' => e = .returned (.tuple #[.int .i64 0, .bool false]) ∧ w' = w := by
  obtain ⟨h1, h2, -⟩ := h
  have c1 := cell_blkR h1 0
  have c2 := cell_blkR h2 0
  simp at c1 c2
  clear h1 h2
  go_enter Try.func21, Try.ntmps21
  go_wp2
  go_ret2
  exact ⟨rfl, rfl⟩

set_option maxRecDepth 100000 in
set_option maxHeartbeats 4000000 in
theorem riffle_any (v : Value) (za : List Int) (ba : Nat) (v2 : Value) (zb : List Int) (bb : Nat) (w : World) (h : RdAt .i64 w v za ba) (h2 : RdAt .i64 w v2 zb bb) (hl : za.length ≤ 1048576) (hl2 : zb.length ≤ 1048576) :
    Calls Try.prog 7 #[v, v2] w fun e w' => ∃ v' b', e = .returned v' ∧ w.heap.size ≤ b' ∧ WrAt .i64 w' v' (riffle za zb) b' ∧ Below w.heap.size w w' := by
  obtain ⟨i0, hi, hz0, hz1, hz2⟩ := info_parts info_i64
  obtain ⟨a, ca, rfl, -⟩ := id h
  obtain ⟨a2, cb, rfl, -⟩ := id h2
  have HCa : Hid (∀ wx, Below w.heap.size w wx → ∀ k, k < za.length → ∃ off, a = some ⟨ba, off, none⟩ ∧ wx.cell? ⟨ba, off + k, none⟩ = some (.int .i64 (za.getD k 0))) := Lib.hid (fun wx hb k hk => by
    rcases (h.below hb).open with ⟨h0, -⟩ | ⟨-, off, c, hv, -, hc⟩
    · rw [h0] at hk; simp at hk
    · exact ⟨off, (Value.slice.inj hv).1, by rw [hc k hk]; simp [List.getD, hk]⟩)
  have HCb : Hid (∀ wx, Below w.heap.size w wx → ∀ k, k < zb.length → ∃ off, a2 = some ⟨bb, off, none⟩ ∧ wx.cell? ⟨bb, off + k, none⟩ = some (.int .i64 (zb.getD k 0))) := Lib.hid (fun wx hb k hk => by
    rcases (h2.below hb).open with ⟨h0, -⟩ | ⟨-, off, c, hv, -, hc⟩
    · rw [h0] at hk; simp at hk
    · exact ⟨off, (Value.slice.inj hv).1, by rw [hc k hk]; simp [List.getD, hk]⟩)
  have Hwf := Lib.hid (rif_wf h.wf h2.wf)
  obtain ⟨na, hna⟩ : ∃ na, na = za.length := ⟨_, rfl⟩
  obtain ⟨nb, hnb⟩ : ∃ nb, nb = zb.length := ⟨_, rfl⟩
  have Hna := Lib.hid hna
  have Hnb := Lib.hid hnb
  rw [← hna] at hl ⊢
  rw [← hnb] at hl2 ⊢
  clear h h2 hna hnb
  go_enter Try.func7, Try.ntmps7
  go_wp2_with fail
  refine (takerOf_any a na ca w).mono ?_
  rintro e w1 ⟨rfl, hw1⟩
  have Hs1 : Hid (w1.heap.size = w.heap.size + 2) := Lib.hid (by rw [hw1]; simp)
  have B1 : Below w.heap.size w w1 := by rw [hw1]; exact ((Below.refl _ _).alloc (Nat.le_refl _) _).alloc (by simp) _
  have T10 : Taker w1 w.heap.size (w.heap.size + 1) a na ca 0 := ⟨by rw [hw1]; exact twoR0 _ _ _, by rw [hw1]; exact twoR1 _ _ _, by omega⟩
  clear hw1
  go_wp2_with fail
  refine (takerOf_any a2 nb cb w1).mono ?_
  rintro e w2 ⟨rfl, hw2⟩
  have Hs2 : Hid (w2.heap.size = w1.heap.size + 2) := Lib.hid (by rw [hw2]; simp)
  have B12 : Below w1.heap.size w1 w2 := by rw [hw2]; exact ((Below.refl _ _).alloc (Nat.le_refl _) _).alloc (by simp) _
  have B2 := B1.trans (B12.mono B1.size)
  have T1 : Taker w2 w.heap.size (w.heap.size + 1) a na ca 0 := T10.keep (B12.block _ T10.lt.1) (B12.block _ T10.lt.2)
  have T2 : Taker w2 w1.heap.size (w1.heap.size + 1) a2 nb cb 0 := ⟨by rw [hw2]; exact twoR0 _ _ _, by rw [hw2]; exact twoR1 _ _ _, by omega⟩
  clear hw2 B1 B12 T10
  go_wp2_with (at_make; refine wpList_make_own _ rfl _ _ 22 rfl (w2.heap.size + 1) 3 i0 (.int .i64 0) 1 Try.underlying22 hi hz0 hz1 .i64 .i64 ((na : Int) + (nb : Int)) (na + nb) rfl rfl (by omega) ?c1 ?c2 ?c3 ?_)
  case c1 => rw [hz2]; omega
  case c2 => unfold maxLen; omega
  case c3 => simp
  intro w4 hown hgr
  have B3 := B2.alloc B2.size (.cells #[.func (.func 21) #[] #[.pointer (some ⟨w.heap.size + 1, 0, none⟩), .pointer (some ⟨w.heap.size, 0, none⟩)], .func (.func 21) #[] #[.pointer (some ⟨w1.heap.size + 1, 0, none⟩), .pointer (some ⟨w1.heap.size, 0, none⟩)]] 35)
  have hs0 : RS w w1.heap.size w2.heap.size a a2 na ca nb cb #[.func (.func 21) #[] #[.pointer (some ⟨w.heap.size + 1, 0, none⟩), .pointer (some ⟨w.heap.size, 0, none⟩)], .func (.func 21) #[] #[.pointer (some ⟨w1.heap.size + 1, 0, none⟩), .pointer (some ⟨w1.heap.size, 0, none⟩)]] w4 0 0 (.slice (some ⟨w2.heap.size + 1, 0, none⟩) 0 (na + nb)) [] := by
    have keep : ∀ i, i ≤ w2.heap.size → w4.heap[i]? = (w2.alloc (.cells #[.func (.func 21) #[] #[.pointer (some ⟨w.heap.size + 1, 0, none⟩), .pointer (some ⟨w.heap.size, 0, none⟩)], .func (.func 21) #[] #[.pointer (some ⟨w1.heap.size + 1, 0, none⟩), .pointer (some ⟨w1.heap.size, 0, none⟩)]] 35)).heap[i]? := fun i hi => hgr.block i (by simp; omega) (by simp)
    have keep2 : ∀ i, i < w2.heap.size → w4.heap[i]? = w2.heap[i]? := fun i hi => (keep i (by omega)).trans (((Below.refl w2.heap.size w2).alloc (Nat.le_refl _) _).block i hi)
    have g1 := Hs1.out
    have g2 := Hs2.out
    refine ⟨T1.keep (keep2 _ (by omega)) (keep2 _ (by omega)), T2.keep (keep2 _ (by omega)) (keep2 _ (by omega)), ?_, B3.grown hgr B3.size (fun q hq => by cases hq), hown⟩
    rw [keep _ (Nat.le_refl _)]
    show (w2.heap.push _)[w2.heap.size]? = _
    simp
  clear hown hgr B3 T1 T2 B2
  go_wp2_with fail
  go_loopw [7, 9, 10, 11] (fun o _ _ _ wr => ∃ k, RS w w1.heap.size w2.heap.size a a2 na ca nb cb #[.func (.func 21) #[] #[.pointer (some ⟨w.heap.size + 1, 0, none⟩), .pointer (some ⟨w.heap.size, 0, none⟩)], .func (.func 21) #[] #[.pointer (some ⟨w1.heap.size + 1, 0, none⟩), .pointer (some ⟨w1.heap.size, 0, none⟩)]] wr (min k na) (min k nb) o (rif za zb k)) (fun o _ _ _ _ => na + nb - lenV o)
  case atStart => exact ⟨0, by rw [Nat.zero_min, Nat.zero_min]; exact hs0⟩
  case round =>
    clear hs0
    obtain ⟨k, hs⟩ := hrel
    obtain ⟨p, c, ho⟩ := own_shape hs.2.2.2.2
    have hrl := rif_len za zb k
    rw [← Hna.out, ← Hnb.out] at hrl
    obtain ⟨L, hL⟩ : ∃ L, L = (rif za zb k).length := ⟨_, rfl⟩
    rw [← hL] at hrl ho
    have hLk : Hid (L = min k na + min k nb) := Lib.hid hrl
    subst ho
    by_cases hend : na ≤ k ∧ nb ≤ k
    · have hLn : L = na + nb := by omega
      have hri : Hid (rif za zb k = riffle za zb) := Lib.hid (riffle_at (by rw [← Hna.out]; exact hend.1) (by rw [← Hnb.out]; exact hend.2))
      obtain ⟨-, -, -, B, hown⟩ := hs
      have hwr := Lib.hid (own_wr hown (Hwf.out k))
      have hwb : w.heap.size ≤ w2.heap.size + 1 := by have := Hs1.out; have := Hs2.out; omega
      have Hwb := Lib.hid hwb
      clear hown hend hL hrl hwb
      subst hLn
      go_wp2_with fail
      go_ret
      obtain ⟨b', hb', hw'⟩ := hwr.out
      exact ⟨_, b', rfl, Nat.le_trans Hwb.out hb', by rw [← hri.out]; exact hw', B⟩
    · have hLlt : L < na + nb := by omega
      have hL1 : Hid ((rif za zb k).length = L) := Lib.hid hL.symm
      clear hL hrl
      by_cases ha : k < na
      · by_cases hb : k < nb
        · have e1 : min k na = k := by omega
          rw [e1] at hs
          obtain ⟨off, haa, hca⟩ := HCa.out wr hs.2.2.2.1 k (by rw [← Hna.out]; exact ha)
          subst haa
          obtain ⟨x, hx⟩ : ∃ x, x = za.getD k 0 := ⟨_, rfl⟩
          rw [← hx] at hca
          have Hx := Lib.hid hx
          clear hx
          have HT := Lib.hid (take_more _ _ _ _ _ _ k x wr hs.1 ha (by omega) hca)
          have f0 := cell_blkR hs.2.2.1 0
          have f1 := cell_blkR hs.2.2.1 1
          simp at f0 f1
          clear e1
          go_wp2_with fail
          refine wp_loop_rounds 3 ?_
          rw [rounds_succ]
          go_wp2_with fail
          refine HT.out.mono ?_
          rintro e w5 ⟨rfl, hw5⟩
          have hs5 := hs.more_a Hs1.out Hs2.out
          rw [← hw5] at hs5
          clear hw5 hs f0 f1 HT
          go_wp2_with (at_builtin; refine wpList_append_own _ rfl _ _ 22 rfl (w2.heap.size + 1) 3 i0 (.int .i64 0) 1 8 Try.underlying22 hi hz0 hz1 hz2 rfl (by decide) _ _ _ rfl (hs5.2.2.2.2.alloc _) ⟨w5.heap.size, 0, none⟩ 1 1 [.int .i64 x] rfl rfl (cell_one_new _ _ _) (one_cell _ _) ?g3 ?g4 ?g5 ?_)
          case g3 => have := hL1.out; rw [this]; unfold maxLen; omega
          case g4 => have := hL1.out; rw [this]; omega
          case g5 => have := (Array.getElem?_eq_some_iff.1 hs5.2.2.1).1; simp; omega
          intro v6 w6 hown6 hgr6 _
          have hs6 := hs5.app Hs1.out Hs2.out hown6 hgr6
          clear hown6 hgr6 hs5
          have e2 : min k nb = k := by omega
          rw [e2] at hs6
          obtain ⟨off2, hab, hcb⟩ := HCb.out w6 hs6.2.2.2.1 k (by rw [← Hnb.out]; exact hb)
          subst hab
          obtain ⟨y, hy⟩ : ∃ y, y = zb.getD k 0 := ⟨_, rfl⟩
          rw [← hy] at hcb
          have Hy := Lib.hid hy
          have HU := Lib.hid (take_more _ _ _ _ _ _ k y w6 hs6.2.1 hb (by omega) hcb)
          clear e2 hy
          go_wp2_with fail
          rw [rounds_succ]
          go_wp2_with fail
          refine HU.out.mono ?_
          rintro e w7 ⟨rfl, hw7⟩
          have hs7 := hs6.more_b Hs1.out Hs2.out
          rw [← hw7] at hs7
          clear hw7 hs6 HU
          go_wp2_with (at_builtin; refine wpList_append_own _ rfl _ _ 22 rfl (w2.heap.size + 1) 3 i0 (.int .i64 0) 1 8 Try.underlying22 hi hz0 hz1 hz2 rfl (by decide) _ _ _ rfl (hs7.2.2.2.2.alloc _) ⟨w7.heap.size, 0, none⟩ 1 1 [.int .i64 y] rfl rfl (cell_one_new _ _ _) (one_cell _ _) ?g3 ?g4 ?g5 ?_)
          case g3 => have := (show (rif za zb k ++ [x]).length = L + 1 by rw [List.length_append, hL1.out]; rfl); rw [this]; unfold maxLen; omega
          case g4 => have := (show (rif za zb k ++ [x]).length = L + 1 by rw [List.length_append, hL1.out]; rfl); rw [this]; omega
          case g5 => have := (Array.getElem?_eq_some_iff.1 hs7.2.2.1).1; simp; omega
          intro v8 w8 hown6 hgr6 _
          have hown7 : w8.ownsRow (w2.heap.size + 1) 3 1 v8 ((rif za zb k ++ [x]).length + 1) ((rif za zb k ++ [x]).map (Value.int .i64) ++ [.int .i64 y]) := by
            rw [List.length_append, List.map_append, List.append_assoc]; exact hown6
          have hs8 := hs7.app Hs1.out Hs2.out hown7 hgr6
          clear hown7 hown6 hgr6 hs7
          have hrel : Hid (∀ wx o X, RS w w1.heap.size w2.heap.size (some ⟨ba, off, none⟩) (some ⟨bb, off2, none⟩) na ca nb cb _ wx (k + 1) (k + 1) o X → X = rif za zb (k + 1) → RS w w1.heap.size w2.heap.size (some ⟨ba, off, none⟩) (some ⟨bb, off2, none⟩) na ca nb cb #[.func (.func 21) #[] #[.pointer (some ⟨w.heap.size + 1, 0, none⟩), .pointer (some ⟨w.heap.size, 0, none⟩)], .func (.func 21) #[] #[.pointer (some ⟨w1.heap.size + 1, 0, none⟩), .pointer (some ⟨w1.heap.size, 0, none⟩)]] wx (min (k + 1) na) (min (k + 1) nb) o (rif za zb (k + 1))) := Lib.hid (fun wx o X hX e => by
            have q1 : min (k + 1) na = k + 1 := by omega
            have q2 : min (k + 1) nb = k + 1 := by omega
            rw [q1, q2, ← e]; exact hX)
          have heq : Hid ((rif za zb k ++ [x]) ++ [y] = rif za zb (k + 1)) := Lib.hid (by
            rw [rif_succ]; unfold rifA
            rw [if_pos (by rw [← Hna.out]; exact ha), if_pos (by rw [← Hnb.out]; exact hb), ← Hx.out, ← Hy.out])
          have hs9 := hrel.out _ _ _ hs8 heq.out
          have hmz : Hid (L < lenV v8 ∧ lenV v8 ≤ na + nb) := Lib.hid (by
            obtain ⟨p9, c9, e9⟩ := own_shape hs9.2.2.2.2
            have := rif_len za zb (k + 1)
            have hL0 := hLk.out
            rw [← Hna.out, ← Hnb.out] at this
            rw [e9]; show L < (rif za zb (k + 1)).length ∧ (rif za zb (k + 1)).length ≤ na + nb
            omega)
          clear hs8 hrel
          go_wp2_with fail
          rw [rounds_succ]
          go_wp2_with fail
          go_roundw
          case rel => exact ⟨k + 1, hs9⟩
          case measure => have := hmz.out; show na + nb - lenV _ < na + nb - L; omega

        · have e1 : min k na = k := by omega
          rw [e1] at hs
          obtain ⟨off, haa, hca⟩ := HCa.out wr hs.2.2.2.1 k (by rw [← Hna.out]; exact ha)
          subst haa
          obtain ⟨x, hx⟩ : ∃ x, x = za.getD k 0 := ⟨_, rfl⟩
          rw [← hx] at hca
          have Hx := Lib.hid hx
          clear hx
          have HT := Lib.hid (take_more _ _ _ _ _ _ k x wr hs.1 ha (by omega) hca)
          have f0 := cell_blkR hs.2.2.1 0
          have f1 := cell_blkR hs.2.2.1 1
          simp at f0 f1
          clear e1
          go_wp2_with fail
          refine wp_loop_rounds 3 ?_
          rw [rounds_succ]
          go_wp2_with fail
          refine HT.out.mono ?_
          rintro e w5 ⟨rfl, hw5⟩
          have hs5 := hs.more_a Hs1.out Hs2.out
          rw [← hw5] at hs5
          clear hw5 hs f0 f1 HT
          go_wp2_with (at_builtin; refine wpList_append_own _ rfl _ _ 22 rfl (w2.heap.size + 1) 3 i0 (.int .i64 0) 1 8 Try.underlying22 hi hz0 hz1 hz2 rfl (by decide) _ _ _ rfl (hs5.2.2.2.2.alloc _) ⟨w5.heap.size, 0, none⟩ 1 1 [.int .i64 x] rfl rfl (cell_one_new _ _ _) (one_cell _ _) ?g3 ?g4 ?g5 ?_)
          case g3 => have := hL1.out; rw [this]; unfold maxLen; omega
          case g4 => have := hL1.out; rw [this]; omega
          case g5 => have := (Array.getElem?_eq_some_iff.1 hs5.2.2.1).1; simp; omega
          intro v6 w6 hown6 hgr6 _
          have hs6 := hs5.app Hs1.out Hs2.out hown6 hgr6
          clear hown6 hgr6 hs5
          have e2 : min k nb = nb := by omega
          rw [e2] at hs6
          have HU := Lib.hid (take_none _ _ _ _ _ w6 hs6.2.1)
          clear e2
          go_wp2_with fail
          rw [rounds_succ]
          go_wp2_with fail
          refine HU.out.mono ?_
          rintro e w7 ⟨rfl, hw7⟩
          subst hw7
          have hs8 := hs6
          clear hs6 HU
          have hrel : Hid (∀ wx o X, RS w w1.heap.size w2.heap.size (some ⟨ba, off, none⟩) a2 na ca nb cb _ wx (k + 1) nb o X → X = rif za zb (k + 1) → RS w w1.heap.size w2.heap.size (some ⟨ba, off, none⟩) a2 na ca nb cb #[.func (.func 21) #[] #[.pointer (some ⟨w.heap.size + 1, 0, none⟩), .pointer (some ⟨w.heap.size, 0, none⟩)], .func (.func 21) #[] #[.pointer (some ⟨w1.heap.size + 1, 0, none⟩), .pointer (some ⟨w1.heap.size, 0, none⟩)]] wx (min (k + 1) na) (min (k + 1) nb) o (rif za zb (k + 1))) := Lib.hid (fun wx o X hX e => by
            have q1 : min (k + 1) na = k + 1 := by omega
            have q2 : min (k + 1) nb = nb := by omega
            rw [q1, q2, ← e]; exact hX)
          have heq : Hid ((rif za zb k ++ [x]) = rif za zb (k + 1)) := Lib.hid (by
            rw [rif_succ]; unfold rifA
            rw [if_pos (by rw [← Hna.out]; exact ha), if_neg (by rw [← Hnb.out]; exact hb), ← Hx.out]
            simp)
          have hs9 := hrel.out _ _ _ hs8 heq.out
          have hmz : Hid (L < lenV v6 ∧ lenV v6 ≤ na + nb) := Lib.hid (by
            obtain ⟨p9, c9, e9⟩ := own_shape hs9.2.2.2.2
            have := rif_len za zb (k + 1)
            have hL0 := hLk.out
            rw [← Hna.out, ← Hnb.out] at this
            rw [e9]; show L < (rif za zb (k + 1)).length ∧ (rif za zb (k + 1)).length ≤ na + nb
            omega)
          clear hs8 hrel
          go_wp2_with fail
          rw [rounds_succ]
          go_wp2_with fail
          go_roundw
          case rel => exact ⟨k + 1, hs9⟩
          case measure => have := hmz.out; show na + nb - lenV _ < na + nb - L; omega

      · have hb : k < nb := by omega
        have e1 : min k na = na := by omega
        rw [e1] at hs
        have HT := Lib.hid (take_none _ _ _ _ _ wr hs.1)
        have f0 := cell_blkR hs.2.2.1 0
        have f1 := cell_blkR hs.2.2.1 1
        simp at f0 f1
        clear e1
        go_wp2_with fail
        refine wp_loop_rounds 3 ?_
        rw [rounds_succ]
        go_wp2_with fail
        refine HT.out.mono ?_
        rintro e w5 ⟨rfl, hw5⟩
        subst hw5
        have hs6 := hs
        clear hs f0 f1 HT
        have e2 : min k nb = k := by omega
        rw [e2] at hs6
        obtain ⟨off2, hab, hcb⟩ := HCb.out w5 hs6.2.2.2.1 k (by rw [← Hnb.out]; exact hb)
        subst hab
        obtain ⟨y, hy⟩ : ∃ y, y = zb.getD k 0 := ⟨_, rfl⟩
        rw [← hy] at hcb
        have Hy := Lib.hid hy
        have HU := Lib.hid (take_more _ _ _ _ _ _ k y w5 hs6.2.1 hb (by omega) hcb)
        clear e2 hy
        go_wp2_with fail
        rw [rounds_succ]
        go_wp2_with fail
        refine HU.out.mono ?_
        rintro e w7 ⟨rfl, hw7⟩
        have hs7 := hs6.more_b Hs1.out Hs2.out
        rw [← hw7] at hs7
        clear hw7 hs6 HU
        go_wp2_with (at_builtin; refine wpList_append_own _ rfl _ _ 22 rfl (w2.heap.size + 1) 3 i0 (.int .i64 0) 1 8 Try.underlying22 hi hz0 hz1 hz2 rfl (by decide) _ _ _ rfl (hs7.2.2.2.2.alloc _) ⟨w7.heap.size, 0, none⟩ 1 1 [.int .i64 y] rfl rfl (cell_one_new _ _ _) (one_cell _ _) ?g3 ?g4 ?g5 ?_)
        case g3 => have := hL1.out; rw [this]; unfold maxLen; omega
        case g4 => have := hL1.out; rw [this]; omega
        case g5 => have := (Array.getElem?_eq_some_iff.1 hs7.2.2.1).1; simp; omega
        intro v8 w8 hown6 hgr6 _
        have hs8 := hs7.app Hs1.out Hs2.out hown6 hgr6
        clear hown6 hgr6 hs7
        have hrel : Hid (∀ wx o X, RS w w1.heap.size w2.heap.size a (some ⟨bb, off2, none⟩) na ca nb cb _ wx na (k + 1) o X → X = rif za zb (k + 1) → RS w w1.heap.size w2.heap.size a (some ⟨bb, off2, none⟩) na ca nb cb #[.func (.func 21) #[] #[.pointer (some ⟨w.heap.size + 1, 0, none⟩), .pointer (some ⟨w.heap.size, 0, none⟩)], .func (.func 21) #[] #[.pointer (some ⟨w1.heap.size + 1, 0, none⟩), .pointer (some ⟨w1.heap.size, 0, none⟩)]] wx (min (k + 1) na) (min (k + 1) nb) o (rif za zb (k + 1))) := Lib.hid (fun wx o X hX e => by
          have q1 : min (k + 1) na = na := by omega
          have q2 : min (k + 1) nb = k + 1 := by omega
          rw [q1, q2, ← e]; exact hX)
        have heq : Hid (rif za zb k ++ [y] = rif za zb (k + 1)) := Lib.hid (by
          rw [rif_succ]; unfold rifA
          rw [if_neg (by rw [← Hna.out]; exact ha), if_pos (by rw [← Hnb.out]; exact hb), ← Hy.out]
          simp)
        have hs9 := hrel.out _ _ _ hs8 heq.out
        have hmz : Hid (L < lenV v8 ∧ lenV v8 ≤ na + nb) := Lib.hid (by
          obtain ⟨p9, c9, e9⟩ := own_shape hs9.2.2.2.2
          have := rif_len za zb (k + 1)
          have hL0 := hLk.out
          rw [← Hna.out, ← Hnb.out] at this
          rw [e9]; show L < (rif za zb (k + 1)).length ∧ (rif za zb (k + 1)).length ≤ na + nb
          omega)
        clear hs8 hrel
        go_wp2_with fail
        rw [rounds_succ]
        go_wp2_with fail
        go_roundw
        case rel => exact ⟨k + 1, hs9⟩
        case measure => have := hmz.out; show na + nb - lenV _ < na + nb - L; omega

--@model
set_option maxRecDepth 100000 in
set_option maxHeartbeats 4000000 in
theorem sRiffle_any (v : Value) (za : List Int) (ba : Nat) (v2 : Value) (zb : List Int) (bb : Nat) (w : World) (h : RdAt .i64 w v za ba) (h2 : RdAt .i64 w v2 zb bb) (hl : za.length ≤ 1048576) (hl2 : zb.length ≤ 1048576) :
    Calls Try.prog 5 #[v, v2] w fun e w' => ∃ v' b', e = .returned v' ∧ w.heap.size ≤ b' ∧ WrAt .i64 w' v' (riffle za zb) b' ∧ Below w.heap.size w w' := by
  obtain ⟨i0, hi, hz0, hz1, hz2⟩ := info_parts info_i64
  obtain ⟨a, ca, rfl, -⟩ := id h
  obtain ⟨a2, cb, rfl, -⟩ := id h2
  have HCa : Hid (∀ wx, Below w.heap.size w wx → ∀ k, k < za.length → ∃ off, a = some ⟨ba, off, none⟩ ∧ wx.cell? ⟨ba, off + k, none⟩ = some (.int .i64 (za.getD k 0))) := Lib.hid (fun wx hb k hk => by
    rcases (h.below hb).open with ⟨h0, -⟩ | ⟨-, off, c, hv, -, hc⟩
    · rw [h0] at hk; simp at hk
    · exact ⟨off, (Value.slice.inj hv).1, by rw [hc k hk]; simp [List.getD, hk]⟩)
  have HCb : Hid (∀ wx, Below w.heap.size w wx → ∀ k, k < zb.length → ∃ off, a2 = some ⟨bb, off, none⟩ ∧ wx.cell? ⟨bb, off + k, none⟩ = some (.int .i64 (zb.getD k 0))) := Lib.hid (fun wx hb k hk => by
    rcases (h2.below hb).open with ⟨h0, -⟩ | ⟨-, off, c, hv, -, hc⟩
    · rw [h0] at hk; simp at hk
    · exact ⟨off, (Value.slice.inj hv).1, by rw [hc k hk]; simp [List.getD, hk]⟩)
  have Hwf := Lib.hid (rif_wf h.wf h2.wf)
  obtain ⟨na, hna⟩ : ∃ na, na = za.length := ⟨_, rfl⟩
  obtain ⟨nb, hnb⟩ : ∃ nb, nb = zb.length := ⟨_, rfl⟩
  have Hna := Lib.hid hna
  have Hnb := Lib.hid hnb
  rw [← hna] at hl ⊢
  rw [← hnb] at hl2 ⊢
  clear h h2 hna hnb
  go_enter Try.func5, Try.ntmps5
  go_wp2_with fail
  have hown0 := World.ownsRow_lit (base := w.heap.size) (e := 3) (size := 1) w #[] 0 (Nat.le_refl _) (Nat.zero_le _) rfl
  go_loopw [5, 6] (fun o i wr => ∃ k : Nat, k ≤ na + nb ∧ i = .int .i64 k ∧ Below w.heap.size w wr ∧ wr.ownsRow w.heap.size 3 1 o (rif za zb k).length ((rif za zb k).map (Value.int .i64))) (fun _ i _ => na + nb - (intOf i).toNat)
  case atStart => exact ⟨0, Nat.zero_le _, rfl, (Below.refl _ _).alloc (Nat.le_refl _) _, hown0⟩
  case round =>
    clear hown0
    obtain ⟨k, hk, rfl, hb2, hown⟩ := hrel
    by_cases ha : k < na
    · by_cases hb : k < nb
      · have hL1 : Hid ((rif za zb k).length ≤ na + nb ∧ (rif za zb (k + 1)).length ≤ na + nb) := Lib.hid (by have h1 := rif_len za zb k; have h2 := rif_len za zb (k + 1); have h3 := Hna.out; have h4 := Hnb.out; omega)
        have hsq : Hid ((rif za zb k ++ [za.getD k 0]) ++ [zb.getD k 0] = rif za zb (k + 1)) := Lib.hid (by rw [rif_succ]; unfold rifA; rw [if_pos (by rw [← Hna.out]; exact ha), if_pos (by rw [← Hnb.out]; exact hb)])
        have hlq : Hid (∀ zs : List Int, zs = rif za zb (k + 1) → zs.length ≤ na + nb) := Lib.hid (fun zs e => by rw [e]; exact hL1.out.2)
        obtain ⟨off, haa, hca⟩ := HCa.out wr hb2 k (by rw [← Hna.out]; exact ha)
        subst haa
        obtain ⟨x, hx⟩ : ∃ x, x = za.getD k 0 := ⟨_, rfl⟩
        rw [← hx] at hca
        have Hx := Lib.hid hx
        clear hx
        rw [← Hx.out] at hsq
        obtain ⟨off2, hab, hcb⟩ := HCb.out wr hb2 k (by rw [← Hnb.out]; exact hb)
        subst hab
        obtain ⟨y, hy⟩ : ∃ y, y = zb.getD k 0 := ⟨_, rfl⟩
        rw [← hy] at hcb
        have Hy := Lib.hid hy
        clear hy
        rw [← Hy.out] at hsq
        have Hcb := Lib.hid hcb
        clear hcb
        obtain ⟨X, hX⟩ : ∃ X, X = rif za zb k := ⟨_, rfl⟩
        rw [← hX] at hsq hL1 hown
        clear hX
        go_wp2_with (at_builtin; refine wpList_append_own _ rfl _ _ 22 rfl w.heap.size 3 i0 (.int .i64 0) 1 8 Try.underlying22 hi hz0 hz1 hz2 rfl (by decide) _ _ _ rfl (hown.alloc _) ⟨wr.heap.size, 0, none⟩ 1 1 [.int .i64 x] rfl rfl (cell_one_new _ _ _) (one_cell _ _) ?g3 ?g4 ?g5 ?_)
        case g3 => have := hL1.out.1; unfold maxLen; omega
        case g4 => have := hL1.out.1; omega
        case g5 => have := hb2.size; simp; omega
        intro v6 w6 hq6 hgrow _
        have hb2' : Below w.heap.size w w6 := (hb2.alloc hb2.size _).grown hgrow (by have := hb2.size; simp; omega) (own_block hown)
        have hown' := own_snoc hq6
        clear hq6 hgrow hown hb2
        have hl6 : Hid ((X ++ [x]).length ≤ na + nb) := Lib.hid (by have := congrArg List.length hsq.out; simp at this; have := hL1.out.2; simp; omega)
        obtain ⟨Y, hY⟩ : ∃ Y, Y = X ++ [x] := ⟨_, rfl⟩
        rw [← hY] at hsq hown' hl6
        clear hY
        have hcb : w6.cell? ⟨bb, off2 + k, none⟩ = some (.int .i64 y) := by
          obtain ⟨o3, e3, h3⟩ := HCb.out w6 hb2' k (by rw [← Hnb.out]; exact hb)
          obtain rfl : o3 = off2 := by simpa using (Addr.mk.inj (Option.some.inj e3)).2.1.symm
          rw [h3, Hy.out]
        clear Hcb
        go_wp2_with (at_builtin; refine wpList_append_own _ rfl _ _ 22 rfl w.heap.size 3 i0 (.int .i64 0) 1 8 Try.underlying22 hi hz0 hz1 hz2 rfl (by decide) _ _ _ rfl (hown'.alloc _) ⟨w6.heap.size, 0, none⟩ 1 1 [.int .i64 y] rfl rfl (cell_one_new _ _ _) (one_cell _ _) ?g3 ?g4 ?g5 ?_)
        case g3 => have := hl6.out; unfold maxLen; omega
        case g4 => have := hl6.out; omega
        case g5 => have := hb2'.size; simp; omega
        intro v8 w8 hq6 hgrow _
        have hb2'' : Below w.heap.size w w8 := (hb2'.alloc hb2'.size _).grown hgrow (by have := hb2'.size; simp; omega) (own_block hown')
        have hown'' := own_snoc hq6
        clear hq6 hgrow hown' hb2'
        rw [hsq.out] at hown''
        have hrn := Lib.hid hown''
        clear hown''
        go_wp2_with fail
        go_roundw
        case rel => exact ⟨k + 1, by omega, by go_num, hb2'', hrn.out⟩
        case measure => simp [intOf]; omega
      · have hL1 : Hid ((rif za zb k).length ≤ na + nb ∧ (rif za zb (k + 1)).length ≤ na + nb) := Lib.hid (by have h1 := rif_len za zb k; have h2 := rif_len za zb (k + 1); have h3 := Hna.out; have h4 := Hnb.out; omega)
        have hsq : Hid (rif za zb k ++ [za.getD k 0] = rif za zb (k + 1)) := Lib.hid (by rw [rif_succ]; unfold rifA; rw [if_pos (by rw [← Hna.out]; exact ha), if_neg (by rw [← Hnb.out]; exact hb)]; simp)
        have hlq : Hid (∀ zs : List Int, zs = rif za zb (k + 1) → zs.length ≤ na + nb) := Lib.hid (fun zs e => by rw [e]; exact hL1.out.2)
        obtain ⟨off, haa, hca⟩ := HCa.out wr hb2 k (by rw [← Hna.out]; exact ha)
        subst haa
        obtain ⟨x, hx⟩ : ∃ x, x = za.getD k 0 := ⟨_, rfl⟩
        rw [← hx] at hca
        have Hx := Lib.hid hx
        clear hx
        rw [← Hx.out] at hsq
        obtain ⟨X, hX⟩ : ∃ X, X = rif za zb k := ⟨_, rfl⟩
        rw [← hX] at hsq hL1 hown
        clear hX
        go_wp2_with (at_builtin; refine wpList_append_own _ rfl _ _ 22 rfl w.heap.size 3 i0 (.int .i64 0) 1 8 Try.underlying22 hi hz0 hz1 hz2 rfl (by decide) _ _ _ rfl (hown.alloc _) ⟨wr.heap.size, 0, none⟩ 1 1 [.int .i64 x] rfl rfl (cell_one_new _ _ _) (one_cell _ _) ?g3 ?g4 ?g5 ?_)
        case g3 => have := hL1.out.1; unfold maxLen; omega
        case g4 => have := hL1.out.1; omega
        case g5 => have := hb2.size; simp; omega
        intro v6 w6 hq6 hgrow _
        have hb2' : Below w.heap.size w w6 := (hb2.alloc hb2.size _).grown hgrow (by have := hb2.size; simp; omega) (own_block hown)
        have hown' := own_snoc hq6
        clear hq6 hgrow hown hb2
        rw [hsq.out] at hown'
        have hrn := Lib.hid hown'
        clear hown'
        go_wp2_with fail
        go_roundw
        case rel => exact ⟨k + 1, by omega, by go_num, hb2', hrn.out⟩
        case measure => simp [intOf]; omega
    · by_cases hb : k < nb
      · have hL1 : Hid ((rif za zb k).length ≤ na + nb ∧ (rif za zb (k + 1)).length ≤ na + nb) := Lib.hid (by have h1 := rif_len za zb k; have h2 := rif_len za zb (k + 1); have h3 := Hna.out; have h4 := Hnb.out; omega)
        have hsq : Hid (rif za zb k ++ [zb.getD k 0] = rif za zb (k + 1)) := Lib.hid (by rw [rif_succ]; unfold rifA; rw [if_neg (by rw [← Hna.out]; exact ha), if_pos (by rw [← Hnb.out]; exact hb)]; simp)
        have hlq : Hid (∀ zs : List Int, zs = rif za zb (k + 1) → zs.length ≤ na + nb) := Lib.hid (fun zs e => by rw [e]; exact hL1.out.2)
        obtain ⟨off2, hab, hcb⟩ := HCb.out wr hb2 k (by rw [← Hnb.out]; exact hb)
        subst hab
        obtain ⟨y, hy⟩ : ∃ y, y = zb.getD k 0 := ⟨_, rfl⟩
        rw [← hy] at hcb
        have Hy := Lib.hid hy
        clear hy
        rw [← Hy.out] at hsq
        obtain ⟨X, hX⟩ : ∃ X, X = rif za zb k := ⟨_, rfl⟩
        rw [← hX] at hsq hL1 hown
        clear hX
        go_wp2_with (at_builtin; refine wpList_append_own _ rfl _ _ 22 rfl w.heap.size 3 i0 (.int .i64 0) 1 8 Try.underlying22 hi hz0 hz1 hz2 rfl (by decide) _ _ _ rfl (hown.alloc _) ⟨wr.heap.size, 0, none⟩ 1 1 [.int .i64 y] rfl rfl (cell_one_new _ _ _) (one_cell _ _) ?g3 ?g4 ?g5 ?_)
        case g3 => have := hL1.out.1; unfold maxLen; omega
        case g4 => have := hL1.out.1; omega
        case g5 => have := hb2.size; simp; omega
        intro v8 w8 hq6 hgrow _
        have hb2' : Below w.heap.size w w8 := (hb2.alloc hb2.size _).grown hgrow (by have := hb2.size; simp; omega) (own_block hown)
        have hown' := own_snoc hq6
        clear hq6 hgrow hown hb2
        rw [hsq.out] at hown'
        have hrn := Lib.hid hown'
        clear hown'
        go_wp2_with fail
        go_roundw
        case rel => exact ⟨k + 1, by omega, by go_num, hb2', hrn.out⟩
        case measure => simp [intOf]; omega
      · have hri : Hid (rif za zb k = riffle za zb) := Lib.hid (riffle_at (by rw [← Hna.out]; omega) (by rw [← Hnb.out]; omega))
        have hwr := Lib.hid (own_wr hown (Hwf.out k))
        clear hown
        go_wp2_with fail
        go_ret
        obtain ⟨b', hb', hw'⟩ := hwr.out
        exact ⟨_, b', rfl, hb', by rw [← hri.out]; exact hw', hb2⟩

end Go.Proofs.Ytcneogkokganpaa
