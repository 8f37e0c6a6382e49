/-
  Piles of the program: the linked layers; IsPile, OpenCards, MayStack.
-/
import Derived.Test.YtoeobpdgfhgpiaaPile
import Derived.Laws.Rows
import Derived.Laws.EntriesVeiled
namespace Go.Proofs.Ytoeobpdgfhgpiaa
open Go.RowKit
set_option linter.unusedVariables false

/-- The layers ls hang on p, each in a block from L on, below M and below the one above it. -/
def IsStk (w : World) (L : Nat) : Nat → List (Int × Bool) → Option Addr → Prop
  | _, [], p => p = none
  | M, (c, o) :: rest, p => ∃ b q, p = some ⟨b, 0, none⟩ ∧ L ≤ b ∧ b < M ∧ w.heap[b]? = some (.cells #[.int .i64 c, .bool o, .pointer q] 61 (0, 0)) ∧ IsStk w L b rest q
theorem IsStk.keep {w w' : World} {L : Nat} : ∀ {ls : List (Int × Bool)} {M : Nat} {p : Option Addr}, IsStk w L M ls p → (∀ i, L ≤ i → i < M → w'.heap[i]? = w.heap[i]?) → IsStk w' L M ls p
  | [], _, _, h, _ => h
  | (c, o) :: rest, M, p, h, hk => by
    obtain ⟨b, q, e, h1, h2, h3, h4⟩ := h
    exact ⟨b, q, e, h1, h2, (hk b h1 h2).trans h3, IsStk.keep h4 (fun i a1 a2 => hk i a1 (by omega))⟩
theorem IsStk.more {w : World} {L M M' : Nat} {ls : List (Int × Bool)} {p : Option Addr} (h : IsStk w L M ls p) (hM : M ≤ M') : IsStk w L M' ls p := by
  match ls, h with
  | [], h => exact h
  | (c, o) :: rest, ⟨b, q, e, h1, h2, h3, h4⟩ => exact ⟨b, q, e, h1, by omega, h3, h4⟩
theorem IsStk.low {w : World} {L L' : Nat} : ∀ {ls : List (Int × Bool)} {M : Nat} {p : Option Addr}, IsStk w L M ls p → L' ≤ L → IsStk w L' M ls p
  | [], _, _, h, _ => h
  | (c, o) :: rest, M, p, h, hl => by
    obtain ⟨b, q, e, h1, h2, h3, h4⟩ := h
    exact ⟨b, q, e, by omega, h2, h3, IsStk.low h4 hl⟩
theorem IsStk.belowS {w w' : World} {L M : Nat} {ls : List (Int × Bool)} {p : Option Addr} (h : IsStk w L M ls p) (hb : Below M w w') : IsStk w' L M ls p := h.keep (fun i _ h2 => hb.block i h2)
def topOK : List (Int × Bool) → Bool
  | (c, _) :: (c', o') :: _ => !o' || stepB c' c
  | _ => true
def inOrd : List (Int × Bool) → Bool
  | [] => true
  | x :: rest => topOK (x :: rest) && inOrd rest
def layersOf (zs : List Int) (H : Nat) : Nat → List (Int × Bool)
  | 0 => []
  | k + 1 => (zs.getD k 0, decide (H ≤ k)) :: layersOf zs H k
theorem layers_ord (zs : List Int) (H n : Nat) : inOrd (layersOf zs H n) = downOK zs H n := by
  induction n with
  | zero => symm; exact down_yes (fun i h => by omega)
  | succ n ih =>
    rw [layersOf, inOrd, ih]
    cases n with
    | zero =>
      rw [show topOK ((zs.getD 0 0, decide (H ≤ 0)) :: layersOf zs H 0) = true from rfl, Bool.true_and, down_yes (fun i h => by omega), down_yes (fun i h h2 => by omega)]
    | succ m =>
      have e : topOK ((zs.getD (m + 1) 0, decide (H ≤ m + 1)) :: layersOf zs H (m + 1)) = (!decide (H ≤ m) || stepB (zs.getD m 0) (zs.getD (m + 1) 0)) := rfl
      rw [e]
      by_cases hm : H ≤ m
      · rw [decide_eq_true hm, Bool.not_true, Bool.false_or]
        cases hs : stepB (zs.getD m 0) (zs.getD (m + 1) 0) with
        | false => rw [Bool.false_and]; symm; exact down_no (i := m + 1) (by omega) (by omega) hs
        | true =>
          rw [Bool.true_and]
          cases hd : downOK zs H (m + 1) with
          | true =>
            symm
            refine down_yes (fun i h h2 => ?_)
            by_cases ei : i = m + 1
            · subst ei; exact hs
            · unfold downOK at hd; exact of_decide_eq_true hd i (by omega) h2
          | false =>
            symm
            cases hd2 : downOK zs H (m + 1 + 1) with
            | false => rfl
            | true =>
              unfold downOK at hd hd2
              exact absurd (fun i h h2 => of_decide_eq_true hd2 i (by omega) h2) (of_decide_eq_false hd)
      · rw [decide_eq_false hm, Bool.not_false, Bool.true_or, Bool.true_and, down_yes (fun i h h2 => by omega), down_yes (fun i h h2 => by omega)]
theorem cells3 {w : World} {b : Nat} {a0 a1 a2 : Value} {t : TypeId} {fr : Nat × Nat} (h : w.heap[b]? = some (.cells #[a0, a1, a2] t fr)) : w.cell? ⟨b, 0, none⟩ = some a0 ∧ w.cell? ⟨b, 1, none⟩ = some a1 ∧ w.cell? ⟨b, 2, none⟩ = some a2 := by
  simp [World.cell?, h]
theorem cells1 {w : World} {b : Nat} {a0 : Value} {t : TypeId} {fr : Nat × Nat} (h : w.heap[b]? = some (.cells #[a0] t fr)) : w.cell? ⟨b, 0, none⟩ = some a0 := by
  simp [World.cell?, h]
theorem free1 {w : World} {b : Nat} {c : Array Value} {t : TypeId} (h : w.heap[b]? = some (.cells c t (0, 0))) (i : Nat) : w.frozen? ⟨b, i, none⟩ = false := by
  simp [World.frozen?, h]
theorem set1 {w : World} {b : Nat} {a0 : Value} {t : TypeId} {fr : Nat × Nat} (h : w.heap[b]? = some (.cells #[a0] t fr)) (v : Value) : (w.setCell ⟨b, 0, none⟩ v).heap[b]? = some (.cells #[v] t fr) := by
  simp [World.setCell, Array.getElem?_modify, h]
theorem drewN_heap (w : World) (n i : Nat) (h : i < w.heap.size) : (w.drewN n).heap[i]? = w.heap[i]? := (below_drewN (Below.refl w.heap.size w) n).block i h

/-- What the closure does at a layer. -/
def Seen (w : World) (M ib : Nat) (r : Bool) (e : Ending) (w' : World) : Prop := e = .returned (.tuple #[]) ∧ w'.heap[ib]? = some (.cells #[.bool r] 4 (0, 0)) ∧ Below M w w' ∧ w'.heap.size = w.heap.size

set_option maxRecDepth 100000 in
set_option maxHeartbeats 1000000 in
theorem see_none (L M ib b : Nat) (c : Int) (o : Bool) (q : Option Addr) (u : Bool) (w : World) (hb : w.heap[b]? = some (.cells #[.int .i64 c, .bool o, .pointer q] 61 (0, 0))) (hi : w.heap[ib]? = some (.cells #[.bool u] 4 (0, 0))) (hM : M ≤ ib) (hq : q = none) :
    Calls Try.prog 62 #[.pointer (some ⟨b, 0, none⟩), .pointer (some ⟨ib, 0, none⟩)] w (Seen w M ib u) := by
  obtain ⟨k0, k1, k2⟩ := cells3 hb
  have n0 := cells1 hi
  have z0 := free1 hi 0
  have hil := (Array.getElem?_eq_some_iff.1 hi).1
  subst hq
  go_enter Try.func62, Try.ntmps62
  go_wp2_with fail
  go_quiet (fail)
  go_wp2_with fail
  go_end0
  exact ⟨rfl, (drewN_heap _ _ _ hil).trans hi, below_drewN (Below.refl M w) _, by simp⟩
set_option maxRecDepth 100000 in
set_option maxHeartbeats 1000000 in
theorem see_shut (L M ib b : Nat) (c : Int) (o : Bool) (q : Option Addr) (u : Bool) (w : World) (hb : w.heap[b]? = some (.cells #[.int .i64 c, .bool o, .pointer q] 61 (0, 0))) (hi : w.heap[ib]? = some (.cells #[.bool u] 4 (0, 0))) (hM : M ≤ ib) (b2 : Nat) (c2 : Int) (q2 : Option Addr) (hq : q = some ⟨b2, 0, none⟩) (hb2 : w.heap[b2]? = some (.cells #[.int .i64 c2, .bool false, .pointer q2] 61 (0, 0))) :
    Calls Try.prog 62 #[.pointer (some ⟨b, 0, none⟩), .pointer (some ⟨ib, 0, none⟩)] w (Seen w M ib u) := by
  obtain ⟨k0, k1, k2⟩ := cells3 hb
  have n0 := cells1 hi
  have z0 := free1 hi 0
  have hil := (Array.getElem?_eq_some_iff.1 hi).1
  subst hq
  obtain ⟨j0, j1, j2⟩ := cells3 hb2
  clear hb2
  go_enter Try.func62, Try.ntmps62
  go_wp2_with fail
  go_quiet (fail)
  go_wp2_with fail
  go_end0
  exact ⟨rfl, (drewN_heap _ _ _ hil).trans hi, below_drewN (Below.refl M w) _, by simp⟩
set_option maxRecDepth 100000 in
set_option maxHeartbeats 1000000 in
theorem see_fits (L M ib b : Nat) (c : Int) (o : Bool) (q : Option Addr) (u : Bool) (w : World) (hb : w.heap[b]? = some (.cells #[.int .i64 c, .bool o, .pointer q] 61 (0, 0))) (hi : w.heap[ib]? = some (.cells #[.bool u] 4 (0, 0))) (hM : M ≤ ib) (b2 : Nat) (c2 : Int) (q2 : Option Addr) (hq : q = some ⟨b2, 0, none⟩) (hb2 : w.heap[b2]? = some (.cells #[.int .i64 c2, .bool true, .pointer q2] 61 (0, 0))) (hs : stepB c2 c = true) :
    Calls Try.prog 62 #[.pointer (some ⟨b, 0, none⟩), .pointer (some ⟨ib, 0, none⟩)] w (Seen w M ib u) := by
  obtain ⟨k0, k1, k2⟩ := cells3 hb
  have n0 := cells1 hi
  have z0 := free1 hi 0
  have hil := (Array.getElem?_eq_some_iff.1 hi).1
  subst hq
  obtain ⟨j0, j1, j2⟩ := cells3 hb2
  have HS := Lib.hid (fun wx => liesOn_r c2 c wx true hs)
  clear hb2 hs
  go_enter Try.func62, Try.ntmps62
  go_wp2_with fail
  go_quiet ((go_at_call 57; exact Calls.quiet_of_same (flip_same (HS.out _) rfl)))
  go_wp2_with fail
  go_end0
  exact ⟨rfl, (drewN_heap _ _ _ hil).trans hi, below_drewN (Below.refl M w) _, by simp⟩
set_option maxRecDepth 100000 in
set_option maxHeartbeats 1000000 in
theorem see_bad (L M ib b : Nat) (c : Int) (o : Bool) (q : Option Addr) (u : Bool) (w : World) (hb : w.heap[b]? = some (.cells #[.int .i64 c, .bool o, .pointer q] 61 (0, 0))) (hi : w.heap[ib]? = some (.cells #[.bool u] 4 (0, 0))) (hM : M ≤ ib) (b2 : Nat) (c2 : Int) (q2 : Option Addr) (hq : q = some ⟨b2, 0, none⟩) (hb2 : w.heap[b2]? = some (.cells #[.int .i64 c2, .bool true, .pointer q2] 61 (0, 0))) (hs : stepB c2 c = false) :
    Calls Try.prog 62 #[.pointer (some ⟨b, 0, none⟩), .pointer (some ⟨ib, 0, none⟩)] w (Seen w M ib false) := by
  obtain ⟨k0, k1, k2⟩ := cells3 hb
  have n0 := cells1 hi
  have z0 := free1 hi 0
  have hil := (Array.getElem?_eq_some_iff.1 hi).1
  subst hq
  obtain ⟨j0, j1, j2⟩ := cells3 hb2
  have HS := Lib.hid (fun wx => liesOn_r c2 c wx false hs)
  clear hb2 hs
  go_enter Try.func62, Try.ntmps62
  go_wp2_with fail
  go_quiet ((go_at_call 57; exact Calls.quiet_of_same (flip_same (HS.out _) rfl)))
  go_wp2_with fail
  go_end0
  exact ⟨rfl, set1 ((drewN_heap _ _ _ hil).trans hi) _, (below_drewN (Below.refl M w) _).setCell hM _, by simp [World.setCell]⟩
theorem see_any (L M ib b : Nat) (c : Int) (o : Bool) (rest : List (Int × Bool)) (q : Option Addr) (u : Bool) (w : World) (hb : w.heap[b]? = some (.cells #[.int .i64 c, .bool o, .pointer q] 61 (0, 0))) (hr : IsStk w L b rest q) (hi : w.heap[ib]? = some (.cells #[.bool u] 4 (0, 0))) (hM : M ≤ ib) :
    Calls Try.prog 62 #[.pointer (some ⟨b, 0, none⟩), .pointer (some ⟨ib, 0, none⟩)] w (Seen w M ib (u && topOK ((c, o) :: rest))) := by
  match rest, hr with
  | [], hr =>
    have := see_none L M ib b c o q u w hb hi hM hr
    rw [show topOK [(c, o)] = true from rfl, Bool.and_true]; exact this
  | (c2, false) :: rest2, ⟨b2, q2, e, _, _, hb2, _⟩ =>
    have := see_shut L M ib b c o q u w hb hi hM b2 c2 q2 e hb2
    rw [show topOK ((c, o) :: (c2, false) :: rest2) = true from rfl, Bool.and_true]; exact this
  | (c2, true) :: rest2, ⟨b2, q2, e, _, _, hb2, _⟩ =>
    cases hs : stepB c2 c with
    | true =>
      have := see_fits L M ib b c o q u w hb hi hM b2 c2 q2 e hb2 hs
      rw [show topOK ((c, o) :: (c2, true) :: rest2) = stepB c2 c from by simp [topOK], hs, Bool.and_true]; exact this
    | false =>
      have := see_bad L M ib b c o q u w hb hi hM b2 c2 q2 e hb2 hs
      rw [show topOK ((c, o) :: (c2, true) :: rest2) = stepB c2 c from by simp [topOK], hs, Bool.and_false]; exact this
def ptrB (v : Value) : Nat := match v with
  | .pointer (some a) => a.block + 1
  | _ => 0
set_option maxRecDepth 100000 in
set_option maxHeartbeats 1000000 in
theorem eachDown_any (L M ib : Nat) (top : Option Addr) (ls : List (Int × Bool)) (w : World) (hs : IsStk w L M ls top) (hM : M ≤ ib) (hi : w.heap[ib]? = some (.cells #[.bool true] 4 (0, 0))) :
    Calls Try.prog 48 #[.agg #[.pointer top], .func (.func 62) #[] #[.pointer (some ⟨ib, 0, none⟩)]] w fun e w' => e = .returned (.tuple #[]) ∧ w'.heap[ib]? = some (.cells #[.bool (inOrd ls)] 4 (0, 0)) ∧ Below M w w' := by
  have hil := (Array.getElem?_eq_some_iff.1 hi).1
  have hs1 : Hid (IsStk (w.alloc (.cells #[.pointer top] 51)) L M ls top) := Lib.hid (hs.keep (fun i _ h2 => Below.heap_alloc _ _ _ (by omega)))
  have hi1 : Hid ((w.alloc (.cells #[.pointer top] 51)).heap[ib]? = some (.cells #[.bool true] 4 (0, 0))) := Lib.hid ((Below.heap_alloc _ _ _ hil).trans hi)
  have B0 : Below M w (w.alloc (.cells #[.pointer top] 51)) := (Below.refl M w).alloc (by omega) _
  clear hs hi
  go_enter Try.func48, Try.ntmps48
  go_wp2_with fail
  go_loopw [4] (fun l wr => ∃ (p : Option Addr) (M' : Nat) (rest : List (Int × Bool)) (u : Bool), l = .pointer p ∧ M' ≤ M ∧ Hid (IsStk wr L M' rest p) ∧ Hid (wr.heap[ib]? = some (.cells #[.bool u] 4 (0, 0))) ∧ Hid ((u && inOrd rest) = inOrd ls) ∧ Below M w wr) (fun l _ => ptrB l)
  case atStart => exact ⟨top, M, ls, true, rfl, Nat.le_refl _, hs1, hi1, Lib.hid (Bool.true_and _), B0⟩
  case round =>
    clear hs1 hi1 B0
    obtain ⟨p, M', rest, u, rfl, hM', hst, hi, hord, B⟩ := hrel
    match rest, hst, hord with
    | [], hst, hord =>
      have hp : p = none := hst.out
      subst hp
      have hu : Hid (u = inOrd ls) := Lib.hid (by rw [← hord.out]; simp [inOrd])
      go_wp2_with fail
      go_end0
      exact ⟨rfl, by rw [← hu.out]; exact hi.out, B⟩
    | (c, o) :: rest2, hst, hord =>
      obtain ⟨b, q, rfl, h1, h2, h3, h4⟩ := hst.out
      have HC := Lib.hid (see_any L M ib b c o rest2 q u wr h3 h4 hi.out hM)
      have hbl := (Array.getElem?_eq_some_iff.1 h3).1
      have HK : Hid (∀ wx, Below M wr wx → IsStk wx L b rest2 q ∧ wx.heap[b]? = some (.cells #[.int .i64 c, .bool o, .pointer q] 61 (0, 0))) := Lib.hid (fun wx hb => ⟨h4.keep (fun i _ a2 => hb.block i (by omega)), (hb.block b (by omega)).trans h3⟩)
      have ho2 : Hid (((u && topOK ((c, o) :: rest2)) && inOrd rest2) = inOrd ls) := Lib.hid (by rw [← hord.out, inOrd, Bool.and_assoc])
      have hdec : ∀ i, q = some i → i.block < b := fun i hq => by
        match rest2, h4 with
        | [], h4 => rw [hq] at h4; cases h4
        | (c2, o2) :: r3, ⟨b2, q2, e, _, h6, _, _⟩ => rw [hq] at e; have := Option.some.inj e; rw [this]; exact h6
      have hdec := Lib.hid hdec
      clear h3 h4 hst hord hi
      go_wp2_with fail
      refine HC.out.mono ?_
      rintro e w1 ⟨rfl, hi1, b1, hsz⟩
      obtain ⟨hst1, h3⟩ := HK.out w1 b1
      obtain ⟨k0, k1, k2⟩ := cells3 h3
      have B1 := B.trans b1
      have hi1 := Lib.hid hi1
      have hst1 := Lib.hid hst1
      clear HC HK b1 h3 hsz B
      go_wp2_with fail
      go_roundw
      case rel => exact ⟨q, b, rest2, _, rfl, by omega, hst1, hi1, ho2, B1⟩
      case measure =>
        cases q with
        | none => simp [ptrB]
        | some i => have := hdec.out i rfl; simp [ptrB]; omega
set_option maxRecDepth 100000 in
set_option maxHeartbeats 1000000 in
theorem isInOrder_any (L M : Nat) (top : Option Addr) (ls : List (Int × Bool)) (w : World) (hs : IsStk w L M ls top) (hM : M ≤ w.heap.size) (r : Bool) (hr : inOrd ls = r) :
    Calls Try.prog 54 #[.agg #[.pointer top]] w fun e w' => e = .returned (.bool r) ∧ Below M w w' := by
  have hmf : ∀ (fn : Fn) (first cap : Array Value) (w : World), (Instr.makeFunc fn first cap).run Try.prog w = .ok (.func fn first cap) w := fun _ _ _ _ => rfl
  obtain ⟨W0, hW0⟩ : ∃ W, W = (w.alloc (.cells #[.pointer top] 51)).alloc (.cells #[.bool true] 4) := ⟨_, rfl⟩
  have B : Below M w W0 := by rw [hW0]; exact ((Below.refl M w).alloc hM _).alloc (by simp; omega) _
  have G1 : W0.heap[w.heap.size]? = some (.cells #[.pointer top] 51 (0, 0)) := by
    rw [hW0]; show ((w.heap.push _).push _)[w.heap.size]? = _
    rw [Array.getElem?_push, if_neg (by simp)]; simp
  have G2 : W0.heap[w.heap.size + 1]? = some (.cells #[.bool true] 4 (0, 0)) := by
    rw [hW0]; show ((w.heap.push _).push _)[w.heap.size + 1]? = _
    rw [Array.getElem?_push, if_pos (by simp)]
  have HE := Lib.hid (eachDown_any L M (w.heap.size + 1) top ls W0 (hs.belowS B) (by omega) G2)
  rw [hr] at HE
  have HW0 := Lib.hid hW0
  have k0 := cells1 G1
  clear hW0 G1 G2 hs hr
  go_enter Try.func54, Try.ntmps54
  go_wp2_with fail
  rw [← HW0.out]
  go_wp2_with fail
  refine HE.out.mono ?_
  rintro e w1 ⟨rfl, hi, b1⟩
  have n0 := cells1 hi
  have B1 := B.trans b1
  clear hi b1
  go_wp2_with fail
  go_ret
  exact ⟨rfl, B1⟩
end Go.Proofs.Ytoeobpdgfhgpiaa
