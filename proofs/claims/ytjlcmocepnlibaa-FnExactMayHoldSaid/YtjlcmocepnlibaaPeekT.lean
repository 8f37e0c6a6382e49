/-
  HiddenCount, MayHold, SamePeek: both sides.
-/
import Derived.Test.YtjlcmocepnlibaaSPeek
import Derived.Test.YtjlcmocepnlibaaHas
namespace Go.Proofs.Ytjlcmocepnlibaa
open Go.RowKit
set_option linter.unusedVariables false
set_option linter.unusedSimpArgs false

theorem peekCells {w : World} {b : Nat} {a0 a1 a2 a3 a4 a5 a6 a7 : Value} {t : TypeId} {fr : Nat × Nat} (h : w.heap[b]? = some (.cells #[a0, a1, a2, a3, a4, a5, a6, a7] t fr)) : w.cell? ⟨b, 1, none⟩ = some a1 ∧ w.cell? ⟨b, 2, none⟩ = some a2 := by simp [World.cell?, h]
theorem peekNew (w : World) (o : Obj) : (w.alloc o).heap[w.heap.size]? = some o := by
  show (w.heap.push o)[w.heap.size]? = _
  rw [Array.getElem?_push, if_pos rfl]
def mayHold (D : MPeek) (c : Int) : Bool := isCard c && (!hasI D.hand c && !(decide (c = D.top)))
set_option maxRecDepth 100000 in
set_option maxHeartbeats 1000000 in
theorem mayHoldI_any (v : Value) (D : MPeek) (c : Int) (w : World) (h : RdPeek w v D) (hf : D.Few) (r : Bool) (hr : mayHold D c = r) :
    Calls Try.prog 26 #[v, .int .i64 c] w fun e w' => e = .returned (.bool r) ∧ Below w.heap.size w w' := by
  obtain ⟨f1, f5⟩ := hf
  obtain ⟨v1, v5, b1, b5, rfl, h1, -⟩ := h
  obtain ⟨p1, c1, e1, -⟩ := id h1
  subst e1
  have B0 := fun o => (Below.refl w.heap.size w).alloc (Nat.le_refl _) o
  have HC := Lib.hid (fun wx => isCard_r c wx _ rfl)
  have HH := Lib.hid (fun wx (bx : Below w.heap.size w wx) => hasCard_any _ D.hand _ c wx (h1.below bx) (by omega))
  unfold mayHold at hr
  have HB := Lib.hid B0
  clear h1 B0
  cases x0 : isCard c with
  | false =>
    rw [x0] at HC hr
    obtain rfl : r = false := by rw [← hr]; rfl
    clear x0 hr
    go_enter Try.func26, Try.ntmps26
    go_wp2_with fail
    refine (HC.out _).mono ?_
    rintro e _w ⟨rfl, rfl⟩
    go_wp2_with fail
    go_ret
    exact ⟨rfl, HB.out _⟩
  | true =>
    rw [x0] at HC hr
    cases x1 : hasI D.hand c with
    | true =>
      rw [x1] at HH hr
      obtain rfl : r = false := by rw [← hr]; rfl
      clear x0 x1 hr
      go_enter Try.func26, Try.ntmps26
      go_wp2_with fail
      refine (HC.out _).mono ?_
      rintro e _w ⟨rfl, rfl⟩
      go_wp2_with fail
      refine (HH.out _ (HB.out _)).mono ?_
      rintro e _w ⟨rfl, rfl⟩
      go_wp2_with fail
      go_ret
      exact ⟨rfl, HB.out _⟩
    | false =>
      rw [x1] at HH hr
      have hq : (c != D.top) = r := by rw [← hr]; simp; rfl
      clear x0 x1 hr
      go_enter Try.func26, Try.ntmps26
      go_wp2_with fail
      refine (HC.out _).mono ?_
      rintro e _w ⟨rfl, rfl⟩
      go_wp2_with fail
      refine (HH.out _ (HB.out _)).mono ?_
      rintro e _w ⟨rfl, rfl⟩
      go_wp2_with fail
      go_ret
      exact ⟨rfl, HB.out _⟩
set_option maxRecDepth 100000 in
set_option maxHeartbeats 1000000 in
theorem sMayHold_any (v : Value) (D : MPeek) (c : Int) (w : World) (h : RdPeek w v D) (hf : D.Few) (r : Bool) (hr : mayHold D c = r) :
    Calls Try.prog 25 #[v, .int .i64 c] w fun e w' => e = .returned (.bool r) ∧ Below w.heap.size w w' := by
  obtain ⟨f1, f5⟩ := hf
  obtain ⟨v1, v5, b1, b5, rfl, h1, -⟩ := h
  obtain ⟨p1, c1, e1, -⟩ := id h1
  subst e1
  have B0 := fun o => (Below.refl w.heap.size w).alloc (Nat.le_refl _) o
  have HC := Lib.hid (fun wx => sIsCard_r c wx _ rfl)
  have HH := Lib.hid (fun wx (bx : Below w.heap.size w wx) => sHasCard_any _ D.hand _ c wx (h1.below bx) (by omega))
  unfold mayHold at hr
  have HB := Lib.hid B0
  clear h1 B0
  cases x0 : isCard c with
  | false =>
    rw [x0] at HC hr
    obtain rfl : r = false := by rw [← hr]; rfl
    clear x0 hr
    go_enter Try.func25, Try.ntmps25
    go_wp2_with fail
    refine (HC.out _).mono ?_
    rintro e _w ⟨rfl, rfl⟩
    go_wp2_with fail
    go_ret
    exact ⟨rfl, HB.out _⟩
  | true =>
    rw [x0] at HC hr
    cases x1 : hasI D.hand c with
    | true =>
      rw [x1] at HH hr
      obtain rfl : r = false := by rw [← hr]; rfl
      clear x0 x1 hr
      go_enter Try.func25, Try.ntmps25
      go_wp2_with fail
      refine (HC.out _).mono ?_
      rintro e _w ⟨rfl, rfl⟩
      go_wp2_with fail
      refine (HH.out _ (HB.out _)).mono ?_
      rintro e _w ⟨rfl, rfl⟩
      go_wp2_with fail
      go_ret
      exact ⟨rfl, HB.out _⟩
    | false =>
      rw [x1] at HH hr
      have hq : (c != D.top) = r := by rw [← hr]; simp; rfl
      clear x0 x1 hr
      go_enter Try.func25, Try.ntmps25
      go_wp2_with fail
      refine (HC.out _).mono ?_
      rintro e _w ⟨rfl, rfl⟩
      go_wp2_with fail
      refine (HH.out _ (HB.out _)).mono ?_
      rintro e _w ⟨rfl, rfl⟩
      go_wp2_with fail
      go_ret
      exact ⟨rfl, HB.out _⟩
end Go.Proofs.Ytjlcmocepnlibaa
