/-
  Piles of the program: stackOf, IsPile, OpenCards, MayStack.
-/
import Derived.Test.YtoeobpdgfhgpiaaPileI
import Derived.Test.YtoeobpdgfhgpiaaBits
namespace Go.Proofs.Ytoeobpdgfhgpiaa
open Go.RowKit
set_option linter.unusedVariables false

theorem three_boxes (w : World) (o1 o2 o3 : Obj) : (((w.alloc o1).alloc o2).alloc o3).heap[w.heap.size]? = some o1 ∧ (((w.alloc o1).alloc o2).alloc o3).heap[w.heap.size + 1]? = some o2 ∧ (((w.alloc o1).alloc o2).alloc o3).heap[w.heap.size + 2]? = some o3 := by
  refine ⟨?_, ?_, ?_⟩ <;> show (((w.heap.push o1).push o2).push o3)[_]? = _
  · rw [Array.getElem?_push, if_neg (by simp; omega), Array.getElem?_push, if_neg (by simp)]; simp
  · rw [Array.getElem?_push, if_neg (by simp), Array.getElem?_push, if_pos (by simp)]
  · rw [Array.getElem?_push, if_pos (by simp)]
/-- What the rounds of stackOf carry: s is the block of the variable, s - 1 that of the result, s - 2 that of the pile. -/
def StkRound (w : World) (box : Obj) (zs : List Int) (K k : Nat) (top : Option Addr) (wr : World) : Prop :=
  Below w.heap.size w wr ∧ wr.heap[w.heap.size]? = some box ∧ wr.heap[w.heap.size + 1]? = some (.cells #[.pointer none] 51 (0, 0)) ∧
    wr.heap[w.heap.size + 2]? = some (.cells #[.pointer top] 51 (0, 0)) ∧ IsStk wr (w.heap.size + 3) wr.heap.size (layersOf zs K k) top
theorem StkRound.next {w wr : World} {box : Obj} {zs : List Int} {K k : Nat} {top : Option Addr} (h : StkRound w box zs K k top wr) (y : Int) (o : Bool) (he : layersOf zs K (k + 1) = (y, o) :: layersOf zs K k) :
    StkRound w box zs K (k + 1) (some ⟨wr.heap.size, 0, none⟩) ((wr.alloc (.cells #[.int .i64 y, .bool o, .pointer top] 61)).setCell ⟨w.heap.size + 2, 0, none⟩ (.pointer (some ⟨wr.heap.size, 0, none⟩))) := by
  obtain ⟨B, g0, g1, g2, hs⟩ := h
  have l2 := (Array.getElem?_eq_some_iff.1 g2).1
  have ka : ∀ i, i < wr.heap.size → (wr.alloc (.cells #[.int .i64 y, .bool o, .pointer top] 61)).heap[i]? = wr.heap[i]? := fun i hi => Below.heap_alloc _ _ _ hi
  have ks : ∀ i, i ≠ w.heap.size + 2 → ((wr.alloc (.cells #[.int .i64 y, .bool o, .pointer top] 61)).setCell ⟨w.heap.size + 2, 0, none⟩ (.pointer (some ⟨wr.heap.size, 0, none⟩))).heap[i]? = (wr.alloc (.cells #[.int .i64 y, .bool o, .pointer top] 61)).heap[i]? := fun i hi => Below.heap_setCell _ _ _ _ hi
  have hsz : ((wr.alloc (.cells #[.int .i64 y, .bool o, .pointer top] 61)).setCell ⟨w.heap.size + 2, 0, none⟩ (.pointer (some ⟨wr.heap.size, 0, none⟩))).heap.size = wr.heap.size + 1 := by simp [World.setCell]
  refine ⟨(B.alloc B.size _).setCell (by show w.heap.size ≤ w.heap.size + 2; omega) _, ?_, ?_, ?_, ?_⟩
  · rw [ks _ (by omega), ka _ (by omega)]; exact g0
  · rw [ks _ (by omega), ka _ (by omega)]; exact g1
  · exact set1 ((ka _ l2).trans g2) _
  · rw [he, hsz]
    refine ⟨wr.heap.size, top, rfl, by omega, by omega, ?_, ?_⟩
    · rw [ks _ (by omega)]; exact heap_newP _ _
    · exact hs.keep (fun i h1 h2 => by rw [ks _ (by omega), ka _ h2])
set_option maxRecDepth 100000 in
set_option maxHeartbeats 2000000 in
theorem stackOf_any (v : Value) (zs : List Int) (K : Nat) (w : World) (h : RdPile w v ⟨zs, (K : Int)⟩) (f0 : zs.length ≤ 1048576) (hK : K ≤ zs.length) :
    Calls Try.prog 33 #[v] w fun e w' => ∃ top, e = .returned (.agg #[.pointer top]) ∧ IsStk w' w.heap.size w'.heap.size (layersOf zs K zs.length) top ∧ Below w.heap.size w w' := by
  obtain ⟨v0, b0, rfl, h0, wf1⟩ := h
  dsimp only at h0 wf1
  obtain ⟨n, hn⟩ : ∃ n, n = zs.length := ⟨_, rfl⟩
  have Hn := Lib.hid hn
  obtain ⟨p0, c0, e0, -⟩ := id h0
  subst e0
  have HCl : Hid (∀ wx, Below w.heap.size w wx → ∀ k, k < n → ∃ off, p0 = some ⟨b0, off, none⟩ ∧ wx.cell? ⟨b0, off + k, none⟩ = some (.int .i64 (zs.getD k 0))) := Lib.hid (fun wx hb k hk => by
    rcases (h0.below hb).open with ⟨h00, -⟩ | ⟨-, off, c, hv, -, hc⟩
    · rw [hn, h00] at hk; simp at hk
    · exact ⟨off, (Value.slice.inj hv).1, cells_getD hc k (by omega)⟩)
  dsimp only
  rw [← hn] at f0 hK ⊢
  obtain ⟨W0, hW0⟩ : ∃ W, W = ((w.alloc (.cells #[.slice p0 n c0, .int .i64 K] 32)).alloc (.cells #[.pointer none] 51)).alloc (.cells #[.pointer none] 51) := ⟨_, rfl⟩
  have HS0 : Hid (StkRound w (.cells #[.slice p0 n c0, .int .i64 K] 32) zs K 0 none W0) := Lib.hid (by
    obtain ⟨t1, t2, t3⟩ := three_boxes w (.cells #[.slice p0 n c0, .int .i64 K] 32) (.cells #[.pointer none] 51) (.cells #[.pointer none] 51)
    rw [hW0]
    exact ⟨(((Below.refl w.heap.size w).alloc (Nat.le_refl _) _).alloc (by simp) _).alloc (by simp; omega) _, t1, t2, t3, rfl⟩)
  have HW0 := Lib.hid hW0
  obtain ⟨k0, k1⟩ := SPile_cells HS0.out.2.1
  clear hn h0 wf1 hW0
  go_enter Try.func33, Try.ntmps33
  go_wp2_with fail
  rw [← HW0.out]
  go_wp2_with fail
  clear k0 k1
  go_loopw [4, 5, 9] (fun _ _ i wr => ∃ (k : Nat) (top : Option Addr), k ≤ n ∧ i = .int .i64 k ∧ Hid (StkRound w (.cells #[.slice p0 n c0, .int .i64 K] 32) zs K k top wr)) (fun _ _ i _ => n - (intOf i).toNat)
  case atStart => exact ⟨0, none, Nat.zero_le _, rfl, HS0⟩
  case round =>
    clear HS0 HW0
    obtain ⟨k, top, hk, rfl, hst⟩ := hrel
    obtain ⟨B, g0, g1, g2, hs⟩ := hst.out
    obtain ⟨k0, k1⟩ := SPile_cells g0
    have n0 := cells1 g2
    have z0 := free1 g2 0
    have lt2 := (Array.getElem?_eq_some_iff.1 g2).1
    have m0 := cells1 g1
    have y0 := free1 g1 0
    by_cases hlt : k < n
    · obtain ⟨off, hp, hc⟩ := HCl.out wr B k hlt
      subst hp
      obtain ⟨y, hy⟩ : ∃ y, Hid (zs.getD k 0 = y) := ⟨_, Lib.hid rfl⟩
      rw [hy.out] at hc
      by_cases hKk : K ≤ k
      · have d1 : decide (K ≤ k) = true := decide_eq_true hKk
        have hn2 := hst.out.next y true (by rw [layersOf, hy.out, d1])
        rw [World.setCell_alloc_past _ _ _ _ lt2] at hn2
        have hn2 := Lib.hid hn2
        clear hst g0 g1 g2 hs B
        go_wp2_with fail
        go_roundw
        case rel => exact ⟨k + 1, _, by omega, by go_num, hn2⟩
        case measure => simp [intOf]; omega
      · have d1 : decide (K ≤ k) = false := decide_eq_false hKk
        have hn2 := hst.out.next y false (by rw [layersOf, hy.out, d1])
        rw [World.setCell_alloc_past _ _ _ _ lt2] at hn2
        have hn2 := Lib.hid hn2
        clear hst g0 g1 g2 hs B
        go_wp2_with fail
        go_roundw
        case rel => exact ⟨k + 1, _, by omega, by go_num, hn2⟩
        case measure => simp [intOf]; omega
    · obtain rfl : k = n := by omega
      have N2 := set1 g1 (.pointer top)
      have hsz : (wr.setCell ⟨w.heap.size + 1, 0, none⟩ (.pointer top)).heap.size = wr.heap.size := by simp [World.setCell]
      have hs2 : IsStk (wr.setCell ⟨w.heap.size + 1, 0, none⟩ (.pointer top)) w.heap.size (wr.setCell ⟨w.heap.size + 1, 0, none⟩ (.pointer top)).heap.size (layersOf zs K k) top := by
        rw [hsz]
        exact (hs.keep (fun i h1 h2 => Below.heap_setCell _ _ _ _ (show i ≠ w.heap.size + 1 by omega))).low (by omega)
      have B2 : Below w.heap.size w (wr.setCell ⟨w.heap.size + 1, 0, none⟩ (.pointer top)) := B.setCell (by show w.heap.size ≤ w.heap.size + 1; omega) _
      have hs2 := Lib.hid hs2
      have N2 := Lib.hid N2
      clear hst g0 g1 g2 hs B hsz
      go_wp2_with fail
      exact bodyPost_ret (results_cell_row rfl _ _ (w.heap.size + 1) _ _ _ _ rfl N2.out Try.underlying51 rfl (by kernel_rfl)) rfl ⟨top, rfl, hs2.out, B2⟩

set_option maxRecDepth 100000 in
set_option maxHeartbeats 2000000 in
theorem isPile_any (v : Value) (D : MPile) (w : World) (h : RdPile w v D) (hf : D.Few) (r : Bool) (hr : pileOK D = r) :
    Calls Try.prog 43 #[v] w fun e w' => e = .returned (.bool r) ∧ Below w.heap.size w w' := by
  have h00 := h
  obtain ⟨zs, H⟩ := D
  obtain ⟨v0, b0, rfl, h0, wf1⟩ := h
  have f0 : zs.length ≤ 1048576 := hf.1
  dsimp only at h0 wf1
  obtain ⟨n, hn⟩ : ∃ n, n = zs.length := ⟨_, rfl⟩
  have Hn := Lib.hid hn
  obtain ⟨p0, c0, e0, -⟩ := id h0
  subst e0
  have HI := Lib.hid (fun wx (hb : Below w.heap.size w wx) => isHand_any _ zs b0 wx (h0.below hb) (by omega))
  have B0 := fun o => (Below.refl w.heap.size w).alloc (Nat.le_refl _) o
  have HR := Lib.hid hr
  have HB := Lib.hid (fun W w1 o (hW : W = w.alloc o) bb => below_box (w1 := w1) hW bb)
  dsimp only at h00 ⊢
  rw [← hn] at HI f0 h00 ⊢
  have H00 := Lib.hid h00
  clear hr hn h0 wf1 hf h00
  cases hh : isHand zs with
  | false =>
    rw [hh] at HI
    obtain rfl : r = false := by rw [← HR.out]; exact pile_0 hh
    clear hh
    go_enter Try.func43, Try.ntmps43
    go_wp2_with fail
    refine (HI.out _ (B0 _)).mono ?_
    rintro e w1 ⟨rfl, bb⟩
    obtain ⟨B1, -⟩ := HB.out _ _ _ rfl bb
    clear bb
    go_wp2_with fail
    go_ret
    exact ⟨rfl, B1⟩
  | true =>
    rw [hh] at HI
    have HH := Lib.hid hh
    clear hh
    by_cases hrg : 0 ≤ H ∧ H ≤ (n : Int)
    case neg =>
      have HM := Lib.hid (fun wx => inR_any H 0 n wx false (by simp only [decide_eq_false hrg]))
      obtain rfl : r = false := by rw [← HR.out]; exact pile_1 (by rw [← Hn.out]; exact hrg)
      clear hrg
      go_enter Try.func43, Try.ntmps43
      go_wp2_with fail
      refine (HI.out _ (B0 _)).mono ?_
      rintro e w1 ⟨rfl, bb⟩
      obtain ⟨B1, G1⟩ := HB.out _ _ _ rfl bb
      obtain ⟨k0, k1⟩ := SPile_cells G1
      clear bb G1
      go_wp2_with fail
      refine (HM.out _).mono ?_
      rintro e _w ⟨rfl, rfl⟩
      go_wp2_with fail
      go_ret
      exact ⟨rfl, B1⟩
    have HM := Lib.hid (fun wx => inR_any H 0 n wx true (by simpa using hrg))
    obtain ⟨K, rfl⟩ : ∃ K : Nat, H = K := ⟨H.toNat, by omega⟩
    have hK : K ≤ n := by omega
    have HR2 : Hid (downOK zs K n = r) := Lib.hid (by rw [← HR.out, Hn.out]; exact (pile_2 HH.out (by rw [← Hn.out]; exact hK)).symm)
    have HSt : Hid (∀ wx, Below w.heap.size w wx → Calls Try.prog 33 #[.agg #[.slice p0 n c0, .int .i64 K]] wx fun e w' => ∃ top, e = .returned (.agg #[.pointer top]) ∧ IsStk w' wx.heap.size w'.heap.size (layersOf zs K n) top ∧ Below wx.heap.size wx w') := Lib.hid (fun wx hb => by
      have := stackOf_any _ zs K wx (H00.out.below hb) (by rw [← Hn.out]; omega) (by rw [← Hn.out]; exact hK)
      rw [← Hn.out] at this
      exact this)
    clear hrg
    go_enter Try.func43, Try.ntmps43
    go_wp2_with fail
    refine (HI.out _ (B0 _)).mono ?_
    rintro e w1 ⟨rfl, bb⟩
    obtain ⟨B1, G1⟩ := HB.out _ _ _ rfl bb
    obtain ⟨k0, k1⟩ := SPile_cells G1
    clear bb G1
    go_wp2_with fail
    refine (HM.out _).mono ?_
    rintro e _w ⟨rfl, rfl⟩
    clear HM HI B0 HB
    go_wp2_with fail
    refine (HSt.out _ B1).mono ?_
    rintro e w2 ⟨top, rfl, hs, b2⟩
    have HO := Lib.hid (isInOrder_any _ _ top _ w2 hs (Nat.le_refl _) r (by rw [layers_ord]; exact HR2.out))
    have B2 := B1.trans (b2.mono B1.size)
    clear hs b2 k0 k1
    go_wp2_with fail
    refine HO.out.mono ?_
    rintro e w3 ⟨rfl, b3⟩
    have B3 := B2.trans (b3.mono B2.size)
    clear b3
    go_wp2_with fail
    go_ret
    exact ⟨rfl, B3⟩

set_option linter.unusedVariables false in
set_option maxRecDepth 100000 in
theorem openCards_any (v : Value) (D : MPile) (w : World) (h : RdPile w v D) (hf : D.Few) :
    Calls Try.prog 32 #[v] w fun e w' => e = .returned (.int .i64 (openN D)) ∧ Below w.heap.size w w' := by
  have h00 := h
  obtain ⟨zs, H⟩ := D
  obtain ⟨v0, b0, rfl, h0, wf1⟩ := h
  have f0 : zs.length ≤ 1048576 := hf.1
  dsimp only at h0 wf1
  obtain ⟨p0, c0, e0, -⟩ := id h0
  subst e0
  have B0 := fun o => (Below.refl w.heap.size w).alloc (Nat.le_refl _) o
  have HB := Lib.hid (fun W w1 o (hW : W = w.alloc o) bb => below_box (w1 := w1) hW bb)
  have bl := bounds_i64 wf1
  cases hp : pileOK ⟨zs, H⟩ with
  | false =>
    have HI := Lib.hid (fun wx (hb : Below w.heap.size w wx) => isPile_any _ ⟨zs, H⟩ wx (h00.below hb) hf false hp)
    rw [open_no hp]
    dsimp only at HI ⊢
    clear hp h00 h0 wf1 hf
    go_enter Try.func32, Try.ntmps32
    go_wp2_with fail
    refine (HI.out _ (B0 _)).mono ?_
    rintro e w1 ⟨rfl, bb⟩
    obtain ⟨B1, -⟩ := HB.out _ _ _ rfl bb
    clear bb
    go_wp2_with fail
    go_ret
    exact ⟨rfl, B1⟩
  | true =>
    have HI := Lib.hid (fun wx (hb : Below w.heap.size w wx) => isPile_any _ ⟨zs, H⟩ wx (h00.below hb) hf true hp)
    rw [open_yes hp]
    have hb := pile_t hp
    obtain ⟨-, hb0, hb1⟩ := hb
    dsimp only at HI ⊢
    obtain ⟨n, hn⟩ : ∃ n, n = zs.length := ⟨_, rfl⟩
    rw [← hn] at HI f0 hb1 ⊢
    clear hp h00 h0 wf1 hf hn
    go_enter Try.func32, Try.ntmps32
    go_wp2_with fail
    refine (HI.out _ (B0 _)).mono ?_
    rintro e w1 ⟨rfl, bb⟩
    obtain ⟨B1, G1⟩ := HB.out _ _ _ rfl bb
    obtain ⟨k0, k1⟩ := SPile_cells G1
    clear bb G1
    go_wp2_with fail
    go_ret
    exact ⟨rfl, B1⟩
def takesB (ls : List (Int × Bool)) (c : Int) : Bool :=
  match ls with
  | [] => decide (rankOf c = 11)
  | (x, o) :: _ => o && stepB x c
theorem takes_none (c : Int) : takesB [] c = decide (rankOf c = 11) := rfl
theorem takes_some (zs : List Int) (K m : Nat) (c : Int) : takesB (layersOf zs K (m + 1)) c = (decide (K ≤ m) && stepB (zs.getD m 0) c) := rfl
def mayStack (D : MPile) (c : Int) : Bool := pileOK D && (isCard c && (!hasI D.cards c && takesB (layersOf D.cards D.hidden.toNat D.cards.length) c))
theorem ms_0 {D : MPile} {c : Int} (h : pileOK D = false) : mayStack D c = false := by simp [mayStack, h]
theorem ms_1 {D : MPile} {c : Int} (h : isCard c = false) : mayStack D c = false := by simp [mayStack, h]
theorem ms_2 {D : MPile} {c : Int} (h : hasI D.cards c = true) : mayStack D c = false := by simp [mayStack, h]
theorem ms_3 {zs : List Int} {K : Nat} {c : Int} (h : pileOK ⟨zs, (K : Int)⟩ = true) (h1 : isCard c = true) (h2 : hasI zs c = false) : mayStack ⟨zs, (K : Int)⟩ c = takesB (layersOf zs K zs.length) c := by simp [mayStack, h, h1, h2]

set_option maxRecDepth 100000 in
set_option maxHeartbeats 1000000 in
theorem stackTakes_any (L M : Nat) (top : Option Addr) (ls : List (Int × Bool)) (c : Int) (w : World) (hs : IsStk w L M ls top) (hM : M ≤ w.heap.size) (r : Bool) (hr : takesB ls c = r) :
    Calls Try.prog 46 #[.agg #[.pointer top], .int .i64 c] w fun e w' => e = .returned (.bool r) ∧ Below w.heap.size w w' := by
  have B0 := fun o => (Below.refl w.heap.size w).alloc (Nat.le_refl _) o
  match ls, hs with
  | [], hs =>
    have hp : top = none := hs
    subst hp
    rw [takes_none] at hr
    obtain ⟨t, ht⟩ : ∃ t, rankOf c = t := ⟨_, rfl⟩
    rw [ht] at hr
    have HT := Lib.hid ht
    clear ht
    by_cases e : t = 11
    · have hq : (t == 11) = true := by simpa using e
      obtain rfl : r = true := by rw [← hr]; simpa using e
      clear hr e hs
      go_enter Try.func46, Try.ntmps46
      go_wp2_with fail
      refine (rankOf_r _ _ _ HT.out).mono ?_
      rintro e _w ⟨rfl, rfl⟩
      go_wp2_with fail
      go_ret
      exact ⟨rfl, B0 _⟩
    · have hq : (t == 11) = false := by simpa using e
      obtain rfl : r = false := by rw [← hr]; simpa using e
      clear hr e hs
      go_enter Try.func46, Try.ntmps46
      go_wp2_with fail
      refine (rankOf_r _ _ _ HT.out).mono ?_
      rintro e _w ⟨rfl, rfl⟩
      go_wp2_with fail
      go_ret
      exact ⟨rfl, B0 _⟩
  | (x, o) :: rest, ⟨b, q, e, _, h2, h3, _⟩ =>
    subst e
    obtain ⟨W0, hW0⟩ : ∃ W, W = w.alloc (.cells #[.pointer (some ⟨b, 0, none⟩)] 51) := ⟨_, rfl⟩
    have B1 : Below w.heap.size w W0 := by rw [hW0]; exact B0 _
    have G : W0.heap[w.heap.size]? = some (.cells #[.pointer (some ⟨b, 0, none⟩)] 51 (0, 0)) := by rw [hW0]; exact heap_newP _ _
    obtain ⟨k0, k1, k2⟩ := cells3 ((B1.block b (by omega)).trans h3)
    rw [hW0] at k0 k1 k2 B1
    have hr2 : (o && stepB x c) = r := hr
    clear hW0 h3 G hr B0
    cases o with
    | false =>
      obtain rfl : r = false := hr2.symm
      clear hr2
      go_enter Try.func46, Try.ntmps46
      go_wp2_with fail
      go_ret
      exact ⟨rfl, B1⟩
    | true =>
      have HS := Lib.hid (fun wx => liesOn_r x c wx r (by simpa using hr2))
      clear hr2
      go_enter Try.func46, Try.ntmps46
      go_wp2_with fail
      refine (HS.out _).mono ?_
      rintro e _w ⟨rfl, rfl⟩
      go_wp2_with fail
      go_ret
      exact ⟨rfl, B1⟩

set_option maxRecDepth 100000 in
set_option maxHeartbeats 2000000 in
theorem mayStack_any (v : Value) (D : MPile) (c : Int) (w : World) (h : RdPile w v D) (hf : D.Few) (r : Bool) (hr : mayStack D c = r) :
    Calls Try.prog 28 #[v, .int .i64 c] w fun e w' => e = .returned (.bool r) ∧ Below w.heap.size w w' := by
  have h00 := h
  obtain ⟨zs, H⟩ := D
  obtain ⟨v0, b0, rfl, h0, wf1⟩ := h
  have f0 : zs.length ≤ 1048576 := hf.1
  dsimp only at h0 wf1
  obtain ⟨p0, c0, e0, -⟩ := id h0
  subst e0
  have B0 := fun o => (Below.refl w.heap.size w).alloc (Nat.le_refl _) o
  have HB := Lib.hid (fun W w1 o (hW : W = w.alloc o) bb => below_box (w1 := w1) hW bb)
  have H00 := Lib.hid h00
  obtain ⟨n, hn⟩ : ∃ n, n = zs.length := ⟨_, rfl⟩
  have Hn := Lib.hid hn
  have HI : Hid (∀ wx, Below w.heap.size w wx → Calls Try.prog 43 #[.agg #[.slice p0 n c0, .int .i64 H]] wx fun e w' => e = .returned (.bool (pileOK ⟨zs, H⟩)) ∧ Below wx.heap.size wx w') := Lib.hid (fun wx hb => by
    rw [hn]; exact isPile_any _ ⟨zs, H⟩ wx (h00.below hb) hf _ rfl)
  have HHc : Hid (∀ wx, Below w.heap.size w wx → Calls Try.prog 45 #[.slice p0 n c0, .int .i64 c] wx fun e w' => e = .returned (.bool (hasI zs c)) ∧ wx = w') := Lib.hid (fun wx hb => by
    rw [hn]; exact hasCard_any _ zs b0 c wx (h0.below hb) (by omega))
  dsimp only
  rw [← hn] at f0 ⊢
  cases hp : pileOK ⟨zs, H⟩ with
  | false =>
    obtain rfl : r = false := by rw [← hr]; exact ms_0 hp
    rw [hp] at HI
    clear hp h00 h0 wf1 hf hn hr
    go_enter Try.func28, Try.ntmps28
    go_wp2_with fail
    refine (HI.out _ (B0 _)).mono ?_
    rintro e w1 ⟨rfl, bb⟩
    obtain ⟨B1, -⟩ := HB.out _ _ _ rfl bb
    clear bb
    go_wp2_with fail
    go_ret
    exact ⟨rfl, B1⟩
  | true =>
    rw [hp] at HI
    cases hc : isCard c with
    | false =>
      have HC := Lib.hid hc
      obtain rfl : r = false := by rw [← hr]; exact ms_1 hc
      clear hp h00 h0 wf1 hf hn hr hc
      go_enter Try.func28, Try.ntmps28
      go_wp2_with fail
      refine (HI.out _ (B0 _)).mono ?_
      rintro e w1 ⟨rfl, bb⟩
      obtain ⟨B1, -⟩ := HB.out _ _ _ rfl bb
      clear bb
      go_wp2_with fail
      refine (isCard_r _ _ _ HC.out).mono ?_
      rintro e _w ⟨rfl, rfl⟩
      go_wp2_with fail
      go_ret
      exact ⟨rfl, B1⟩
    | true =>
      have HC := Lib.hid hc
      cases hh : hasI zs c with
      | true =>
        rw [hh] at HHc
        obtain rfl : r = false := by rw [← hr]; exact ms_2 hh
        clear hp h00 h0 wf1 hf hn hr hc hh
        go_enter Try.func28, Try.ntmps28
        go_wp2_with fail
        refine (HI.out _ (B0 _)).mono ?_
        rintro e w1 ⟨rfl, bb⟩
        obtain ⟨B1, G1⟩ := HB.out _ _ _ rfl bb
        obtain ⟨k0, k1⟩ := SPile_cells G1
        clear bb G1
        go_wp2_with fail
        refine (isCard_r _ _ _ HC.out).mono ?_
        rintro e _w ⟨rfl, rfl⟩
        go_wp2_with fail
        refine (HHc.out _ B1).mono ?_
        rintro e _w ⟨rfl, rfl⟩
        go_wp2_with fail
        go_ret
        exact ⟨rfl, B1⟩
      | false =>
        rw [hh] at HHc
        obtain ⟨-, hH0, hH1⟩ := pile_t hp
        obtain ⟨K, rfl⟩ : ∃ K : Nat, H = K := ⟨H.toNat, by omega⟩
        have hK : K ≤ n := by omega
        have hr2 : takesB (layersOf zs K n) c = r := by rw [← hr, ms_3 hp hc hh, hn]

        have HSt : Hid (∀ wx, Below w.heap.size w wx → Calls Try.prog 33 #[.agg #[.slice p0 n c0, .int .i64 K]] wx fun e w' => ∃ top, e = .returned (.agg #[.pointer top]) ∧ IsStk w' wx.heap.size w'.heap.size (layersOf zs K n) top ∧ Below wx.heap.size wx w') := Lib.hid (fun wx hb => by
          have := stackOf_any _ zs K wx (H00.out.below hb) (by rw [← hn]; omega) (by rw [← hn]; exact hK)
          rw [← hn] at this
          exact this)
        have Hr2 := Lib.hid hr2
        clear hp h00 h0 wf1 hf hn hr hc hh hH0 hH1 hr2
        go_enter Try.func28, Try.ntmps28
        go_wp2_with fail
        refine (HI.out _ (B0 _)).mono ?_
        rintro e w1 ⟨rfl, bb⟩
        obtain ⟨B1, G1⟩ := HB.out _ _ _ rfl bb
        obtain ⟨k0, k1⟩ := SPile_cells G1
        clear bb G1
        go_wp2_with fail
        refine (isCard_r _ _ _ HC.out).mono ?_
        rintro e _w ⟨rfl, rfl⟩
        go_wp2_with fail
        refine (HHc.out _ B1).mono ?_
        rintro e _w ⟨rfl, rfl⟩
        go_wp2_with fail
        refine (HSt.out _ B1).mono ?_
        rintro e w2 ⟨top, rfl, hs, b2⟩
        have HO := Lib.hid (stackTakes_any _ _ top _ c w2 hs (Nat.le_refl _) r Hr2.out)
        have B2 := B1.trans (b2.mono B1.size)
        clear hs b2 k0 k1
        go_wp2_with fail
        refine HO.out.mono ?_
        rintro e w3 ⟨rfl, b3⟩
        have B3 := B2.trans (b3.mono B2.size)
        clear b3
        go_wp2_with fail
        go_ret
        exact ⟨rfl, B3⟩
set_option maxRecDepth 100000 in
set_option maxHeartbeats 2000000 in
theorem sMayStack_any (v : Value) (D : MPile) (c : Int) (w : World) (h : RdPile w v D) (hf : D.Few) (r : Bool) (hr : mayStack D c = r) :
    Calls Try.prog 26 #[v, .int .i64 c] w fun e w' => e = .returned (.bool r) ∧ Below w.heap.size w w' := by
  have h00 := h
  obtain ⟨zs, H⟩ := D
  obtain ⟨v0, b0, rfl, h0, wf1⟩ := h
  have f0 : zs.length ≤ 1048576 := hf.1
  dsimp only at h0 wf1
  obtain ⟨p0, c0, e0, -⟩ := id h0
  subst e0
  have B0 := fun o => (Below.refl w.heap.size w).alloc (Nat.le_refl _) o
  have HB := Lib.hid (fun W w1 o (hW : W = w.alloc o) bb => below_box (w1 := w1) hW bb)
  have H00 := Lib.hid h00
  obtain ⟨n, hn⟩ : ∃ n, n = zs.length := ⟨_, rfl⟩
  have Hn := Lib.hid hn
  have HI : Hid (∀ wx, Below w.heap.size w wx → Calls Try.prog 36 #[.agg #[.slice p0 n c0, .int .i64 H]] wx fun e w' => e = .returned (.bool (pileOK ⟨zs, H⟩)) ∧ Below wx.heap.size wx w') := Lib.hid (fun wx hb => by
    rw [hn]; exact sIsPile_any _ ⟨zs, H⟩ wx (h00.below hb) hf _ rfl)
  have HHc : Hid (∀ wx, Below w.heap.size w wx → Calls Try.prog 38 #[.slice p0 n c0, .int .i64 c] wx fun e w' => e = .returned (.bool (hasI zs c)) ∧ wx = w') := Lib.hid (fun wx hb => by
    rw [hn]; exact sHasCard_any _ zs b0 c wx (h0.below hb) (by omega))
  dsimp only
  rw [← hn] at f0 ⊢
  cases hp : pileOK ⟨zs, H⟩ with
  | false =>
    obtain rfl : r = false := by rw [← hr]; exact ms_0 hp
    rw [hp] at HI
    clear hp h00 h0 wf1 hf hn hr
    go_enter Try.func26, Try.ntmps26
    go_wp2_with fail
    refine (HI.out _ (B0 _)).mono ?_
    rintro e w1 ⟨rfl, bb⟩
    obtain ⟨B1, -⟩ := HB.out _ _ _ rfl bb
    clear bb
    go_wp2_with fail
    go_ret
    exact ⟨rfl, B1⟩
  | true =>
    rw [hp] at HI
    cases hc : isCard c with
    | false =>
      have HC := Lib.hid hc
      obtain rfl : r = false := by rw [← hr]; exact ms_1 hc
      clear hp h00 h0 wf1 hf hn hr hc
      go_enter Try.func26, Try.ntmps26
      go_wp2_with fail
      refine (HI.out _ (B0 _)).mono ?_
      rintro e w1 ⟨rfl, bb⟩
      obtain ⟨B1, -⟩ := HB.out _ _ _ rfl bb
      clear bb
      go_wp2_with fail
      refine (sIsCard_r _ _ _ HC.out).mono ?_
      rintro e _w ⟨rfl, rfl⟩
      go_wp2_with fail
      go_ret
      exact ⟨rfl, B1⟩
    | true =>
      have HC := Lib.hid hc
      cases hh : hasI zs c with
      | true =>
        rw [hh] at HHc
        obtain rfl : r = false := by rw [← hr]; exact ms_2 hh
        clear hp h00 h0 wf1 hf hn hr hc hh
        go_enter Try.func26, Try.ntmps26
        go_wp2_with fail
        refine (HI.out _ (B0 _)).mono ?_
        rintro e w1 ⟨rfl, bb⟩
        obtain ⟨B1, G1⟩ := HB.out _ _ _ rfl bb
        obtain ⟨k0, k1⟩ := SPile_cells G1
        clear bb G1
        go_wp2_with fail
        refine (sIsCard_r _ _ _ HC.out).mono ?_
        rintro e _w ⟨rfl, rfl⟩
        go_wp2_with fail
        refine (HHc.out _ B1).mono ?_
        rintro e _w ⟨rfl, rfl⟩
        go_wp2_with fail
        go_ret
        exact ⟨rfl, B1⟩
      | false =>
        rw [hh] at HHc
        obtain ⟨-, hH0, hH1⟩ := pile_t hp
        obtain ⟨K, rfl⟩ : ∃ K : Nat, H = K := ⟨H.toNat, by omega⟩
        have hK : K ≤ n := by omega
        have hr2 : takesB (layersOf zs K n) c = r := by rw [← hr, ms_3 hp hc hh, hn]

        by_cases hn0 : n = 0
        · subst hn0
          rw [show layersOf zs K 0 = [] from rfl, takes_none] at hr2
          obtain ⟨t, ht⟩ : ∃ t, rankOf c = t := ⟨_, rfl⟩
          rw [ht] at hr2
          have HT := Lib.hid ht
          clear hp h00 h0 wf1 hf hn hr hc hh hH0 hH1 ht
          by_cases e : t = 11
          · have hq : (t == 11) = true := by simpa using e
            obtain rfl : r = true := by rw [← hr2]; simpa using e
            clear hr2 e
            go_enter Try.func26, Try.ntmps26
            go_wp2_with fail
            refine (HI.out _ (B0 _)).mono ?_
            rintro e w1 ⟨rfl, bb⟩
            obtain ⟨B1, G1⟩ := HB.out _ _ _ rfl bb
            obtain ⟨k0, k1⟩ := SPile_cells G1
            clear bb G1
            go_wp2_with fail
            refine (sIsCard_r _ _ _ HC.out).mono ?_
            rintro e _w ⟨rfl, rfl⟩
            go_wp2_with fail
            refine (HHc.out _ B1).mono ?_
            rintro e _w ⟨rfl, rfl⟩
            go_wp2_with fail
            refine (sRankOf_r _ _ _ HT.out).mono ?_
            rintro e _w ⟨rfl, rfl⟩
            go_wp2_with fail
            go_ret
            exact ⟨rfl, B1⟩
          · have hq : (t == 11) = false := by simpa using e
            obtain rfl : r = false := by rw [← hr2]; simpa using e
            clear hr2 e
            go_enter Try.func26, Try.ntmps26
            go_wp2_with fail
            refine (HI.out _ (B0 _)).mono ?_
            rintro e w1 ⟨rfl, bb⟩
            obtain ⟨B1, G1⟩ := HB.out _ _ _ rfl bb
            obtain ⟨k0, k1⟩ := SPile_cells G1
            clear bb G1
            go_wp2_with fail
            refine (sIsCard_r _ _ _ HC.out).mono ?_
            rintro e _w ⟨rfl, rfl⟩
            go_wp2_with fail
            refine (HHc.out _ B1).mono ?_
            rintro e _w ⟨rfl, rfl⟩
            go_wp2_with fail
            refine (sRankOf_r _ _ _ HT.out).mono ?_
            rintro e _w ⟨rfl, rfl⟩
            go_wp2_with fail
            go_ret
            exact ⟨rfl, B1⟩
        · obtain ⟨m, rfl⟩ : ∃ m, n = m + 1 := ⟨n - 1, by omega⟩
          have hq0 : ((m : Int) + 1 == 0) = false := by simp; omega
          rw [takes_some] at hr2
          have HTop : Hid (∀ wx, Below w.heap.size w wx → Calls Try.prog 41 #[.agg #[.slice p0 (m + 1) c0, .int .i64 K]] wx fun e w' => e = .returned (.int .i64 (zs.getD m 0)) ∧ Below wx.heap.size wx w') := Lib.hid (fun wx hb => by
            have := sTopOf_any _ ⟨zs, (K : Int)⟩ wx (H00.out.below hb) hf (zs.getD m 0) (top_at m hn.symm)
            dsimp only at this
            rw [← hn] at this
            exact this)
          obtain ⟨x, hx⟩ : ∃ x, x = zs.getD m 0 := ⟨_, rfl⟩
          rw [← hx] at HTop hr2
          clear hp h00 h0 wf1 hf hn hr hc hh hH0 hH1 hx
          by_cases hKm : K ≤ m
          · have d1 : decide (K < m + 1) = true := decide_eq_true (by omega)
            have d2 : (K : Int) < (m : Int) + 1 := by omega
            have HS := Lib.hid (fun wx => sStep_r x c wx r (by rw [decide_eq_true hKm, Bool.true_and] at hr2; exact hr2))
            clear hr2
            go_enter Try.func26, Try.ntmps26
            go_wp2_with fail
            refine (HI.out _ (B0 _)).mono ?_
            rintro e w1 ⟨rfl, bb⟩
            obtain ⟨B1, G1⟩ := HB.out _ _ _ rfl bb
            obtain ⟨k0, k1⟩ := SPile_cells G1
            have HG1 := Lib.hid G1
            have lG1 := (Array.getElem?_eq_some_iff.1 G1).1
            clear bb G1
            go_wp2_with fail
            refine (sIsCard_r _ _ _ HC.out).mono ?_
            rintro e _w ⟨rfl, rfl⟩
            go_wp2_with fail
            refine (HHc.out _ B1).mono ?_
            rintro e _w ⟨rfl, rfl⟩
            go_wp2_with fail
            refine (HTop.out _ B1).mono ?_
            rintro e w2 ⟨rfl, b2⟩
            have B2 := B1.trans (b2.mono B1.size)
            clear b2 k0 k1
            go_wp2_with fail
            refine (HS.out _).mono ?_
            rintro e _w ⟨rfl, rfl⟩
            go_wp2_with fail
            go_ret
            exact ⟨rfl, B2⟩
          · have d1 : decide (K < m + 1) = false := decide_eq_false (by omega)
            have d2 : ¬ (K : Int) < (m : Int) + 1 := by omega
            obtain rfl : r = false := by rw [← hr2, decide_eq_false hKm]; rfl
            clear hr2
            go_enter Try.func26, Try.ntmps26
            go_wp2_with fail
            refine (HI.out _ (B0 _)).mono ?_
            rintro e w1 ⟨rfl, bb⟩
            obtain ⟨B1, G1⟩ := HB.out _ _ _ rfl bb
            obtain ⟨k0, k1⟩ := SPile_cells G1
            clear bb G1
            go_wp2_with fail
            refine (sIsCard_r _ _ _ HC.out).mono ?_
            rintro e _w ⟨rfl, rfl⟩
            go_wp2_with fail
            refine (HHc.out _ B1).mono ?_
            rintro e _w ⟨rfl, rfl⟩
            go_wp2_with fail
            go_ret
            exact ⟨rfl, B1⟩
end Go.Proofs.Ytoeobpdgfhgpiaa
