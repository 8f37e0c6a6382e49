/-
  The key stream, by contract.
-/
import Derived.Test.YtchpkpajnjcnbaaDoorHash
import Derived.Test.YtchpkpajnjcnbaaDoorMarksB
import Derived.Deep.RegionWith
import Derived.OneCell
namespace Go.Proofs.YtchpkpajnjcnbaaDoor
open Go.RowKit

def keyAt (c : Int) (i : Nat) : Int := keyedI c [(i : Int)] % 256
theorem keyAt_bd (c : Int) (i : Nat) : 0 ≤ keyAt c i ∧ keyAt c i < 256 := by unfold keyAt; omega
theorem keyed_bd (c : Int) (zs : List Int) : 0 ≤ keyedI c zs ∧ keyedI c zs < 2147483647 := foldV_bd _ _

set_option maxRecDepth 100000 in
set_option maxHeartbeats 400000 in
theorem stream_any (s0 s1 : Addr) (kb ib : Nat) (c : Int) (i : Nat) (w : World) (hk : w.heap[kb]? = some (.cells #[.int .i64 c] 3 (0, 0))) (hi : w.heap[ib]? = some (.cells #[.int .i64 i] 3 (0, 0)))
    (wc : (Lit.int .i64 c).wf = true) (hi2 : i ≤ 1099511627776) (hS : Sent s0 s1 w) :
    Calls Tryd.prog 56 #[.pointer (some ⟨kb, 0, none⟩), .pointer (some ⟨ib, 0, none⟩)] w fun e w' => e = .returned (.int .u8 (keyAt c i)) ∧ w.grownBy w' (some ib) ∧ w'.heap[ib]? = some (.cells #[.int .i64 ((i : Int) + 1)] 3 (0, 0)) := by
  have c1 := cell_of_one hk
  have c2 := cell_of_one hi
  have hlt := lt_of_block hi
  have hB : Below w.heap.size w (w.alloc (.cells #[.int .i64 i] 3)) := (Below.refl _ _).alloc (Nat.le_refl _) _
  have wi : (Lit.int .i64 (i : Int)).wf = true := WalkArith.wf_i64 (by omega)
  have hown : (w.alloc (.cells #[.int .i64 i] 3)).ownsRow w.heap.size 3 1 (.slice (some ⟨w.heap.size, 0, none⟩) 1 1) [(i : Int)].length ([(i : Int)].map (Value.int .i64)) :=
    World.ownsRow_lit (base := w.heap.size) (e := 3) (size := 1) w #[.int .i64 i] 1 (Nat.le_refl _) (by unfold maxLen; omega) rfl
  obtain ⟨b1, -, hw1⟩ := own_wr hown (by intro x hx; simp at hx; subst hx; exact wi)
  have Hc := Lib.hid (keyedHash_any s0 s1 c _ [(i : Int)] b1 _ hw1.rd (by simp) wc (hS.below hB (Nat.le_refl _)))
  have hkb := keyed_bd c [(i : Int)]
  obtain ⟨k0, k1⟩ := hkb
  have HK : Hid (keyAt c i = keyedI c [(i : Int)] % 256) := Lib.hid rfl
  have Hi := Lib.hid hi
  have Hlt := Lib.hid hlt
  generalize keyedI c [(i : Int)] = K at *
  clear hown hw1 wc hS wi hi hlt hk
  go_enter Tryd.func56, Tryd.ntmps56
  go_wp2_with fail
  refine Hc.out.mono ?_
  rintro e w1 ⟨rfl, hB2⟩
  have hB3 := hB.trans (hB2.mono hB.size)
  have hi3 : w1.heap[ib]? = some (.cells #[.int .i64 i] 3 (0, 0)) := by rw [hB3.block ib Hlt.out]; exact Hi.out
  have c3 := cell_of_one hi3
  have f3 := free_of_one hi3
  have Hi3 := Lib.hid hi3
  clear hB2 hi3
  go_wp2_with fail
  go_ret
  exact ⟨by rw [HK.out]; rfl, grown_store ⟨hB3.os, hB3.tape, hB3.output, hB3.size, fun k hk _ => hB3.block k hk⟩ ⟨ib, 0, none⟩ rfl _, one_setCell Hi3.out⟩

theorem keyStream_any (c : Int) (w : World) :
    Calls Tryd.prog 40 #[.int .i64 c] w fun e w' => e = .returned (.func (.func 56) #[] #[.pointer (some ⟨w.heap.size, 0, none⟩), .pointer (some ⟨w.heap.size + 1, 0, none⟩)]) ∧ w' = (w.alloc (.cells #[.int .i64 c] 3)).alloc (.cells #[.int .i64 0] 3) := by
  go_enter Tryd.func40, Tryd.ntmps40
  go_wp2_with fail
  go_ret
  exact ⟨rfl, rfl⟩

/-- What is encrypted, what is decrypted. -/
def encAt (c : Int) (zs : List Int) (i : Nat) : Int := (zs.getD i 0 + keyAt c i) % 256
def encR (c : Int) (zs : List Int) (n : Nat) : List Int := (List.range n).map (encAt c zs)
def decAt (c : Int) (zs : List Int) (i : Nat) : Int := (zs.getD i 0 - keyAt c i) % 256
def decR (c : Int) (zs : List Int) (n : Nat) : List Int := (List.range n).map (decAt c zs)
theorem encR_len (c : Int) (zs : List Int) (n : Nat) : (encR c zs n).length = n := by simp [encR]
theorem decR_len (c : Int) (zs : List Int) (n : Nat) : (decR c zs n).length = n := by simp [decR]
theorem u8_wf {x : Int} (h0 : 0 ≤ x) (h1 : x < 256) : (Lit.int .u8 x).wf = true := by
  simp [Lit.wf, IntKind.min, IntKind.max, IntKind.signed, IntKind.bits]; omega
theorem encR_wf (c : Int) (zs : List Int) (n : Nat) : ∀ x ∈ encR c zs n, (Lit.int .u8 x).wf = true := by
  intro x hx
  simp only [encR, List.mem_map] at hx
  obtain ⟨i, _, rfl⟩ := hx
  unfold encAt
  exact u8_wf (by omega) (by omega)
theorem decR_wf (c : Int) (zs : List Int) (n : Nat) : ∀ x ∈ decR c zs n, (Lit.int .u8 x).wf = true := by
  intro x hx
  simp only [decR, List.mem_map] at hx
  obtain ⟨i, _, rfl⟩ := hx
  unfold decAt
  exact u8_wf (by omega) (by omega)
set_option maxRecDepth 100000 in
set_option maxHeartbeats 1000000 in
theorem copyBytes_own (v : Value) (zs : List Int) (b : Nat) (w : World) (h : RdAt .u8 w v zs b) (hl : zs.length ≤ 1099511627776) :
    Calls Tryd.prog 41 #[v] w fun e w' => ∃ v', e = .returned v' ∧ w'.ownsRow w.heap.size 5 1 v' zs.length (zs.map (Value.int .u8)) ∧ Below w.heap.size w w' := by
  obtain ⟨i0, hi, hz0, hz1, hz2⟩ := info_parts info_u8
  have hown0 := World.ownsRow_lit (base := w.heap.size) (e := 5) (size := 1) w #[] 0 (Nat.le_refl _) (Nat.zero_le _) rfl
  have ha : RdAt .u8 (w.alloc (.cells #[] 5)) v zs b := h.below ((Below.refl _ _).alloc (Nat.le_refl _) _)
  obtain ⟨p0, cap0, hv0, -⟩ := id h
  go_enter Tryd.func41, Tryd.ntmps41
  subst hv0
  go_wp2_with (at_builtin; refine wpList_append_rd _ rfl _ _ 29 rfl w.heap.size 5 i0 (.int .u8 0) 1 Tryd.underlying29 hi hz0 hz1 hz2 rfl _ _ _ rfl hown0 .u8 _ zs b rfl ha ?d3 ?d4 (by simp) ?_)
  case d3 => unfold maxLen; omega
  case d4 => omega
  intro v1 w1 hown hgr
  have hb1 : Below w.heap.size w w1 := ((Below.refl _ _).alloc (Nat.le_refl _) _).grown hgr (by simp) (own_block hown0)
  try simp only [Nat.zero_add, List.nil_append] at hown
  clear hgr ha hown0
  go_wp2_with fail
  go_ret
  exact ⟨_, rfl, hown, hb1⟩

set_option maxRecDepth 100000 in
set_option maxHeartbeats 1000000 in
theorem encrypt_any (s0 s1 : Addr) (c : Int) (v : Value) (zs : List Int) (b : Nat) (w : World) (h : RdAt .u8 w v zs b) (hl : zs.length ≤ 1048576) (wc : (Lit.int .i64 c).wf = true) (hS : Sent s0 s1 w) :
    Calls Tryd.prog 19 #[.int .i64 c, v] w fun e w' => ∃ v' b', e = .returned v' ∧ w.heap.size ≤ b' ∧ WrAt .u8 w' v' (encR c zs zs.length) b' ∧ Below w.heap.size w w' := by
  have hwf := h.wf
  have HB0 : Hid (∀ o o', Below w.heap.size w ((w.alloc o).alloc o')) := Lib.hid (fun o o' => ((Below.refl _ _).alloc (Nat.le_refl _) o).alloc (by simp) o')
  have H := Lib.hid h
  have HSent := Lib.hid hS
  have Hwc := Lib.hid wc
  obtain ⟨p0, cap0, rfl, -⟩ := id h
  obtain ⟨n, hn⟩ : ∃ n, n = zs.length := ⟨_, rfl⟩
  have Hn := Lib.hid hn
  have hn2 : n ≤ 1048576 := by omega
  clear h hS wc
  go_enter Tryd.func19, Tryd.ntmps19
  go_wp2_with fail
  refine (keyStream_any c w).mono ?_
  rintro e w1 ⟨rfl, hw1⟩
  have hB1 : Below w.heap.size w w1 := by rw [hw1]; exact HB0.out _ _
  have hk1 : w1.heap[w.heap.size]? = some (.cells #[.int .i64 c] 3 (0, 0)) := by
    rw [hw1]
    show ((w.heap.push _).push _)[w.heap.size]? = _
    rw [Array.getElem?_push_lt (by simp), Array.getElem_push_eq]
  have hi1 : w1.heap[w.heap.size + 1]? = some (.cells #[.int .i64 (0 : Nat)] 3 (0, 0)) := by
    rw [hw1]
    show ((w.heap.push _).push _)[w.heap.size + 1]? = _
    have : w.heap.size + 1 = (w.heap.push (.cells #[.int .i64 c] 3 (0, 0))).size := by simp
    rw [this, Array.getElem?_push_size]
    rfl
  have hsz1 : w1.heap.size = w.heap.size + 2 := by rw [hw1]; simp
  clear hw1
  go_wp2_with fail
  refine (copyBytes_own _ zs b w1 (H.out.below hB1) (by omega)).mono ?_
  rintro e w2 ⟨v2, rfl, hown, hB2⟩
  obtain ⟨g, hg, hwr⟩ := own_wr hown hwf
  clear hown
  have hk2 : w2.heap[w.heap.size]? = some (.cells #[.int .i64 c] 3 (0, 0)) := by rw [hB2.block _ (by omega)]; exact hk1
  have hi2 : w2.heap[w.heap.size + 1]? = some (.cells #[.int .i64 (0 : Nat)] 3 (0, 0)) := by rw [hB2.block _ (by omega)]; exact hi1
  have hB3 := hB1.trans (hB2.mono hB1.size)
  clear hk1 hi1 hB1 hB2
  rcases hwr.open with ⟨hz, a2, cap2, rfl, hcap2⟩ | ⟨hz, off, cap2, rfl, hcap2, hcc, hff⟩
  · have hn0 : n = 0 := by rw [hn, hz]; rfl
    subst hz
    go_wp2_with fail
    refine wp_loop_rounds 1 ?_
    rw [rounds_succ]
    go_wp2_with fail
    go_ret
    exact ⟨_, w.heap.size, rfl, Nat.le_refl _, WrAt.nil _ _ _ _ _ hcap2, hB3⟩
  · rw [← hn]
    have hg2 : w.heap.size + 2 ≤ g := by omega
    have hgs : g < w2.heap.size := hwr.rd.lt hz
    have hcap3 := Lib.hid hcap2
    clear hwr hz hcap2
    obtain ⟨kb, hkb⟩ : ∃ kb, kb = w.heap.size := ⟨_, rfl⟩
    obtain ⟨ib, hib⟩ : ∃ ib, ib = w.heap.size + 1 := ⟨_, rfl⟩
    rw [← hib] at hi2 ⊢
    rw [← hkb] at hk2
    have hkb2 : kb < g ∧ ib < g ∧ kb ≠ ib := by omega
    obtain ⟨hkg, hig, hki⟩ := hkb2
    have HE : Hid (∀ m, encR c zs m = (List.range m).map (encAt c zs)) := Lib.hid (fun _ => rfl)
    have Hib := Lib.hid hib
    have Hkb := Lib.hid hkb
    rw [← hkb]
    rw [← hn] at hff
    have hcc0 : Cells .u8 w2 g off (encR c zs 0 ++ zs.drop 0) := by simpa [encR] using hcc
    have Hcc0 := Lib.hid hcc0
    have hS2 : Hid (∀ wx, Below w.heap.size w wx → Sent s0 s1 wx) := Lib.hid (fun wx hb => HSent.out.below hb (Nat.le_refl _))
    clear hcc0 hcc hn hkb hib hl
    have hcap4 : n ≤ cap2 ∧ cap2 ≤ maxLen := by rw [Hn.out]; exact hcap3.out
    go_wp2_with fail
    go_loopw [14] (fun i wr => ∃ k : Nat, k ≤ n ∧ i = .int .i64 k ∧ Below w.heap.size w wr ∧ g < wr.heap.size ∧ wr.heap[kb]? = some (.cells #[.int .i64 c] 3 (0, 0)) ∧ wr.heap[ib]? = some (.cells #[.int .i64 k] 3 (0, 0)) ∧ Hid (Cells .u8 wr g off (encR c zs k ++ zs.drop k)) ∧ Hid (Free wr g off n)) (fun i _ => n - (intOf i).toNat)
    case atStart => exact ⟨0, Nat.zero_le _, rfl, hB3, hgs, hk2, hi2, Hcc0, Lib.hid hff⟩
    case round =>
      clear hB3 hk2 hi2 Hcc0 hff hgs
      obtain ⟨k, hk, rfl, hB, hgs, hkw, hiw, hC, hF⟩ := hrel
      by_cases hlt : k < n
      · have hkz : k < zs.length := by rw [← Hn.out]; exact hlt
        have hlen : (encR c zs k ++ zs.drop k).length = zs.length := by simp [encR]; omega
        obtain ⟨x, hx⟩ : ∃ x, Hid (x = zs.getD k 0) := ⟨_, Lib.hid rfl⟩
        have hxe : (encR c zs k ++ zs.drop k)[k]'(by rw [hlen]; exact hkz) = x := by
          rw [List.getElem_append_right (by rw [encR_len]; exact Nat.le_refl _), hx.out]
          simp [encR_len, List.getD, hkz]
        have hc1 : wr.cell? ⟨g, off + k, none⟩ = some (.int .u8 x) := by rw [hC.out k (by rw [hlen]; exact hkz), hxe]
        have hf1 : wr.frozen? ⟨g, off + k, none⟩ = false := hF.out k hlt
        have hxb : 0 ≤ x ∧ x ≤ 255 := by
          have : x ∈ zs := by rw [hx.out]; simp [List.getD, hkz]
          exact bounds_u8 (hwf x this)
        obtain ⟨hx0, hx1⟩ := hxb
        have hKb := keyAt_bd c k
        obtain ⟨hK0, hK1⟩ := hKb
        have Hcall : Hid (∀ wx, wx.heap = wr.heap → Below w.heap.size w wx → Calls Tryd.prog 56 #[.pointer (some ⟨kb, 0, none⟩), .pointer (some ⟨ib, 0, none⟩)] wx fun e w' => e = .returned (.int .u8 (keyAt c k)) ∧ wx.grownBy w' (some ib) ∧ w'.heap[ib]? = some (.cells #[.int .i64 ((k : Int) + 1)] 3 (0, 0))) := Lib.hid (fun wx he hb => stream_any s0 s1 kb ib c k wx (by rw [he]; exact hkw) (by rw [he]; exact hiw) Hwc.out (by omega) (hS2.out wx hb))
        have Hst : Hid (encAt c zs k = IntKind.u8.wrap (x + keyAt c k)) := Lib.hid (by unfold encAt; rw [hx.out, IntKind.wrap_u8])
        generalize keyAt c k = K at *
        have Hkb3 : Hid (∀ w3 : World, wr.drew.grownBy w3 (some ib) → w3.heap[g]? = wr.heap[g]?) := Lib.hid (fun w3 h => h.block g hgs (fun e => by have := Option.some.inj e; omega))
        have Hkc : Hid (∀ w3 : World, wr.drew.grownBy w3 (some ib) → w3.cell? ⟨g, off + k, none⟩ = some (.int .u8 x)) := Lib.hid (fun w3 h => by rw [World.cell?_of_block (w := wr) (a := ⟨g, off + k, none⟩) (Hkb3.out w3 h)]; exact hc1)
        have Hkf : Hid (∀ w3 : World, wr.drew.grownBy w3 (some ib) → w3.frozen? ⟨g, off + k, none⟩ = false) := Lib.hid (fun w3 h => by rw [World.frozen?_of_block (w := wr) (a := ⟨g, off + k, none⟩) (Hkb3.out w3 h)]; exact hf1)
        clear hxe hlen
        go_wp2_with fail
        go_region_with (go_at_call 56; refine (Hcall.out wr.drew rfl hB.drew).mono ?_; rintro e w3 ⟨rfl, hg3, hi3⟩; have hc3 := Hkc.out w3 hg3; have hf3 := Hkf.out w3 hg3)
        all_goals
          have hC3 : Cells .u8 w3 g off (encR c zs k ++ zs.drop k) := fun j hj => by
            rw [World.cell?_of_block (w := wr) (a := ⟨g, off + j, none⟩) (Hkb3.out w3 hg3)]; exact hC.out j hj
          have hF3 : Free w3 g off n := fun j hj => by
            rw [World.frozen?_of_block (w := wr) (a := ⟨g, off + j, none⟩) (Hkb3.out w3 hg3)]; exact hF.out j hj
          have hst := hC3.store (j := k) (by simp [encR]; omega) (IntKind.u8.wrap (x + K))
          have hms := marks_step (f := fun _ m => encR c zs m) (g := encAt c zs) (k := 0) (fun _ => rfl) hkz
          rw [Hst.out] at hms
          rw [hms] at hst
          have Hs := Lib.hid hst
          have Hf := Lib.hid (hF3.store ⟨g, off + k, none⟩ (.int .u8 (IntKind.u8.wrap (x + K))))
          have hB4 : Below w.heap.size w w3 := hB.drew.grown hg3 hB.size (fun j hj => by have := Option.some.inj hj; rw [← this, Hib.out]; omega)
          have hB5 := Lib.hid (hB4.setCell (p := ⟨g, off + k, none⟩) (show w.heap.size ≤ g by omega) (.int .u8 (IntKind.u8.wrap (x + K))))
          have hk5 : Hid ((w3.setCell ⟨g, off + k, none⟩ (.int .u8 (IntKind.u8.wrap (x + K)))).heap[kb]? = some (.cells #[.int .i64 c] 3 (0, 0))) := Lib.hid (by
            rw [Below.heap_setCell _ _ _ _ (by show kb ≠ g; omega), hg3.block kb (by show kb < wr.heap.size; omega) (fun e => by have := Option.some.inj e; omega)]; exact hkw)
          have hi5 : Hid ((w3.setCell ⟨g, off + k, none⟩ (.int .u8 (IntKind.u8.wrap (x + K)))).heap[ib]? = some (.cells #[.int .i64 ((k + 1 : Nat) : Int)] 3 (0, 0))) := Lib.hid (by
            rw [Below.heap_setCell _ _ _ _ (by show ib ≠ g; omega)]; exact hi3)
          have hg5 : Hid (g < (w3.setCell ⟨g, off + k, none⟩ (.int .u8 (IntKind.u8.wrap (x + K)))).heap.size) := Lib.hid (by
            have := hg3.size
            simp [World.setCell]
            exact Nat.lt_of_lt_of_le hgs this)
          clear hC3 hF3 hst hms hB4
          go_wp2_with fail
          go_roundw
          case rel => exact ⟨k + 1, by omega, by go_num, hB5.out, hg5.out, hk5.out, hi5.out, Hs, Hf⟩
          case measure => simp [intOf]; omega
      · obtain rfl : k = n := by omega
        have hfin : Hid (WrAt .u8 wr (.slice (some ⟨g, off, none⟩) k cap2) (encR c zs zs.length) g) := Lib.hid (by
          have hc := hC.out
          have e : zs.drop k = [] := List.drop_eq_nil_of_le (by rw [Hn.out]; exact Nat.le_refl _)
          rw [e, List.append_nil] at hc
          rw [← Hn.out]
          have h1 := WrAt.of cap2 (by rw [encR_len]; exact hcap4) (encR_wf c zs k) hc (by rw [encR_len]; exact hF.out)
          rw [encR_len] at h1
          exact h1)
        go_wp2_with fail
        go_ret
        exact ⟨_, g, rfl, by omega, hfin.out, hB⟩
set_option maxRecDepth 100000 in
set_option maxHeartbeats 1000000 in
theorem decrypt_any (s0 s1 : Addr) (c : Int) (v : Value) (zs : List Int) (b : Nat) (w : World) (h : RdAt .u8 w v zs b) (hl : zs.length ≤ 1048576) (wc : (Lit.int .i64 c).wf = true) (hS : Sent s0 s1 w) :
    Calls Tryd.prog 24 #[.int .i64 c, v] w fun e w' => ∃ v' b', e = .returned v' ∧ w.heap.size ≤ b' ∧ WrAt .u8 w' v' (decR c zs zs.length) b' ∧ Below w.heap.size w w' := by
  have hwf := h.wf
  have HB0 : Hid (∀ o o', Below w.heap.size w ((w.alloc o).alloc o')) := Lib.hid (fun o o' => ((Below.refl _ _).alloc (Nat.le_refl _) o).alloc (by simp) o')
  have H := Lib.hid h
  have HSent := Lib.hid hS
  have Hwc := Lib.hid wc
  obtain ⟨p0, cap0, rfl, -⟩ := id h
  obtain ⟨n, hn⟩ : ∃ n, n = zs.length := ⟨_, rfl⟩
  have Hn := Lib.hid hn
  have hn2 : n ≤ 1048576 := by omega
  clear h hS wc
  go_enter Tryd.func24, Tryd.ntmps24
  go_wp2_with fail
  refine (keyStream_any c w).mono ?_
  rintro e w1 ⟨rfl, hw1⟩
  have hB1 : Below w.heap.size w w1 := by rw [hw1]; exact HB0.out _ _
  have hk1 : w1.heap[w.heap.size]? = some (.cells #[.int .i64 c] 3 (0, 0)) := by
    rw [hw1]
    show ((w.heap.push _).push _)[w.heap.size]? = _
    rw [Array.getElem?_push_lt (by simp), Array.getElem_push_eq]
  have hi1 : w1.heap[w.heap.size + 1]? = some (.cells #[.int .i64 (0 : Nat)] 3 (0, 0)) := by
    rw [hw1]
    show ((w.heap.push _).push _)[w.heap.size + 1]? = _
    have : w.heap.size + 1 = (w.heap.push (.cells #[.int .i64 c] 3 (0, 0))).size := by simp
    rw [this, Array.getElem?_push_size]
    rfl
  have hsz1 : w1.heap.size = w.heap.size + 2 := by rw [hw1]; simp
  clear hw1
  go_wp2_with fail
  refine (copyBytes_own _ zs b w1 (H.out.below hB1) (by omega)).mono ?_
  rintro e w2 ⟨v2, rfl, hown, hB2⟩
  obtain ⟨g, hg, hwr⟩ := own_wr hown hwf
  clear hown
  have hk2 : w2.heap[w.heap.size]? = some (.cells #[.int .i64 c] 3 (0, 0)) := by rw [hB2.block _ (by omega)]; exact hk1
  have hi2 : w2.heap[w.heap.size + 1]? = some (.cells #[.int .i64 (0 : Nat)] 3 (0, 0)) := by rw [hB2.block _ (by omega)]; exact hi1
  have hB3 := hB1.trans (hB2.mono hB1.size)
  clear hk1 hi1 hB1 hB2
  rcases hwr.open with ⟨hz, a2, cap2, rfl, hcap2⟩ | ⟨hz, off, cap2, rfl, hcap2, hcc, hff⟩
  · have hn0 : n = 0 := by rw [hn, hz]; rfl
    subst hz
    go_wp2_with fail
    refine wp_loop_rounds 1 ?_
    rw [rounds_succ]
    go_wp2_with fail
    go_ret
    exact ⟨_, w.heap.size, rfl, Nat.le_refl _, WrAt.nil _ _ _ _ _ hcap2, hB3⟩
  · rw [← hn]
    have hg2 : w.heap.size + 2 ≤ g := by omega
    have hgs : g < w2.heap.size := hwr.rd.lt hz
    have hcap3 := Lib.hid hcap2
    clear hwr hz hcap2
    obtain ⟨kb, hkb⟩ : ∃ kb, kb = w.heap.size := ⟨_, rfl⟩
    obtain ⟨ib, hib⟩ : ∃ ib, ib = w.heap.size + 1 := ⟨_, rfl⟩
    rw [← hib] at hi2 ⊢
    rw [← hkb] at hk2
    have hkb2 : kb < g ∧ ib < g ∧ kb ≠ ib := by omega
    obtain ⟨hkg, hig, hki⟩ := hkb2
    have HE : Hid (∀ m, decR c zs m = (List.range m).map (decAt c zs)) := Lib.hid (fun _ => rfl)
    have Hib := Lib.hid hib
    have Hkb := Lib.hid hkb
    rw [← hkb]
    rw [← hn] at hff
    have hcc0 : Cells .u8 w2 g off (decR c zs 0 ++ zs.drop 0) := by simpa [decR] using hcc
    have Hcc0 := Lib.hid hcc0
    have hS2 : Hid (∀ wx, Below w.heap.size w wx → Sent s0 s1 wx) := Lib.hid (fun wx hb => HSent.out.below hb (Nat.le_refl _))
    clear hcc0 hcc hn hkb hib hl
    have hcap4 : n ≤ cap2 ∧ cap2 ≤ maxLen := by rw [Hn.out]; exact hcap3.out
    go_wp2_with fail
    go_loopw [14] (fun i wr => ∃ k : Nat, k ≤ n ∧ i = .int .i64 k ∧ Below w.heap.size w wr ∧ g < wr.heap.size ∧ wr.heap[kb]? = some (.cells #[.int .i64 c] 3 (0, 0)) ∧ wr.heap[ib]? = some (.cells #[.int .i64 k] 3 (0, 0)) ∧ Hid (Cells .u8 wr g off (decR c zs k ++ zs.drop k)) ∧ Hid (Free wr g off n)) (fun i _ => n - (intOf i).toNat)
    case atStart => exact ⟨0, Nat.zero_le _, rfl, hB3, hgs, hk2, hi2, Hcc0, Lib.hid hff⟩
    case round =>
      clear hB3 hk2 hi2 Hcc0 hff hgs
      obtain ⟨k, hk, rfl, hB, hgs, hkw, hiw, hC, hF⟩ := hrel
      by_cases hlt : k < n
      · have hkz : k < zs.length := by rw [← Hn.out]; exact hlt
        have hlen : (decR c zs k ++ zs.drop k).length = zs.length := by simp [decR]; omega
        obtain ⟨x, hx⟩ : ∃ x, Hid (x = zs.getD k 0) := ⟨_, Lib.hid rfl⟩
        have hxe : (decR c zs k ++ zs.drop k)[k]'(by rw [hlen]; exact hkz) = x := by
          rw [List.getElem_append_right (by rw [decR_len]; exact Nat.le_refl _), hx.out]
          simp [decR_len, List.getD, hkz]
        have hc1 : wr.cell? ⟨g, off + k, none⟩ = some (.int .u8 x) := by rw [hC.out k (by rw [hlen]; exact hkz), hxe]
        have hf1 : wr.frozen? ⟨g, off + k, none⟩ = false := hF.out k hlt
        have hxb : 0 ≤ x ∧ x ≤ 255 := by
          have : x ∈ zs := by rw [hx.out]; simp [List.getD, hkz]
          exact bounds_u8 (hwf x this)
        obtain ⟨hx0, hx1⟩ := hxb
        have hKb := keyAt_bd c k
        obtain ⟨hK0, hK1⟩ := hKb
        have Hcall : Hid (∀ wx, wx.heap = wr.heap → Below w.heap.size w wx → Calls Tryd.prog 56 #[.pointer (some ⟨kb, 0, none⟩), .pointer (some ⟨ib, 0, none⟩)] wx fun e w' => e = .returned (.int .u8 (keyAt c k)) ∧ wx.grownBy w' (some ib) ∧ w'.heap[ib]? = some (.cells #[.int .i64 ((k : Int) + 1)] 3 (0, 0))) := Lib.hid (fun wx he hb => stream_any s0 s1 kb ib c k wx (by rw [he]; exact hkw) (by rw [he]; exact hiw) Hwc.out (by omega) (hS2.out wx hb))
        have Hst : Hid (decAt c zs k = IntKind.u8.wrap (x - keyAt c k)) := Lib.hid (by unfold decAt; rw [hx.out, IntKind.wrap_u8])
        generalize keyAt c k = K at *
        have Hkb3 : Hid (∀ w3 : World, wr.drew.grownBy w3 (some ib) → w3.heap[g]? = wr.heap[g]?) := Lib.hid (fun w3 h => h.block g hgs (fun e => by have := Option.some.inj e; omega))
        have Hkc : Hid (∀ w3 : World, wr.drew.grownBy w3 (some ib) → w3.cell? ⟨g, off + k, none⟩ = some (.int .u8 x)) := Lib.hid (fun w3 h => by rw [World.cell?_of_block (w := wr) (a := ⟨g, off + k, none⟩) (Hkb3.out w3 h)]; exact hc1)
        have Hkf : Hid (∀ w3 : World, wr.drew.grownBy w3 (some ib) → w3.frozen? ⟨g, off + k, none⟩ = false) := Lib.hid (fun w3 h => by rw [World.frozen?_of_block (w := wr) (a := ⟨g, off + k, none⟩) (Hkb3.out w3 h)]; exact hf1)
        clear hxe hlen
        go_wp2_with fail
        go_region_with (go_at_call 56; refine (Hcall.out wr.drew rfl hB.drew).mono ?_; rintro e w3 ⟨rfl, hg3, hi3⟩; have hc3 := Hkc.out w3 hg3; have hf3 := Hkf.out w3 hg3)
        all_goals
          have hC3 : Cells .u8 w3 g off (decR c zs k ++ zs.drop k) := fun j hj => by
            rw [World.cell?_of_block (w := wr) (a := ⟨g, off + j, none⟩) (Hkb3.out w3 hg3)]; exact hC.out j hj
          have hF3 : Free w3 g off n := fun j hj => by
            rw [World.frozen?_of_block (w := wr) (a := ⟨g, off + j, none⟩) (Hkb3.out w3 hg3)]; exact hF.out j hj
          have hst := hC3.store (j := k) (by simp [decR]; omega) (IntKind.u8.wrap (x - K))
          have hms := marks_step (f := fun _ m => decR c zs m) (g := decAt c zs) (k := 0) (fun _ => rfl) hkz
          rw [Hst.out] at hms
          rw [hms] at hst
          have Hs := Lib.hid hst
          have Hf := Lib.hid (hF3.store ⟨g, off + k, none⟩ (.int .u8 (IntKind.u8.wrap (x - K))))
          have hB4 : Below w.heap.size w w3 := hB.drew.grown hg3 hB.size (fun j hj => by have := Option.some.inj hj; rw [← this, Hib.out]; omega)
          have hB5 := Lib.hid (hB4.setCell (p := ⟨g, off + k, none⟩) (show w.heap.size ≤ g by omega) (.int .u8 (IntKind.u8.wrap (x - K))))
          have hk5 : Hid ((w3.setCell ⟨g, off + k, none⟩ (.int .u8 (IntKind.u8.wrap (x - K)))).heap[kb]? = some (.cells #[.int .i64 c] 3 (0, 0))) := Lib.hid (by
            rw [Below.heap_setCell _ _ _ _ (by show kb ≠ g; omega), hg3.block kb (by show kb < wr.heap.size; omega) (fun e => by have := Option.some.inj e; omega)]; exact hkw)
          have hi5 : Hid ((w3.setCell ⟨g, off + k, none⟩ (.int .u8 (IntKind.u8.wrap (x - K)))).heap[ib]? = some (.cells #[.int .i64 ((k + 1 : Nat) : Int)] 3 (0, 0))) := Lib.hid (by
            rw [Below.heap_setCell _ _ _ _ (by show ib ≠ g; omega)]; exact hi3)
          have hg5 : Hid (g < (w3.setCell ⟨g, off + k, none⟩ (.int .u8 (IntKind.u8.wrap (x - K)))).heap.size) := Lib.hid (by
            have := hg3.size
            simp [World.setCell]
            exact Nat.lt_of_lt_of_le hgs this)
          clear hC3 hF3 hst hms hB4
          go_wp2_with fail
          go_roundw
          case rel => exact ⟨k + 1, by omega, by go_num, hB5.out, hg5.out, hk5.out, hi5.out, Hs, Hf⟩
          case measure => simp [intOf]; omega
      · obtain rfl : k = n := by omega
        have hfin : Hid (WrAt .u8 wr (.slice (some ⟨g, off, none⟩) k cap2) (decR c zs zs.length) g) := Lib.hid (by
          have hc := hC.out
          have e : zs.drop k = [] := List.drop_eq_nil_of_le (by rw [Hn.out]; exact Nat.le_refl _)
          rw [e, List.append_nil] at hc
          rw [← Hn.out]
          have h1 := WrAt.of cap2 (by rw [decR_len]; exact hcap4) (decR_wf c zs k) hc (by rw [decR_len]; exact hF.out)
          rw [decR_len] at h1
          exact h1)
        go_wp2_with fail
        go_ret
        exact ⟨_, g, rfl, by omega, hfin.out, hB⟩
end Go.Proofs.YtchpkpajnjcnbaaDoor
