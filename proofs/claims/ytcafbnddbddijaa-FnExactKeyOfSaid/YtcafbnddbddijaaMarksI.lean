/-
  The helpers of the laws over slices (int): copied, compared, marked, found marked.
-/
import Derived.Test.YtcafbnddbddijaaRows
import Derived.Test.YtcafbnddbddijaaSl
import Derived.LoopTactic
import Derived.Deep.QuietTactic
import Derived.BigQuiet
namespace Go.Proofs.Ytcafbnddbddijaa
open Go.RowKit
set_option linter.unusedVariables false
set_option linter.unusedSimpArgs false

theorem info_i64 : (Try.prog.info? 3).map (fun i => (i.zero, i.size, i.bytes)) = some (some (.int .i64 0), 1, 8) := by kernel_rfl

theorem own_madeIntS {w : World} {B g : Nat} {E : TypeId} {size n cap : Nat} {xs : List Value} (h : w.ownsRow B E size (.slice (some ⟨g, 0, none⟩) n cap) n xs) : g < w.heap.size := by
  rcases h.2 with ⟨h', _⟩ | ⟨g', cap', cur, h', _, hg, _⟩
  · simp at h'
  · simp only [Value.slice.injEq, Option.some.injEq, Addr.mk.injEq, and_true, true_and] at h'
    obtain ⟨rfl, rfl⟩ := h'
    exact (Array.getElem?_eq_some_iff.1 hg).1

set_option maxRecDepth 100000 in
set_option maxHeartbeats 400000 in
theorem toIntS_any (v : Value) (zs : List Int) (b : Nat) (w : World) (h : RdAt .i64 w v zs b) (hl : zs.length ≤ 1099511627776) :
    Calls Try.prog 20 #[v] w fun e w' => ∃ v', e = .returned v' ∧ WrAt .i64 w' v' zs w.heap.size ∧ Below w.heap.size w w' ∧ w.heap.size < w'.heap.size := by
  obtain ⟨i0, hi, hz0, hz1, hz2⟩ := info_parts info_i64
  obtain ⟨a, cap, rfl, -, hwf, hcell⟩ := h
  obtain ⟨n, hn⟩ : ∃ n, n = zs.length := ⟨_, rfl⟩
  have Hn := Lib.hid hn
  rw [← hn] at hl ⊢
  clear hn
  go_enter Try.func20, Try.ntmps20
  go_wp2_with (at_make; refine wpList_make_full _ rfl _ _ 22 rfl w.heap.size 3 i0 (.int .i64 0) 1 Try.underlying22 hi hz0 hz1 _ _ _ _ n rfl rfl rfl rfl ?c1 ?c2 ?c3 ?_)
  case c1 => rw [hz2]; omega
  case c2 => unfold maxLen; omega
  case c3 => exact Nat.le_refl _
  intro w1 hown hgr
  have hb1 : Below w.heap.size w w1 := (Below.refl _ _).grown hgr (Nat.le_refl _) (fun k hk => by cases hk)
  clear hgr hi hz0 hz1 hz2
  go_wp2_with fail
  go_loopw [4] (fun i wr => ∃ k : Nat, k ≤ n ∧ i = .int .i64 k ∧ Below w.heap.size w wr ∧ ∃ xs, wr.ownsRow w.heap.size 3 1 (.slice (some ⟨w.heap.size, 0, none⟩) n n) n xs ∧ ∀ j, j < k → xs[j]? = some (.int .i64 (zs.getD j 0))) (fun i _ => n - (intOf i).toNat)
  case atStart => exact ⟨0, Nat.zero_le _, rfl, hb1, _, hown, fun j hj => by omega⟩
  case round =>
    clear hown hb1
    obtain ⟨k, hk, rfl, hb2, xs, hown, hxs⟩ := hrel
    by_cases hlt : k < n
    · have hzl : k < zs.length := by rw [← Hn.out]; exact hlt
      rcases hcell with h0 | ⟨off, rfl, hc⟩
      · subst h0; simp at hzl
      obtain ⟨y, hy⟩ : ∃ y, Hid (y = zs.getD k 0) := ⟨_, Lib.hid rfl⟩
      have hc1 : wr.cell? ⟨b, off + k, none⟩ = some (.int .i64 y) := by
        have h1 := hc k hzl
        rw [hb2.cell (World.block_lt_of_cell? _ _ h1), h1, hy.out]
        simp [List.getD, hzl]
      obtain ⟨x, hx⟩ : ∃ x, xs[k]? = some x := ⟨_, List.getElem?_eq_getElem (by rw [hown.1]; omega)⟩
      have hc2 : wr.cell? ⟨w.heap.size, k, none⟩ = some x := by rw [hown.cellAt k (by omega), hx]
      have hf2 : wr.frozen? ⟨w.heap.size, k, none⟩ = false := hown.frozenAt k
      have hst := (hown.stored k (.int .i64 y)).1
      have hb3 : Below w.heap.size w (wr.setCell ⟨w.heap.size, k, none⟩ (.int .i64 y)) := hb2.setCell (Nat.le_refl _) _
      have hrel2 : Hid (∀ j, j < k + 1 → (xs.set k (.int .i64 y))[j]? = some (.int .i64 (zs.getD j 0))) := Lib.hid (fun j hj => by
        by_cases e : j = k
        · subst e; rw [List.getElem?_set_self (by rw [hown.1]; omega), hy.out]
        · rw [List.getElem?_set_ne (by omega)]; exact hxs j (by omega))
      clear hc hx hb2 hxs hown
      go_wp2_with fail
      go_roundw
      case rel => exact ⟨k + 1, by omega, by go_num, hb3, _, hst, hrel2.out⟩
      case measure => simp [intOf]; omega
    · obtain rfl : k = n := by omega
      go_wp2_with fail
      go_ret
      refine ⟨_, rfl, ⟨some ⟨w.heap.size, 0, none⟩, k, by rw [← Hn.out]; rfl, ⟨by rw [Hn.out]; exact Nat.le_refl _, by unfold maxLen; omega, fun h => by cases h⟩, hwf, ?_⟩, hb2, own_madeIntS hown⟩
      by_cases hz : zs = []
      · exact .inl hz
      · refine .inr ⟨0, rfl, fun j hj => ?_, fun j hj => ?_⟩
        · rw [Nat.zero_add, hown.cellAt j (by rw [Hn.out]; omega), hxs j (by rw [Hn.out]; exact hj)]
          simp [List.getD, hj]
        · rw [Nat.zero_add]; exact hown.frozenAt j

set_option maxRecDepth 100000 in
set_option maxHeartbeats 400000 in
theorem eqIntS_any (va vb : Value) (za zb : List Int) (ba bb : Nat) (w : World) (ha : RdAt .i64 w va za ba) (hb : RdAt .i64 w vb zb bb) (hl : za.length ≤ 1099511627776) (hl2 : zb.length ≤ 1099511627776) :
    Calls Try.prog 11 #[va, vb] w fun e w' => (∃ r : Bool, e = .returned (.bool r) ∧ (r = true ↔ za = zb)) ∧ ∃ n, w' = w.drewN n := by
  obtain ⟨aa, ca, rfl, -, -, hca⟩ := ha
  obtain ⟨ab, cb, rfl, -, -, hcb⟩ := hb
  obtain ⟨n, hn⟩ : ∃ n, n = za.length := ⟨_, rfl⟩
  obtain ⟨m, hm⟩ : ∃ m, m = zb.length := ⟨_, rfl⟩
  have Hn := Lib.hid hn
  have Hm := Lib.hid hm
  rw [← hn] at hl ⊢
  rw [← hm] at hl2 ⊢
  clear hn hm
  by_cases hnm : n = m
  · subst hnm
    have hq : ((n : Int) != (n : Int)) = false := by simp
    go_enter Try.func11, Try.ntmps11
    go_wp2_with fail
    go_loopw [5] (fun i wr => ∃ k : Nat, k ≤ n ∧ i = .int .i64 k ∧ (∃ q, wr = w.drewN q) ∧ Hid (∀ j (h1 : j < za.length) (h2 : j < zb.length), j < k → za[j] = zb[j])) (fun i _ => n - (intOf i).toNat)
    case atStart => exact ⟨0, Nat.zero_le _, rfl, ⟨0, rfl⟩, Lib.hid (fun j _ _ h => by omega)⟩
    case round =>
      obtain ⟨k, hk, rfl, ⟨q, rfl⟩, hsame⟩ := hrel
      by_cases hlt : k < n
      · have hza : k < za.length := by rw [← Hn.out]; exact hlt
        have hzb : k < zb.length := by rw [← Hm.out]; exact hlt
        rcases hca with h0 | ⟨oa, rfl, hc1⟩
        · subst h0; simp at hza
        rcases hcb with h0 | ⟨ob, rfl, hc2⟩
        · subst h0; simp at hzb
        obtain ⟨x, hx⟩ : ∃ x, Hid (x = za[k]) := ⟨_, Lib.hid rfl⟩
        obtain ⟨y, hy⟩ : ∃ y, Hid (y = zb[k]) := ⟨_, Lib.hid rfl⟩
        have h1 : w.cell? ⟨ba, oa + k, none⟩ = some (.int .i64 x) := by rw [hc1 k hza, hx.out]
        have h2 : w.cell? ⟨bb, ob + k, none⟩ = some (.int .i64 y) := by rw [hc2 k hzb, hy.out]
        clear hc1 hc2
        by_cases hxy : x = y
        · subst hxy
          have hs2 : Hid (∀ j (h1 : j < za.length) (h2 : j < zb.length), j < k + 1 → za[j] = zb[j]) := Lib.hid (fun j h1 h2 hj => by
            by_cases e : j = k
            · subst e; rw [← hx.out, ← hy.out]
            · exact hsame.out j h1 h2 (by omega))
          go_wp2_with fail
          go_quiet (fail)
          go_wp2_with fail
          go_roundw
          case rel => exact ⟨k + 1, by omega, by go_num, ⟨_, rfl⟩, hs2⟩
          case measure => simp [intOf]; omega
        · have hne : (x != y) = true := by simpa using hxy
          have hno : Hid (za ≠ zb) := Lib.hid (list_ne_of hza hzb (by rw [← hx.out, ← hy.out]; exact hxy))
          clear hxy
          go_wp2_with fail
          go_quiet (fail)
          go_wp2_with fail
          go_ret
          exact ⟨⟨_, rfl, ⟨(fun h => by cases h), fun h => absurd h hno.out⟩⟩, ⟨_, World.drewN_drewN _ _ _⟩⟩
      · obtain rfl : k = n := by omega
        have hyes : Hid (za = zb) := Lib.hid (list_eq_of (by rw [← Hn.out, ← Hm.out]) (fun j h1 h2 => hsame.out j h1 h2 (by rw [Hn.out]; exact h1)))
        go_wp2_with fail
        go_ret
        exact ⟨⟨_, rfl, ⟨fun _ => hyes.out, fun _ => rfl⟩⟩, ⟨_, rfl⟩⟩
  · have hq : ((n : Int) != (m : Int)) = true := by simp; omega
    have hno : Hid (za ≠ zb) := Lib.hid (fun e => hnm (by rw [Hn.out, Hm.out, e]))
    clear hnm
    go_enter Try.func11, Try.ntmps11
    go_wp2_with fail
    go_ret
    exact ⟨⟨_, rfl, ⟨(fun h => by cases h), fun h => absurd h hno.out⟩⟩, ⟨0, rfl⟩⟩


set_option maxRecDepth 100000 in
set_option maxHeartbeats 400000 in
theorem markIntS_any (v : Value) (zs : List Int) (b : Nat) (k : Int) (w : World) (h : WrAt .i64 w v zs b) (hl : zs.length ≤ 1099511627776) (k0 : 0 ≤ k) (k1 : k ≤ 1099511627776) :
    Calls Try.prog 12 #[v, .int .i64 k] w fun e w' => e = .returned (.int .i64 (k + zs.length)) ∧ WrAt .i64 w' v (marksI k zs.length) b ∧ w.grownBy w' (some b) ∧ w'.heap.size = w.heap.size := by
  rcases h.open with ⟨rfl, a, cap, rfl, hcap⟩ | ⟨hz, off, cap, rfl, hcap, hc, hf⟩
  · have e : k + (([] : List Int).length : Int) = k := by simp
    rw [e]
    clear e
    go_enter Try.func12, Try.ntmps12
    go_wp2_with fail
    refine wp_loop_rounds 1 ?_
    rw [rounds_succ]
    go_wp2_with fail
    go_ret
    exact ⟨rfl, WrAt.nil _ _ _ _ _ hcap, ⟨rfl, rfl, rfl, Nat.le_refl _, fun _ _ _ => rfl⟩, rfl⟩
  · obtain ⟨n, hn⟩ : ∃ n, n = zs.length := ⟨_, rfl⟩
    have Hn := Lib.hid hn
    rw [← hn] at hl ⊢
    clear hn
    have hB : ∀ m, marksI k m = (List.range m).map fun (i : Nat) => k + (i : Int) := fun _ => rfl
    have HB := Lib.hid hB
    clear hB
    go_enter Try.func12, Try.ntmps12
    go_wp2_with fail
    go_loopw [1, 5] (fun kv i wr => ∃ j : Nat, j ≤ n ∧ i = .int .i64 j ∧ kv = .int .i64 (k + j) ∧ w.grownBy wr (some b) ∧ wr.heap.size = w.heap.size ∧ Cells .i64 wr b off (marksI k j ++ zs.drop j) ∧ Free wr b off n) (fun _ i _ => n - (intOf i).toNat)
    case atStart => exact ⟨0, Nat.zero_le _, rfl, by simp, ⟨rfl, rfl, rfl, Nat.le_refl _, fun _ _ _ => rfl⟩, rfl, by simpa [marksI] using hc, by rw [Hn.out]; exact hf⟩
    case round =>
      clear hc hf
      obtain ⟨j, hj, rfl, rfl, hg, hsz, hc, hf⟩ := hrel
      by_cases hlt : j < n
      · have hjz : j < zs.length := by rw [← Hn.out]; exact hlt
        have hlen := marks_len (f := marksI) (k := k) HB.out (zs := zs) (j := j) (by omega)
        have hc1 : ∃ x, wr.cell? ⟨b, off + j, none⟩ = some (.int .i64 x) := ⟨_, hc j (by rw [hlen]; exact hjz)⟩
        obtain ⟨x, hc1⟩ := hc1
        have hf1 := hf j hlt
        have hst := hc.store (j := j) (by rw [hlen]; exact hjz) (k + (j : Int))
        rw [marks_step (f := marksI) (k := k) HB.out hjz] at hst
        have hst := Lib.hid hst
        have hf2 := Lib.hid (hf.store ⟨b, off + j, none⟩ (.int .i64 (k + (j : Int))))
        have hg2 := Lib.hid (grown_store hg ⟨b, off + j, none⟩ rfl (.int .i64 (k + (j : Int))))
        clear hc hf hlen hg
        go_wp2_with fail
        go_roundw
        case rel => exact ⟨j + 1, by omega, by go_num, by go_num, hg2.out, by simp [World.setCell]; exact hsz, hst.out, hf2.out⟩
        case measure => simp [intOf]; omega
      · obtain rfl : j = n := by omega
        have hfin : Hid (WrAt .i64 wr (.slice (some ⟨b, off, none⟩) j cap) (marksI k j) b) := Lib.hid (by
          have e : zs.drop j = [] := List.drop_eq_nil_of_le (by rw [Hn.out]; exact Nat.le_refl _)
          rw [e, List.append_nil] at hc
          have h1 := WrAt.of cap (by rw [marksI_length, Hn.out]; exact hcap) (marksI_wf k j (by omega) (by omega)) hc (by rw [marksI_length]; exact hf)
          rw [marksI_length] at h1
          exact h1)
        clear hc hf
        go_wp2_with fail
        go_ret
        exact ⟨rfl, hfin.out, hg, hsz⟩

set_option maxRecDepth 100000 in
set_option maxHeartbeats 400000 in
/-- The marks are found again. -/
theorem heldIntS_any (v : Value) (b : Nat) (k : Int) (n : Nat) (w : World) (h : RdAt .i64 w v (marksI k n) b) (hl : n ≤ 1099511627776) (k0 : 0 ≤ k) (k1 : k ≤ 1099511627776) :
    Calls Try.prog 13 #[v, .int .i64 k] w fun e w' => e = .returned (.int .i64 (k + n)) ∧ w = w' := by
  obtain ⟨a, cap, hv, -, -, hc⟩ := h
  rw [marksI_length] at hv
  subst hv
  go_enter Try.func13, Try.ntmps13
  go_wp2_with fail
  go_loop [1, 5] (fun kv i => ∃ j : Nat, j ≤ n ∧ i = .int .i64 j ∧ kv = .int .i64 (k + j)) (fun _ i => n - (intOf i).toNat)
  case atStart => exact ⟨0, Nat.zero_le _, rfl, by simp⟩
  case round =>
    obtain ⟨j, hj, rfl, rfl⟩ := hrel
    by_cases hlt : j < n
    · rcases hc with h0 | ⟨off, rfl, hc⟩
      · have := congrArg List.length h0; rw [marksI_length] at this; simp at this; omega
      have hj' : j < (marksI k n).length := by rw [marksI_length]; exact hlt
      have hc1 := hc j hj'
      rw [marksI_at k n j hj'] at hc1
      clear hc hj'
      go_wp2_with fail
      go_round
      case rel => exact ⟨j + 1, by omega, by go_num, by go_num⟩
      case measure => simp [intOf]; omega
    · obtain rfl : j = n := by omega
      go_wp2_with fail
      go_ret
      exact ⟨rfl, rfl⟩

theorem eqIntS_t (va vb : Value) (zs : List Int) (ba bb : Nat) (w : World) (ha : RdAt .i64 w va zs ba) (hb : RdAt .i64 w vb zs bb) (hl : zs.length ≤ 1099511627776) :
    Calls Try.prog 11 #[va, vb] w fun e w' => e = .returned (.bool true) ∧ Below w.heap.size w w' := by
  refine (eqIntS_any va vb zs zs ba bb w ha hb hl hl).mono ?_
  rintro e w' ⟨⟨r, rfl, hr⟩, n, rfl⟩
  have : r = true := hr.2 rfl
  subst this
  exact ⟨rfl, below_drewN (Below.refl _ _) _⟩

end Go.Proofs.Ytcafbnddbddijaa
