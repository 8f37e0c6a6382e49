/-
  shareOfDeck: how many of a hundred cards are met in the lists; for lists that share no number and have none twice.
-/
import Derived.Test.YtonpdjgokmedjaaDoorIntRows
import Derived.Maps.RangeWalk
import Derived.Maps.Own
import Derived.Maps.OwnSet
namespace Go.Proofs.YtonpdjgokmedjaaDoor
open Go.RowKit Go.Maps
set_option linter.unusedVariables false
set_option linter.unusedSimpArgs false

/-- The map's keys are the numbers met. -/
def MetMap (zs : List Int) (D : DataW Unit) : Prop := Maps.size D = zs.length ∧ ∀ z : Int, Maps.has D (.int .i64 z) = true → z ∈ zs
theorem metMap_0 : MetMap [] (.map []) := ⟨rfl, fun z h => by simp [Maps.has] at h⟩
theorem metMap_step {zs : List Int} {D : DataW Unit} {y : Int} {d : DataW Unit} (h : MetMap zs D) (ht : Tidy D) (hy : y ∉ zs) : MetMap (zs ++ [y]) (D.put (.int .i64 y) d) := by
  obtain ⟨h1, h2⟩ := h
  have hno : Maps.has D (.int .i64 y) = false := by
    cases e : Maps.has D (.int .i64 y) with
    | false => rfl
    | true => exact absurd (h2 y e) hy
  refine ⟨?_, fun z hz => ?_⟩
  · rw [size_put ht, hno, List.length_append]; simp [h1]
  · by_cases e : z = y
    · subst e; simp
    · rw [has_put_other (by simp; exact e)] at hz
      exact List.mem_append_left _ (h2 z hz)
theorem flat_takeSh (zss : List (List Int)) (k : Nat) (h : k < zss.length) : (zss.take (k + 1)).flatten = (zss.take k).flatten ++ zss[k] := by
  rw [List.take_succ_eq_append_getElem h, List.flatten_append]; simp
theorem nodup_pre {zss : List (List Int)} (h : zss.flatten.Nodup) {k q : Nat} (hk : k < zss.length) (hq : q < zss[k].length) : zss[k][q] ∉ (zss.take k).flatten ++ zss[k].take q := by
  have e : zss.flatten = ((zss.take k).flatten ++ zss[k].take q) ++ (zss[k].drop q ++ (zss.drop (k + 1)).flatten) := by
    have h1 : zss.flatten = (zss.take (k + 1)).flatten ++ (zss.drop (k + 1)).flatten := by rw [← List.flatten_append, List.take_append_drop]
    rw [h1, flat_takeSh zss k hk]
    simp only [List.append_assoc]
    congr 1
    rw [← List.append_assoc, List.take_append_drop]
  rw [e] at h
  intro hm
  have hd := (List.nodup_append.1 h).2.2
  refine hd _ hm _ (List.mem_append_left _ ?_) rfl
  rw [List.mem_drop_iff_getElem]
  exact ⟨0, by omega, by simp⟩
set_option maxRecDepth 100000 in
set_option maxHeartbeats 2000000 in
theorem share_any (v : Value) (zss : List (List Int)) (w : World) (h : RdRows .i64 w v zss) (hl : zss.length ≤ 1048576) (hl2 : sumLen zss ≤ 1048576) (hnd : zss.flatten.Nodup) (r : Int) (hr : (100 * (zss.flatten.length : Int)) / 52 = r) :
    Calls Tryd.prog 50 #[v] w fun e w' => e = .returned (.int .i64 r) ∧ Below w.heap.size w w' := by
  have Hrow := Lib.hid (fun wx (hb : Below w.heap.size w wx) j (hj : j < zss.length) => (h.below hb).row hj)
  obtain ⟨a, cap, rfl, -, -⟩ := id h
  obtain ⟨n, hn⟩ : ∃ n, n = zss.length := ⟨_, rfl⟩
  have Hn := Lib.hid hn
  have Hsum : Hid (∀ j (hj : j < zss.length), zss[j].length ≤ 1048576) := Lib.hid (fun j hj => Nat.le_trans (len_le_sum zss hj) hl2)
  have Hfl : Hid (∀ k, (zss.take k).flatten.length ≤ 1048576) := Lib.hid (fun k => by
    have : (zss.take k).flatten.length = sumLen (zss.take k) := by unfold sumLen; rw [List.length_flatten]
    rw [this]; exact Nat.le_trans (sumLen_take_le zss k) hl2)
  have Hft := Lib.hid (fun k (hk : k < zss.length) => flat_takeSh zss k hk)
  have Hnd := Lib.hid (fun k q (hk : k < zss.length) (hq : q < zss[k].length) => nodup_pre hnd hk hq)
  have HR := Lib.hid hr
  rw [← hn] at hl ⊢
  have hmm := @run_makeMap Tryd.prog
  have law : Keyed Tryd.prog 3 := int_keyed Tryd.underlying3
  have hown0 := World.ownsMap_made (H := Unit) w Tryd.prog 3 (plainElem Tryd.prog 4)
  have B0 : Below w.heap.size w (w.alloc (.map #[] 0)) := (Below.refl _ _).alloc (Nat.le_refl _) _
  clear hn h hl2 hnd hr
  go_enter Tryd.func50, Tryd.ntmps50
  go_wp2_with fail
  go_loopw [5, 7, 11] (fun _ _ i wr => ∃ (k c : Nat) (D : DataW Unit), k ≤ n ∧ i = .int .i64 k ∧ Hid (MetMap (zss.take k).flatten D) ∧ c ≤ (zss.take k).flatten.length ∧ wr.ownsMap Tryd.prog 3 (plainElem Tryd.prog 4) w.heap.size c D ∧ Below w.heap.size w wr) (fun _ _ i _ => n - (intOf i).toNat)
  case atStart => exact ⟨0, 0, _, Nat.zero_le _, rfl, Lib.hid metMap_0, Nat.zero_le _, hown0, B0⟩
  case round =>
    clear hown0 B0
    obtain ⟨k, c0, D, hk, rfl, hD, hc0, hown, B⟩ := hrel
    by_cases hlt : k < n
    · have hz : k < zss.length := by rw [← Hn.out]; exact hlt
      obtain ⟨blk, off, cap', p, c, b, hv, hc, hrd, -⟩ := Hrow.out wr B k hz
      have ha := (Value.slice.inj hv).1
      clear hv
      subst ha
      obtain ⟨m, hm⟩ : ∃ m, m = zss[k].length := ⟨_, rfl⟩
      have Hm := Lib.hid hm
      have hsm := Hsum.out k hz
      have hfl := Hfl.out k
      have HFt := Lib.hid (Hft.out k hz)
      have HRd := Lib.hid (fun wx (hb : Below w.heap.size w wx) => (Hrow.out wx hb k hz))
      have hrd0 := hrd
      rw [← hm] at hc hsm hrd
      have hwf := Lib.hid hrd.wf
      rcases hrd.open with ⟨h0, -⟩ | ⟨hzn, off2, cap2, e2, -, hcs⟩
      · -- an empty row
        have hm0 : m = 0 := by rw [Hm.out, h0]; rfl
        subst hm0
        have hx : Hid ((zss.take (k + 1)).flatten = (zss.take k).flatten) := Lib.hid (by rw [HFt.out, h0]; simp)
        clear hrd hrd0 hwf h0 hm hsm Hm HFt HRd
        go_wp2_with fail
        refine wp_loop_rounds 1 ?_
        rw [rounds_succ]
        go_wp2_with fail
        go_roundw
        case rel => exact ⟨k + 1, c0, D, by omega, by go_num, by rw [hx.out]; exact hD, by rw [hx.out]; exact hc0, hown, B⟩
        case measure => simp [intOf]; omega
      have ep := (Value.slice.inj e2).1
      subst ep
      have hbl : b < w.heap.size := by
        obtain ⟨blk3, off3, cap3, p3, c3, b3, hv3, hc3, hr3, -⟩ := Hrow.out w (Below.refl _ _) k hz
        have hcc : wr.cell? ⟨blk3, off3 + k, none⟩ = some (.slice p3 zss[k].length c3) := (B.cell (World.block_lt_of_cell? _ _ hc3)).trans hc3
        have e4 := (Value.slice.inj hv3).1
        simp only [Option.some.injEq, Addr.mk.injEq, and_true] at e4
        obtain ⟨e5, e6⟩ := e4
        subst e5 e6
        rw [hc] at hcc
        have e7 := Option.some.inj hcc
        have e8 := (Value.slice.inj e7).1
        rcases hr3.open with ⟨h0, -⟩ | ⟨-, off9, cap9, e9, -, -⟩
        · exact absurd h0 hzn
        · have e10 := (Value.slice.inj e9).1
          rw [← e8] at e10
          simp only [Option.some.injEq, Addr.mk.injEq, and_true] at e10
          rw [e10.1]; exact hr3.lt hzn
      have HC0 : Hid (∀ q (hq : q < zss[k].length), w.cell? ⟨b, off2 + q, none⟩ = some (.int .i64 zss[k][q])) := Lib.hid (fun q hq => by rw [← B.cell (p := ⟨b, off2 + q, none⟩) hbl]; exact hcs q hq)
      clear hcs hrd hrd0 e2
      go_wp2_with fail
      go_loopw [7, 17] (fun _ i wr => ∃ (q c1 : Nat) (D : DataW Unit), q ≤ m ∧ i = .int .i64 q ∧ Hid (MetMap ((zss.take k).flatten ++ zss[k].take q) D) ∧ c1 ≤ (zss.take k).flatten.length + q ∧ wr.ownsMap Tryd.prog 3 (plainElem Tryd.prog 4) w.heap.size c1 D ∧ Below w.heap.size w wr) (fun _ i _ => m - (intOf i).toNat)
      case atStart => exact ⟨0, c0, D, Nat.zero_le _, rfl, by simpa using hD, by omega, hown, B⟩
      case round =>
        clear hown B hD hc0
        obtain ⟨q, c1, D', hq, rfl, hD, hc1, hown, B⟩ := hrel
        by_cases hqlt : q < m
        · have hqz : q < zss[k].length := by rw [← Hm.out]; exact hqlt
          obtain ⟨y, hy⟩ : ∃ y, Hid (y = zss[k][q]) := ⟨_, Lib.hid rfl⟩
          have hcy : wr.cell? ⟨b, off2 + q, none⟩ = some (.int .i64 y) := by rw [B.cell (p := ⟨b, off2 + q, none⟩) hbl, HC0.out q hqz, hy.out]
          have wy : (Lit.int .i64 y).wf = true := by rw [hy.out]; exact hwf.out _ (List.getElem_mem hqz)
          have hnin : y ∉ (zss.take k).flatten ++ zss[k].take q := by rw [hy.out]; exact Hnd.out k q hz hqz
          have hD2 : ∀ d, Hid (MetMap ((zss.take k).flatten ++ zss[k].take (q + 1)) (D'.put (.int .i64 y) d)) := fun d => Lib.hid (by
            have := metMap_step (d := d) hD.out (hown.tidy law) hnin
            rw [List.take_succ_eq_append_getElem hqz, ← hy.out, ← List.append_assoc]; exact this)
          have HD2 := Lib.hid hD2
          clear hD2 hnin
          go_wp2_with (first
            | (at_mapUpdate; refine wpList_mapUpdate_own _ rfl _ _ _ 73 rfl 3 4 law Tryd.underlying73 _ w.heap.size _ _ rfl hown (by unfold maxLen; omega) _ _ _ rfl rfl (keyOf_int_mk Tryd.underlying3 wy) _ [] (plainElem_bool Tryd.underlying4 true) ?_; intro w1 hown1 hgrow1; have B1 := below_touch B hgrow1 (Nat.le_refl _))
            | fail)
          clear hown hgrow1 B
          go_wp2_with fail
          go_roundw
          case rel => exact ⟨q + 1, c1 + 1, _, by omega, by go_num, HD2.out _, by omega, hown1, B1⟩
          case measure => simp [intOf]; omega
        · obtain rfl : q = m := by omega
          have hx : Hid ((zss.take (k + 1)).flatten = (zss.take k).flatten ++ zss[k].take q) := Lib.hid (by rw [HFt.out, Hm.out, List.take_length])
          have hxl : Hid ((zss.take (k + 1)).flatten.length = (zss.take k).flatten.length + q) := Lib.hid (by rw [HFt.out, List.length_append, Hm.out])
          go_wp2_with fail
          go_roundw
          case rel => exact ⟨k + 1, c1, D', by omega, by go_num, by rw [hx.out]; exact hD, by rw [hxl.out]; exact hc1, hown, B⟩
          case measure => simp [intOf]; omega
    · obtain rfl : k = n := by omega
      have et : (zss.take k) = zss := by rw [Hn.out, List.take_length]
      have hsz : Maps.size D = zss.flatten.length := by have := hD.out.1; rw [et] at this; exact this
      have hfl := Hfl.out k
      rw [et] at hfl
      have hlen := hown.len Tryd.underlying73
      have HL := Lib.hid (fun ty => hlen ty)
      rw [hsz] at HL
      obtain ⟨x, hx⟩ : ∃ x, x = zss.flatten.length := ⟨_, rfl⟩
      have HZ : Hid (Maps.size D = x) := Lib.hid (by rw [hx, hsz])
      have HR2 := HR.out
      rw [← hx] at HR2 HL hfl
      have q1 : IntKind.i64.wrap (100 * (x : Int)) = 100 * (x : Int) := IntWalk.i64_in _ (by omega)
      have HR3 := Lib.hid HR2
      clear hlen hsz hx HR2 hD hc0
      go_wp2_with (first | (at_len; refine wpList_len_own _ rfl _ 73 rfl 3 4 Tryd.underlying73 _ w.heap.size _ _ rfl hown ?_) | fail)
      have q2 : wrap64 (100 * (x : Int)) = 100 * (x : Int) := IntWalk.wrap64_in _ (by omega)
      have q3 : (100 * (x : Int)).tdiv 52 = r := by rw [Int.tdiv_eq_ediv_of_nonneg (by omega)]; exact HR3.out
      have q4 : wrap64 r = r := IntWalk.wrap64_in _ (by have := HR3.out; omega)
      rw [HZ.out, q2, q3, q4]
      go_ret
      exact ⟨rfl, B⟩
end Go.Proofs.YtonpdjgokmedjaaDoor
