/-
  The model's Encrypt and Decrypt.
-/
import Derived.Test.YtchpkpajnjcnbaaDoorEnc
import Derived.Deep.RegionLaw
namespace Go.Proofs.YtchpkpajnjcnbaaDoor
open Go.RowKit

/-- append to what the call owns, as one step of a region that draws its order. -/
theorem step_append_own {P : Program} {ops : Array Oper} {o : Oper} {a : Act} {w : World} {K : Act → World → Prop} {Q : Exit → Act → World → Prop} {E : Prop}
    (hg : o.guard = none) (s x : Operand) (t : TypeId) (hop : o.op = Op.call { callee := Callee.builtin Builtin.append, args := #[s, x], argTypes := #[t, t] })
    (base : Nat) (e : TypeId) (i : TypeInfo) (z : Value) (size bytes : Nat) (h1 : P.underlying t = some (.slice e)) (h2 : P.info? e = some i) (h3 : i.zero = some z) (h4 : i.size = size) (h5 : i.bytes = bytes) (h6 : z.cells.size = size) (h7 : 0 < size)
    (v : Value) (n : Nat) (xs : List Value) (hs : a.eval s = v) (hown : w.ownsRow base e size v n xs)
    (ad : Addr) (m c : Nat) (news : List Value) (hx : a.eval x = .slice (some ad) m c) (hn : news.length = m * size) (hc : ∀ j u, news[j]? = some u → w.cell? (ad.add j) = some u) (h1c : ∀ u ∈ news, u.oneCell' = true)
    (b1 : n + m ≤ maxLen) (b2 : (n + m) * bytes ≤ 140737488355328) (hbase : base ≤ w.heap.size)
    (hK : ∀ v' w', w'.ownsRow base e size v' (n + m) (xs ++ news) → w.grownBy w' v.ownBlock → K (a.put o.dst v') w') :
    if Region.wanted o (yielded ops a.tmps) = true then Oper.wp P o a w K Q else E := by
  have hw : Region.wanted o (yielded ops a.tmps) = true := by simp [Region.wanted, hg]
  rw [if_pos hw]
  obtain ⟨v', w', hrun, r1, r2, _⟩ := run_append_own (P := P) w base t o.type e i z size bytes h1 h2 h3 h4 h5 h6 h7 v n xs hown ad m c news hn hc h1c b1 b2 hbase
  unfold Oper.wp
  simp [execOp, hop, resolve, invoke, builtin, hs, hx, hrun, Result.andThen]
  exact hK v' w' r1 r2

set_option maxRecDepth 100000 in
set_option maxHeartbeats 1000000 in
theorem sEncrypt_any (c : Int) (v : Value) (zs : List Int) (b : Nat) (w : World) (h : RdAt .u8 w v zs b) (hl : zs.length ≤ 1048576) (wc : (Lit.int .i64 c).wf = true) :
    Calls Tryd.prog 17 #[.int .i64 c, v] w fun e w' => ∃ v' b', e = .returned v' ∧ w.heap.size ≤ b' ∧ WrAt .u8 w' v' (encR c zs zs.length) b' ∧ Below w.heap.size w w' := by
  obtain ⟨i0, hi, hz0, hz1, hz2⟩ := info_parts info_u8
  have hwf := h.wf
  have H := Lib.hid h
  obtain ⟨a, cap, rfl, -, -, hcell⟩ := h
  obtain ⟨n, hn⟩ : ∃ n, n = zs.length := ⟨_, rfl⟩
  have Hn := Lib.hid hn
  have Hwc := Lib.hid wc
  rw [← hn] at hl ⊢
  clear hn wc
  go_enter Tryd.func17, Tryd.ntmps17
  go_wp2_with fail
  have hown0 := World.ownsRow_lit (base := w.heap.size) (e := 5) (size := 1) w #[] 0 (Nat.le_refl _) (Nat.zero_le _) rfl
  go_loopw [5, 6] (fun o i wr => ∃ (k : Nat), k ≤ n ∧ i = .int .i64 k ∧ Below w.heap.size w wr ∧ wr.ownsRow w.heap.size 5 1 o k ((encR c zs k).map (Value.int .u8))) (fun _ i _ => n - (intOf i).toNat)
  case atStart => exact ⟨0, Nat.zero_le _, rfl, (Below.refl _ _).alloc (Nat.le_refl _) _, hown0⟩
  case round =>
    clear hown0
    obtain ⟨k, hk, rfl, hb2, hown⟩ := hrel
    by_cases hlt : k < n
    · have hzl : k < zs.length := by rw [← Hn.out]; exact hlt
      rcases hcell with hz | ⟨off, rfl, hc⟩
      · subst hz; simp at hzl
      obtain ⟨x, hx⟩ : ∃ x, Hid (x = zs.getD k 0) := ⟨_, Lib.hid rfl⟩
      have hxb : 0 ≤ x ∧ x ≤ 255 := by
        have : x ∈ zs := by rw [hx.out]; simp [List.getD, hzl]
        exact bounds_u8 (hwf x this)
      obtain ⟨hx0, hx1⟩ := hxb
      have hblt := World.block_lt_of_cell? _ _ (hc k hzl)
      have Hck : Hid (∀ W : World, Below w.heap.size w W → W.cell? ⟨b, off + k, none⟩ = some (.int .u8 x)) := Lib.hid (fun W hW => by
        rw [hW.cell hblt, hc k hzl, hx.out]; simp [List.getD, hzl])
      have hc1 := Hck.out wr hb2
      have hKb := keyed_bd c [(k : Int)]
      obtain ⟨hK0, hK1⟩ := hKb
      have hsz := hb2.size
      have Hcall : Hid (Calls Tryd.prog 15 #[.int .i64 c, .slice (some ⟨wr.heap.size, 0, none⟩) 1 1] (wr.alloc (.cells #[.int .i64 k] 3)).drew fun e w' => e = .returned (.int .i64 (keyedI c [(k : Int)])) ∧ Below (wr.heap.size + 1) (wr.alloc (.cells #[.int .i64 k] 3)).drew w') := Lib.hid (by
        have hown2 : (wr.alloc (.cells #[.int .i64 k] 3)).drew.ownsRow wr.heap.size 3 1 (.slice (some ⟨wr.heap.size, 0, none⟩) 1 1) [(k : Int)].length ([(k : Int)].map (Value.int .i64)) :=
          World.ownsRow_lit (base := wr.heap.size) (e := 3) (size := 1) wr #[.int .i64 k] 1 (Nat.le_refl _) (by unfold maxLen; omega) rfl
        obtain ⟨b1, -, hw1⟩ := own_wr hown2 (by intro y hy; simp at hy; subst hy; exact WalkArith.wf_i64 (by omega))
        have := sKeyedHash_any c _ [(k : Int)] b1 (wr.alloc (.cells #[.int .i64 k] 3)).drew hw1.rd (by simp) Hwc.out
        simpa using this)
      have Hst : Hid (encAt c zs k = (x + keyedI c [(k : Int)] % 256) % 256) := Lib.hid (by unfold encAt keyAt; rw [hx.out])
      have HE : Hid ((encR c zs (k + 1)).map (Value.int .u8) = (encR c zs k).map (Value.int .u8) ++ [.int .u8 (encAt c zs k)]) := Lib.hid (by unfold encR; rw [List.range_succ]; simp)
      generalize keyedI c [(k : Int)] = K at *
      clear hc
      go_wp2_with fail
      have he3 : k + 1 ≤ maxLen := by unfold maxLen; omega
      have he4 : (k + 1) * 1 ≤ 140737488355328 := by omega
      have He5 : Hid (∀ W o, Below (wr.heap.size + 1) (wr.alloc (.cells #[.int .i64 k] 3)).drew W → w.heap.size ≤ (W.alloc o).heap.size) := Lib.hid (fun W o hB => by
        have := hB.size; simp at this ⊢; omega)
      have HB3 : Hid (∀ W, Below (wr.heap.size + 1) (wr.alloc (.cells #[.int .i64 k] 3)).drew W → Below w.heap.size w W) := Lib.hid (fun W hB => (hb2.alloc hsz (.cells #[.int .i64 k] 3)).drew.trans (hB.mono (by omega)))
      have Hown3 : Hid (∀ W, Below (wr.heap.size + 1) (wr.alloc (.cells #[.int .i64 k] 3)).drew W → W.ownsRow w.heap.size 5 1 u5 k ((encR c zs k).map (Value.int .u8))) := Lib.hid (fun W hB => own_below (w := (wr.alloc (.cells #[.int .i64 k] 3)).drew) (hown.alloc _) (by simpa using hB))
      have hc2 := Hck.out (wr.alloc (.cells #[.int .i64 k] 3)).drew ((hb2.alloc hsz (.cells #[.int .i64 k] 3)).drew)
      go_region_law (first | (refine step_append_own rfl (.tmp 14) (.tmp 28) 29 rfl w.heap.size 5 i0 (.int .u8 0) 1 1 Tryd.underlying29 hi hz0 hz1 hz2 rfl (by decide) _ _ _ rfl ((Hown3.out w3 hB3).alloc _) ⟨w3.heap.size, 0, none⟩ 1 1 _ rfl rfl (cell_one_new _ _ _) (one_cell _ _) he3 he4 (He5.out w3 _ hB3) ?_; intro v4 w4 hown4 hgr4) | (go_simp; go_at_call 15; refine Hcall.out.mono ?_; rintro e w3 ⟨rfl, hB3⟩; have hc3 := Hck.out w3 (HB3.out w3 hB3)))
      all_goals
        have hv : IntKind.u8.wrap ((IntKind.i64.wrap (IntKind.i64.wrap x + K.tmod 256)).tmod 256) = encAt c zs k := by
          have e1 : K.tmod 256 = K % 256 := Int.tmod_eq_emod_of_nonneg hK0
          have e2 : IntKind.i64.wrap x = x := by rw [IntKind.wrap_i64]; omega
          have e3 : IntKind.i64.wrap (x + K % 256) = x + K % 256 := by rw [IntKind.wrap_i64]; omega
          have e4 : (x + K % 256).tmod 256 = (x + K % 256) % 256 := Int.tmod_eq_emod_of_nonneg (by omega)
          rw [e2, e1, e3, e4, IntKind.wrap_u8, Hst.out]; omega
        have hb4 : Below w.heap.size w w4 := ((HB3.out w3 hB3).alloc (by have := (HB3.out w3 hB3).size; exact this) _).grown hgr4 (by have := (HB3.out w3 hB3).size; simp; omega) (own_block (Hown3.out w3 hB3))
        have hown5 : w4.ownsRow w.heap.size 5 1 v4 (k + 1) ((encR c zs (k + 1)).map (Value.int .u8)) := by rw [HE.out, ← hv]; exact hown4
        clear hown4 hgr4
        go_wp2_with fail
        go_roundw
        case rel => exact ⟨k + 1, by omega, by go_num, hb4, hown5⟩
        case measure => simp [intOf]; omega
    · obtain rfl : k = n := by omega
      have hwr := Lib.hid (own_wr (by rw [encR_len]; exact hown) (encR_wf c zs k))
      clear hown
      go_wp2_with fail
      go_ret
      obtain ⟨b', hb', hw'⟩ := hwr.out
      exact ⟨_, b', rfl, hb', hw', hb2⟩
set_option maxRecDepth 100000 in
set_option maxHeartbeats 1000000 in
theorem sDecrypt_any (c : Int) (v : Value) (zs : List Int) (b : Nat) (w : World) (h : RdAt .u8 w v zs b) (hl : zs.length ≤ 1048576) (wc : (Lit.int .i64 c).wf = true) :
    Calls Tryd.prog 23 #[.int .i64 c, v] w fun e w' => ∃ v' b', e = .returned v' ∧ w.heap.size ≤ b' ∧ WrAt .u8 w' v' (decR c zs zs.length) b' ∧ Below w.heap.size w w' := by
  obtain ⟨i0, hi, hz0, hz1, hz2⟩ := info_parts info_u8
  have hwf := h.wf
  have H := Lib.hid h
  obtain ⟨a, cap, rfl, -, -, hcell⟩ := h
  obtain ⟨n, hn⟩ : ∃ n, n = zs.length := ⟨_, rfl⟩
  have Hn := Lib.hid hn
  have Hwc := Lib.hid wc
  rw [← hn] at hl ⊢
  clear hn wc
  go_enter Tryd.func23, Tryd.ntmps23
  go_wp2_with fail
  have hown0 := World.ownsRow_lit (base := w.heap.size) (e := 5) (size := 1) w #[] 0 (Nat.le_refl _) (Nat.zero_le _) rfl
  go_loopw [5, 6] (fun o i wr => ∃ (k : Nat), k ≤ n ∧ i = .int .i64 k ∧ Below w.heap.size w wr ∧ wr.ownsRow w.heap.size 5 1 o k ((decR c zs k).map (Value.int .u8))) (fun _ i _ => n - (intOf i).toNat)
  case atStart => exact ⟨0, Nat.zero_le _, rfl, (Below.refl _ _).alloc (Nat.le_refl _) _, hown0⟩
  case round =>
    clear hown0
    obtain ⟨k, hk, rfl, hb2, hown⟩ := hrel
    by_cases hlt : k < n
    · have hzl : k < zs.length := by rw [← Hn.out]; exact hlt
      rcases hcell with hz | ⟨off, rfl, hc⟩
      · subst hz; simp at hzl
      obtain ⟨x, hx⟩ : ∃ x, Hid (x = zs.getD k 0) := ⟨_, Lib.hid rfl⟩
      have hxb : 0 ≤ x ∧ x ≤ 255 := by
        have : x ∈ zs := by rw [hx.out]; simp [List.getD, hzl]
        exact bounds_u8 (hwf x this)
      obtain ⟨hx0, hx1⟩ := hxb
      have hblt := World.block_lt_of_cell? _ _ (hc k hzl)
      have Hck : Hid (∀ W : World, Below w.heap.size w W → W.cell? ⟨b, off + k, none⟩ = some (.int .u8 x)) := Lib.hid (fun W hW => by
        rw [hW.cell hblt, hc k hzl, hx.out]; simp [List.getD, hzl])
      have hc1 := Hck.out wr hb2
      have hKb := keyed_bd c [(k : Int)]
      obtain ⟨hK0, hK1⟩ := hKb
      have hsz := hb2.size
      have Hcall : Hid (Calls Tryd.prog 15 #[.int .i64 c, .slice (some ⟨wr.heap.size, 0, none⟩) 1 1] (wr.alloc (.cells #[.int .i64 k] 3)).drew fun e w' => e = .returned (.int .i64 (keyedI c [(k : Int)])) ∧ Below (wr.heap.size + 1) (wr.alloc (.cells #[.int .i64 k] 3)).drew w') := Lib.hid (by
        have hown2 : (wr.alloc (.cells #[.int .i64 k] 3)).drew.ownsRow wr.heap.size 3 1 (.slice (some ⟨wr.heap.size, 0, none⟩) 1 1) [(k : Int)].length ([(k : Int)].map (Value.int .i64)) :=
          World.ownsRow_lit (base := wr.heap.size) (e := 3) (size := 1) wr #[.int .i64 k] 1 (Nat.le_refl _) (by unfold maxLen; omega) rfl
        obtain ⟨b1, -, hw1⟩ := own_wr hown2 (by intro y hy; simp at hy; subst hy; exact WalkArith.wf_i64 (by omega))
        have := sKeyedHash_any c _ [(k : Int)] b1 (wr.alloc (.cells #[.int .i64 k] 3)).drew hw1.rd (by simp) Hwc.out
        simpa using this)
      have Hst : Hid (decAt c zs k = (x - keyedI c [(k : Int)] % 256) % 256) := Lib.hid (by unfold decAt keyAt; rw [hx.out])
      have HE : Hid ((decR c zs (k + 1)).map (Value.int .u8) = (decR c zs k).map (Value.int .u8) ++ [.int .u8 (decAt c zs k)]) := Lib.hid (by unfold decR; rw [List.range_succ]; simp)
      generalize keyedI c [(k : Int)] = K at *
      clear hc
      go_wp2_with fail
      have he3 : k + 1 ≤ maxLen := by unfold maxLen; omega
      have he4 : (k + 1) * 1 ≤ 140737488355328 := by omega
      have He5 : Hid (∀ W o, Below (wr.heap.size + 1) (wr.alloc (.cells #[.int .i64 k] 3)).drew W → w.heap.size ≤ (W.alloc o).heap.size) := Lib.hid (fun W o hB => by
        have := hB.size; simp at this ⊢; omega)
      have HB3 : Hid (∀ W, Below (wr.heap.size + 1) (wr.alloc (.cells #[.int .i64 k] 3)).drew W → Below w.heap.size w W) := Lib.hid (fun W hB => (hb2.alloc hsz (.cells #[.int .i64 k] 3)).drew.trans (hB.mono (by omega)))
      have Hown3 : Hid (∀ W, Below (wr.heap.size + 1) (wr.alloc (.cells #[.int .i64 k] 3)).drew W → W.ownsRow w.heap.size 5 1 u5 k ((decR c zs k).map (Value.int .u8))) := Lib.hid (fun W hB => own_below (w := (wr.alloc (.cells #[.int .i64 k] 3)).drew) (hown.alloc _) (by simpa using hB))
      have e1 : K.tmod 256 = K % 256 := Int.tmod_eq_emod_of_nonneg hK0
      have e2 : IntKind.i64.wrap x = x := by rw [IntKind.wrap_i64]; omega
      have e3 : IntKind.i64.wrap (x - K % 256) = x - K % 256 := by rw [IntKind.wrap_i64]; omega
      have Hmod : Hid (∀ W : World, Calls Tryd.prog 32 #[.int .i64 (IntKind.i64.wrap (IntKind.i64.wrap x - K.tmod 256)), .int .i64 256] W fun e w' => e = .returned (.int .i64 (modI (x - K % 256) 256)) ∧ W = w') := Lib.hid (fun W => by
        rw [e2, e1, e3]; exact sMod_any (x - K % 256) 256 W (WalkArith.wf_i64 (by omega)))
      clear e1 e2 e3
      have hc2 := Hck.out (wr.alloc (.cells #[.int .i64 k] 3)).drew ((hb2.alloc hsz (.cells #[.int .i64 k] 3)).drew)
      go_region_law (first | (refine step_append_own rfl (.tmp 14) (.tmp 28) 29 rfl w.heap.size 5 i0 (.int .u8 0) 1 1 Tryd.underlying29 hi hz0 hz1 hz2 rfl (by decide) _ _ _ rfl ((Hown3.out w3 hB3).alloc _) ⟨w3.heap.size, 0, none⟩ 1 1 _ rfl rfl (cell_one_new _ _ _) (one_cell _ _) he3 he4 (He5.out w3 _ hB3) ?_; intro v4 w4 hown4 hgr4) | (go_simp; go_at_call 15; refine Hcall.out.mono ?_; rintro e w3 ⟨rfl, hB3⟩; have hc3 := Hck.out w3 (HB3.out w3 hB3)) | (go_simp; go_at_call 32; refine (Hmod.out _).mono ?_; rintro e _w ⟨rfl, rfl⟩))
      all_goals
        have hv : IntKind.u8.wrap (modI (x - K % 256) 256) = decAt c zs k := by
          rw [Hst.out, IntKind.wrap_u8, modI, if_pos (by omega)]; omega
        have hb4 : Below w.heap.size w w4 := ((HB3.out w3 hB3).alloc (by have := (HB3.out w3 hB3).size; exact this) _).grown hgr4 (by have := (HB3.out w3 hB3).size; simp; omega) (own_block (Hown3.out w3 hB3))
        have hown5 : w4.ownsRow w.heap.size 5 1 v4 (k + 1) ((decR c zs (k + 1)).map (Value.int .u8)) := by rw [HE.out, ← hv]; exact hown4
        clear hown4 hgr4
        go_wp2_with fail
        go_roundw
        case rel => exact ⟨k + 1, by omega, by go_num, hb4, hown5⟩
        case measure => simp [intOf]; omega
    · obtain rfl : k = n := by omega
      have hwr := Lib.hid (own_wr (by rw [decR_len]; exact hown) (decR_wf c zs k))
      clear hown
      go_wp2_with fail
      go_ret
      obtain ⟨b', hb', hw'⟩ := hwr.out
      exact ⟨_, b', rfl, hb', hw', hb2⟩
end Go.Proofs.YtchpkpajnjcnbaaDoor
