/-
  NotPattern, both sides.
-/
import Derived.Test.YtgpkgebnbdddnaaDoorPatG
import Derived.Test.YtgpkgebnbdddnaaDoorPatS
import Derived.Test.YtgpkgebnbdddnaaDoorVals
import Derived.Test.YtgpkgebnbdddnaaDoorCopyI
namespace Go.Proofs.YtgpkgebnbdddnaaDoor
open Go.RowKit
set_option linter.unusedVariables false
set_option linter.unusedSimpArgs false

def notPat (zs : List Int) : List Int := if isPat (zs ++ [-1]) = true then zs ++ [-1] else []
theorem notPat_len (zs : List Int) : (notPat zs).length ≤ zs.length + 1 := by
  unfold notPat; split <;> simp
theorem wpList_append_valsN {P : Program} (w : World) {ops : Array Oper} {rest : List Oper} {o : Oper} {a : Act} {Q : Exit → Act → World → Prop}
    (hg : o.guard = none) (s x : Operand) (t : TypeId) (hop : o.op = Op.call { callee := Callee.builtin Builtin.append, args := #[s, x], argTypes := #[t, t] })
    (base : Nat) (e : TypeId) (i : TypeInfo) (z : Value) (bytes : Nat) (h1 : P.underlying t = some (.slice e)) (h2 : P.info? e = some i) (h3 : i.zero = some z) (h4 : i.size = 1) (h5 : i.bytes = bytes) (h6 : z.cells.size = 1)
    (v : Value) (n : Nat) (xs : List Value) (hs : a.eval s = v) (hown : w.ownsRow base e 1 v n xs) (vx : Value) (us : List Value) (hx : a.eval x = vx) (hv : RdVals w vx us) (one : ∀ u ∈ us, u.oneCell' = true)
    (b1 : n + us.length ≤ maxLen) (b2 : (n + us.length) * bytes ≤ 140737488355328) (hbase : base ≤ w.heap.size)
    (hK : ∀ v' w', w'.ownsRow base e 1 v' (n + us.length) (xs ++ us) → w.grownBy w' v.ownBlock → wpList P ops Q rest (a.put o.dst v') w') :
    wpList P ops Q (o :: rest) a w := by
  refine wpList_plain hg fun K hK' => ?_
  obtain ⟨v', w', hrun, r1, r2⟩ := run_append_vals (P := P) w base t o.type e i z bytes h1 h2 h3 h4 h5 h6 v n xs hown vx us hv one b1 b2 hbase
  unfold Oper.wp
  simp [execOp, hop, resolve, invoke, builtin, hs, hx, hrun, Result.andThen]
  exact hK' _ _ (hK v' w' r1 r2)
theorem wf_neg1 {zs : List Int} (h : ∀ n ∈ zs, (Lit.int .i64 n).wf = true) : ∀ n ∈ zs ++ [-1], (Lit.int .i64 n).wf = true := by
  intro n hn
  rcases List.mem_append.1 hn with hn | hn
  · exact h n hn
  · rcases List.mem_singleton.1 hn with rfl; decide
theorem empty_rd (w : World) (o : Obj) : True := trivial
set_option maxRecDepth 100000 in
set_option maxHeartbeats 1000000 in
theorem sNotPattern_any (v : Value) (zs : List Int) (b : Nat) (w : World) (h : RdAt .i64 w v zs b) (hl : zs.length ≤ 1048576) :
    Calls Tryd.prog 29 #[v] w fun e w' => ∃ v' b', e = .returned v' ∧ w.heap.size ≤ b' ∧ WrAt .i64 w' v' (notPat zs) b' ∧ Below w.heap.size w w' := by
  obtain ⟨i0, hi, hz0, hz1, hz2⟩ := info_parts info_i64
  have hown0 := World.ownsRow_lit (base := w.heap.size) (e := 3) (size := 1) w #[] 0 (Nat.le_refl _) (Nat.zero_le _) rfl
  have B0 : Below w.heap.size w (w.alloc (.cells #[] 3)) := (Below.refl _ _).alloc (Nat.le_refl _) _
  have hv := (h.below B0).vals
  have Hwf := Lib.hid (wf_neg1 h.wf)
  have HP : Hid (∀ wx vx bx, RdAt .i64 wx vx (zs ++ [-1]) bx → Calls Tryd.prog 17 #[vx] wx fun e w' => e = .returned (.bool (isPat (zs ++ [-1]))) ∧ wx = w') := Lib.hid (fun wx vx bx hx => sIsPattern_any vx _ bx wx hx (by rw [List.length_append, List.length_singleton]; omega) _ rfl)
  have HN : Hid (notPat zs = if isPat (zs ++ [-1]) = true then zs ++ [-1] else []) := Lib.hid rfl
  obtain ⟨a, cap, rfl, -⟩ := h
  obtain ⟨n, hn⟩ : ∃ n, n = zs.length := ⟨_, rfl⟩
  have Hn := Lib.hid hn
  have hml : (zs.map (Value.int .i64)).length = n := by rw [List.length_map, hn]
  rw [← hn] at hl hv ⊢
  clear hn
  have HB0 := Lib.hid B0
  clear B0
  go_enter Tryd.func29, Tryd.ntmps29
  go_wp2_with (at_builtin; refine wpList_append_valsN _ rfl _ _ 22 rfl w.heap.size 3 i0 (.int .i64 0) 8 Tryd.underlying22 hi hz0 hz1 hz2 rfl _ _ _ rfl hown0 _ (zs.map (Value.int .i64)) rfl hv int_one ?c3 ?c4 (by simp) ?_)
  case c3 => unfold maxLen; omega
  case c4 => omega
  intro v1 w1 hown1 hgr1
  have B1 : Below w.heap.size w w1 := HB0.out.grown hgr1 (by simp) (own_block hown0)
  have hown1 : w1.ownsRow w.heap.size 3 1 v1 n (zs.map (Value.int .i64)) := by simpa [hml] using hown1
  have hsz1 := B1.size
  clear hgr1 hv hown0
  go_wp2_with (at_builtin; refine wpList_append_own _ rfl _ _ 22 rfl w.heap.size 3 i0 (.int .i64 0) 1 8 Tryd.underlying22 hi hz0 hz1 hz2 rfl (by decide) _ _ _ rfl (hown1.alloc _) ⟨w1.heap.size, 0, none⟩ 1 1 [.int .i64 (-1)] rfl rfl ?d1 ?d2 ?d3 ?d4 ?d5 ?_)
  case d1 => exact cell_one_new _ _ _
  case d2 => intro u hu; simp at hu; subst hu; rfl
  case d3 => unfold maxLen; omega
  case d4 => omega
  case d5 => simp; omega
  intro v2 w2 hown2 hgr2 _
  have B2 : Below w.heap.size w w2 := (B1.alloc hsz1 _).grown hgr2 (by simp; omega) (own_block hown1)
  have hown3 : w2.ownsRow w.heap.size 3 1 v2 (zs ++ [-1]).length ((zs ++ [-1]).map (Value.int .i64)) := by rw [List.length_append, List.map_append, ← Hn.out]; exact hown2
  obtain ⟨b2, hb2, hw2⟩ := own_wr hown3 Hwf.out
  have HC := Lib.hid (HP.out w2 v2 b2 hw2.rd)
  have Hw2 := Lib.hid hw2
  clear hown1 hown2 hown3 hgr2 hw2
  cases hp : isPat (zs ++ [-1]) with
  | true =>
    have hres : Hid (notPat zs = zs ++ [-1]) := Lib.hid (by rw [HN.out, if_pos hp])
    rw [hp] at HC
    clear hp
    go_wp2_with fail
    refine HC.out.mono ?_
    rintro e _w ⟨rfl, rfl⟩
    go_wp2_with fail
    go_ret
    exact ⟨_, b2, rfl, hb2, by rw [hres.out]; exact Hw2.out, B2⟩
  | false =>
    have hres : Hid (notPat zs = []) := Lib.hid (by rw [HN.out, if_neg (by rw [hp]; simp)])
    rw [hp] at HC
    have hown4 := World.ownsRow_lit (base := w.heap.size) (e := 3) (size := 1) w2 #[] 0 B2.size (Nat.zero_le _) rfl
    have HW4 := Lib.hid (own_wr (k := .i64) (zs := []) hown4 (fun x hx => by cases hx))
    have HB4 := Lib.hid (B2.alloc B2.size (.cells #[] 3))
    clear hp hown4
    go_wp2_with fail
    refine HC.out.mono ?_
    rintro e _w ⟨rfl, rfl⟩
    go_wp2_with fail
    go_ret
    obtain ⟨b', hb', hw'⟩ := HW4.out
    rw [hres.out]
    exact ⟨_, b', rfl, hb', hw', HB4.out⟩
set_option maxRecDepth 100000 in
set_option maxHeartbeats 1000000 in
theorem notPattern_any (v : Value) (zs : List Int) (b : Nat) (w : World) (h : RdAt .i64 w v zs b) (hl : zs.length ≤ 1048576) (hG : Grps w) :
    Calls Tryd.prog 30 #[v] w fun e w' => ∃ v' b', e = .returned v' ∧ w.heap.size ≤ b' ∧ WrAt .i64 w' v' (notPat zs) b' ∧ Below w.heap.size w w' := by
  obtain ⟨i0, hi, hz0, hz1, hz2⟩ := info_parts info_i64
  have HK := Lib.hid (copyInts_own v zs b w h (by omega))
  have Hwf := Lib.hid (wf_neg1 h.wf)
  have HP : Hid (∀ wx vx bx, Below w.heap.size w wx → RdAt .i64 wx vx (zs ++ [-1]) bx → Calls Tryd.prog 19 #[vx] wx fun e w' => e = .returned (.bool (isPat (zs ++ [-1]))) ∧ Below wx.heap.size wx w') := Lib.hid (fun wx vx bx bb hx => isPattern_any vx _ bx wx hx (by rw [List.length_append, List.length_singleton]; omega) (hG.below bb) _ rfl)
  have HN : Hid (notPat zs = if isPat (zs ++ [-1]) = true then zs ++ [-1] else []) := Lib.hid rfl
  clear h hG
  obtain ⟨n, hn⟩ : ∃ n, n = zs.length := ⟨_, rfl⟩
  have Hn := Lib.hid hn
  rw [← hn] at hl HK
  clear hn
  go_enter Tryd.func30, Tryd.ntmps30
  go_wp2_with fail
  refine HK.out.mono ?_
  rintro e w1 ⟨v1, rfl, hown1, B1⟩
  have hsz1 := B1.size
  go_wp2_with (at_builtin; refine wpList_append_own _ rfl _ _ 22 rfl w.heap.size 3 i0 (.int .i64 0) 1 8 Tryd.underlying22 hi hz0 hz1 hz2 rfl (by decide) _ _ _ rfl (hown1.alloc _) ⟨w1.heap.size, 0, none⟩ 1 1 [.int .i64 (-1)] rfl rfl ?d1 ?d2 ?d3 ?d4 ?d5 ?_)
  case d1 => exact cell_one_new _ _ _
  case d2 => intro u hu; simp at hu; subst hu; rfl
  case d3 => unfold maxLen; omega
  case d4 => omega
  case d5 => simp; omega
  intro v2 w2 hown2 hgr2 _
  have B2 : Below w.heap.size w w2 := (B1.alloc hsz1 _).grown hgr2 (by simp; omega) (own_block hown1)
  have hown3 : w2.ownsRow w.heap.size 3 1 v2 (zs ++ [-1]).length ((zs ++ [-1]).map (Value.int .i64)) := by rw [List.length_append, List.map_append, ← Hn.out]; exact hown2
  obtain ⟨b2, hb2, hw2⟩ := own_wr hown3 Hwf.out
  have HC := Lib.hid (HP.out w2 v2 b2 B2 hw2.rd)
  have Hw2 := Lib.hid hw2
  clear hown1 hown2 hown3 hgr2 hw2
  cases hp : isPat (zs ++ [-1]) with
  | true =>
    have hres : Hid (notPat zs = zs ++ [-1]) := Lib.hid (by rw [HN.out, if_pos hp])
    rw [hp] at HC
    clear hp
    go_wp2_with fail
    refine HC.out.mono ?_
    rintro e w3 ⟨rfl, B3⟩
    have B4 := B2.trans (B3.mono B2.size)
    have Hw3 := Lib.hid (Hw2.out.below B3)
    go_wp2_with fail
    go_ret
    exact ⟨_, b2, rfl, hb2, by rw [hres.out]; exact Hw3.out, B4⟩
  | false =>
    have hres : Hid (notPat zs = []) := Lib.hid (by rw [HN.out, if_neg (by rw [hp]; simp)])
    rw [hp] at HC
    clear hp
    go_wp2_with fail
    refine HC.out.mono ?_
    rintro e w3 ⟨rfl, B3⟩
    have B4 := B2.trans (B3.mono B2.size)
    have hown4 := World.ownsRow_lit (base := w.heap.size) (e := 3) (size := 1) w3 #[] 0 B4.size (Nat.zero_le _) rfl
    have HW4 := Lib.hid (own_wr (k := .i64) (zs := []) hown4 (fun x hx => by cases hx))
    have HB4 := Lib.hid (B4.alloc B4.size (.cells #[] 3))
    clear hown4
    go_wp2_with fail
    go_ret
    obtain ⟨b', hb', hw'⟩ := HW4.out
    rw [hres.out]
    exact ⟨_, b', rfl, hb', hw', HB4.out⟩
end Go.Proofs.YtgpkgebnbdddnaaDoor
