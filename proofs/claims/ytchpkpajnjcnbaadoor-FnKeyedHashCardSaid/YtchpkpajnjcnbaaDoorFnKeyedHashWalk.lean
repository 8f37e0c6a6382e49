/-
  The walk of the law FnKeyedHash, at every code.
-/
import Derived.Test.YtchpkpajnjcnbaaDoorDraw03k
import Derived.Test.YtchpkpajnjcnbaaDoorDerive
import Derived.Deep.RegionWith
namespace Go.Proofs.YtchpkpajnjcnbaaDoor
open Go.RowKit

theorem foldV_v {d v v' : Int} (h : foldV d v = foldV d v') : modI v 2147483647 = modI v' 2147483647 := by
  have h1 := modI_bd v
  have h2 := modI_bd v'
  unfold foldV at h
  omega
theorem aff {P F I q d d' m : Int} (hI : F * I = 1 + q * P) (h0 : 0 ≤ d ∧ d < P) (h1 : 0 ≤ d' ∧ d' < P) (h : (d * F + m) % P = (d' * F + m) % P) : d = d' := by
  have e1 := Int.emod_eq_emod_iff_emod_sub_eq_zero.1 h
  have e2 : d * F + m - (d' * F + m) = (d - d') * F := by rw [Int.sub_mul]; omega
  rw [e2] at e1
  have e3 : P ∣ (d - d') * F := Int.dvd_of_emod_eq_zero e1
  have e4 : P ∣ (d - d') * F * I := Int.dvd_mul_of_dvd_left e3
  have e5 : (d - d') * F * I = (d - d') + (d - d') * q * P := by rw [Int.mul_assoc, hI, Int.mul_add, Int.mul_one, Int.mul_assoc]
  rw [e5] at e4
  have e6 : P ∣ d - d' := (Int.dvd_add_left (Int.dvd_mul_left _ _)).1 e4
  by_cases hd : d = d'
  · exact hd
  · exfalso
    rcases Int.lt_or_gt_of_ne hd with hlt | hgt
    · have e7 : P ∣ d' - d := by rw [← Int.neg_sub]; exact Int.dvd_neg.2 e6
      have := Int.le_of_dvd (by omega) e7
      omega
    · have := Int.le_of_dvd (by omega) e6
      omega
theorem foldV_d {d d' v : Int} (h0 : 0 ≤ d ∧ d < 2147483647) (h1 : 0 ≤ d' ∧ d' < 2147483647) (h : foldV d v = foldV d' v) : d = d' := by
  unfold foldV at h
  rw [Int.add_assoc, Int.add_assoc] at h
  exact aff (I := 1523789695) (q := 709572) (by decide) h0 h1 h
theorem hashFrom_inj {d d' : Int} (zs : List Int) (h0 : 0 ≤ d ∧ d < 2147483647) (h1 : 0 ≤ d' ∧ d' < 2147483647) (h : hashFrom d zs = hashFrom d' zs) : d = d' := by
  induction zs generalizing d d' with
  | nil => exact h
  | cons z zs ih => exact foldV_d h0 h1 (ih (foldV_bd d z) (foldV_bd d' z) h)
theorem keyed_set {k : Int} {zs : List Int} {i : Nat} {y : Int} (hi : i < zs.length) (h : keyedI k (zs.set i y) = keyedI k zs) : modI y 2147483647 = modI zs[i] 2147483647 := by
  have hb : ∀ l, 0 ≤ hashFrom (foldV 11 k) l ∧ hashFrom (foldV 11 k) l < 2147483647 := fun l => hashFrom_bd _ l (foldV_bd 11 k)
  have h1 := foldV_d (hb _) (hb _) h
  have e1 : zs.set i y = zs.take i ++ y :: zs.drop (i + 1) := List.set_eq_take_append_cons_drop.trans (if_pos hi)
  have e2 : zs = zs.take i ++ zs[i] :: zs.drop (i + 1) := by
    rw [← List.drop_eq_getElem_cons hi, List.take_append_drop]
  rw [e1] at h1
  have h2 : hashFrom (foldV 11 k) zs = hashFrom (foldV 11 k) (zs.take i ++ zs[i] :: zs.drop (i + 1)) := congrArg _ e2
  rw [h2, hashFrom_app, hashFrom_app] at h1
  exact foldV_v (hashFrom_inj (zs.drop (i + 1)) (foldV_bd _ _) (foldV_bd _ _) h1)
theorem keyed_ne {k x t : Int} {zs : List Int} {i : Nat} (hi : i < zs.length) (hx : zs[i] = x) (h0 : 1 ≤ t) (h1 : t ≤ 256) : keyedI k (zs.set i (modI (x + t) 2147483647)) ≠ keyedI k zs := by
  intro h
  have := keyed_set hi h
  rw [hx] at this
  unfold modI at this
  rw [if_pos (by omega), if_pos (by omega), if_pos (by omega)] at this
  omega
theorem wpList_step_g {P : Program} {ops : Array Oper} {rest : List Oper} {o : Oper} {a : Act} {w : World} {Q : Exit → Act → World → Prop} (hw : Region.wanted o (yielded ops a.tmps) = true)
    (h : ∀ K : Act → World → Prop, (∀ a w, wpList P ops Q rest a w → K a w) → o.wp P a w K Q) : wpList P ops Q (o :: rest) a w :=
  wpList_step fun K hK => by rw [if_pos hw]; exact h K hK
/-- append to what the call owns, behind a guard that says yes. -/
theorem wpList_append_own_g {P : Program} {ops : Array Oper} {rest : List Oper} {o : Oper} {a : Act} {w : World} {Q : Exit → Act → World → Prop} (hw : Region.wanted o (yielded ops a.tmps) = true)
    (s x : Operand) (t : TypeId) (hop : o.op = Op.call { callee := Callee.builtin Builtin.append, args := #[s, x], argTypes := #[t, t] })
    (base : Nat) (e : TypeId) (i : TypeInfo) (z : Value) (size bytes : Nat) (h1 : P.underlying t = some (.slice e)) (h2 : P.info? e = some i) (h3 : i.zero = some z) (h4 : i.size = size) (h5 : i.bytes = bytes) (h6 : z.cells.size = size) (h7 : 0 < size)
    (v : Value) (n : Nat) (xs : List Value) (hs : a.eval s = v) (hown : w.ownsRow base e size v n xs)
    (ad : Addr) (m c : Nat) (news : List Value) (hx : a.eval x = .slice (some ad) m c) (hn : news.length = m * size) (hc : ∀ j u, news[j]? = some u → w.cell? (ad.add j) = some u) (h1c : ∀ u ∈ news, u.oneCell' = true)
    (b1 : n + m ≤ maxLen) (b2 : (n + m) * bytes ≤ 140737488355328) (hbase : base ≤ w.heap.size)
    (hK : ∀ v' w', w'.ownsRow base e size v' (n + m) (xs ++ news) → w.grownBy w' v.ownBlock → wpList P ops Q rest (a.put o.dst v') w') : wpList P ops Q (o :: rest) a w := by
  refine wpList_step_g hw fun K hk => ?_
  obtain ⟨v', w', hrun, r1, r2, _⟩ := run_append_own (P := P) w base t o.type e i z size bytes h1 h2 h3 h4 h5 h6 h7 v n xs hown ad m c news hn hc h1c b1 b2 hbase
  unfold Oper.wp
  simp [execOp, hop, resolve, invoke, builtin, hs, hx, hrun, Result.andThen]
  exact hk _ _ (hK v' w' r1 r2)
theorem wpList_append_none_g {P : Program} {ops : Array Oper} {rest : List Oper} {o : Oper} {a : Act} {w : World} {Q : Exit → Act → World → Prop} (hw : Region.wanted o (yielded ops a.tmps) = true) (s x : Operand) (t : TypeId)
    (ho : o.op = .call { callee := .builtin .append, args := #[s, x], argTypes := #[t, t] })
    (base : Nat) (e : TypeId) (i : TypeInfo) (size : Nat) (ht : P.underlying t = some (.slice e)) (hi : P.info? e = some i)
    (v : Value) (n : Nat) (xs : List Value) (hs : a.eval s = v) (hown : w.ownsRow base e size v n xs) (hx : a.eval x = .slice none 0 0)
    (h : wpList P ops Q rest (a.put o.dst v) w) : wpList P ops Q (o :: rest) a w := by
  refine wpList_step_g hw fun K hK => ?_
  have hrun := run_append_owned_none (P := P) (w := w) base t o.type e i size ht hi v n xs hown
  unfold Oper.wp
  simp [execOp, ho, resolve, invoke, builtin, hs, hx, hrun, Result.andThen]
  exact hK _ _ h
theorem wpList_append_rd_g {P : Program} (w : World) {ops : Array Oper} {rest : List Oper} {o : Oper} {a : Act} {Q : Exit → Act → World → Prop} (hw : Region.wanted o (yielded ops a.tmps) = true) (s x : Operand) (t : TypeId)
    (ho : o.op = .call { callee := .builtin .append, args := #[s, x], argTypes := #[t, t] })
    (base : Nat) (e : TypeId) (i : TypeInfo) (z : Value) (bytes : Nat) (ht : P.underlying t = some (.slice e)) (hi : P.info? e = some i) (hz : i.zero = some z)
    (hsize : i.size = 1) (hby : i.bytes = bytes) (hzs : z.cells.size = 1)
    (v : Value) (n : Nat) (xs : List Value) (hs : a.eval s = v) (hown : w.ownsRow base e 1 v n xs)
    (k : IntKind) (vx : Value) (zs : List Int) (b : Nat) (hx : a.eval x = vx) (hr : RdAt k w vx zs b)
    (h63 : n + zs.length ≤ maxLen) (hbytes : (n + zs.length) * bytes ≤ 140737488355328) (hbase : base ≤ w.heap.size)
    (h : ∀ v' w', w'.ownsRow base e 1 v' (n + zs.length) (xs ++ zs.map (Value.int k)) → w.grownBy w' v.ownBlock → wpList P ops Q rest (a.put o.dst v') w') : wpList P ops Q (o :: rest) a w := by
  have one : ∀ u ∈ zs.map (Value.int k), u.oneCell' = true := by
    intro u hu; simp at hu; obtain ⟨y, _, rfl⟩ := hu; rfl
  rcases hr.open with ⟨rfl, ad, cap, rfl, hcm, hnil⟩ | ⟨hne, off, cap, rfl, hcap, hc⟩
  · cases ad with
    | none =>
      have hc0 := hnil rfl
      subst hc0
      refine wpList_append_none_g hw s x t ho base e i 1 ht hi v n xs hs hown hx ?_
      refine h v w ?_ ⟨rfl, rfl, rfl, Nat.le_refl _, fun _ _ _ => rfl⟩
      simpa using hown
    | some ad =>
      exact wpList_append_own_g hw s x t ho base e i z 1 bytes ht hi hz hsize hby hzs (by decide) v n xs hs hown ad 0 cap [] hx rfl (by simp) (by simp) (by simpa using h63) (by simpa using hbytes) hbase fun v' w' h1 h2 => h v' w' (by simpa using h1) h2
  · refine wpList_append_own_g hw s x t ho base e i z 1 bytes ht hi hz hsize hby hzs (by decide) v n xs hs hown ⟨b, off, none⟩ zs.length cap (zs.map (Value.int k)) hx (by simp) (fun j u hu => ?_) one h63 hbytes hbase fun v' w' h1 h2 => h v' w' h1 h2
    have hj : j < zs.length := by have := (List.getElem?_eq_some_iff.1 hu).1; simpa using this
    have e2 : (⟨b, off, none⟩ : Addr).add j = ⟨b, off + j, none⟩ := by simp [Addr.add]
    rw [e2, hc j hj]
    simpa [hj] using hu
theorem validKey_t (x : Int) (w : World) (h0 : 1 ≤ x) (h1 : x ≤ 2147483646) :
    Calls Tryd.prog 34 #[.int .i64 x] w fun e w' => e = .returned (.bool true) ∧ w = w' := by
  go_enter Tryd.func34, Tryd.ntmps34
  go_wp2
  go_ret
  exact ⟨rfl, rfl⟩
theorem wrap2 {x y : Int} (h0 : -1 ≤ x) (h1 : x ≤ 2147483648) (h2 : 0 ≤ y) (h3 : y ≤ 255) : IntKind.i64.wrap (IntKind.i64.wrap (x + 1) + y) = x + (1 + y) := by
  rw [IntKind.wrap_i64, IntKind.wrap_i64]
  omega
theorem derive_bnd (k : Int) (s : ByteArray) : 1 ≤ deriveI k s ∧ deriveI k s ≤ 2147483646 := by
  have h := keyed_bnd k (b2i (strI s))
  unfold deriveI
  split <;> omega

set_option maxRecDepth 100000 in
set_option maxHeartbeats 4000000 in
theorem fnKeyedHash_walk (a0 : Option Addr) (len0 cap0 : Nat) (s0 s1 : Addr) (w : World) (hy : BytesB w.heap.size w a0 len0) (hS : Sent s0 s1 w) :
    Calls Tryd.prog 9 #[.slice a0 len0 cap0] w fun e w' => e = .returned (.bool true) ∧ Below w.heap.size w w' := by
  obtain ⟨i0, hi, hz0, hz1, hz2⟩ := info_parts info_i64
  by_cases hb : 1048576 < len0
  · go_enter Tryd.func9, Tryd.ntmps9
    go_wp2_with fail
    refine (big_t _ _ _ _ hb).mono ?_
    rintro e w' ⟨rfl, rfl⟩
    go_wp2_with fail
    go_ret
    exact ⟨rfl, Below.refl _ _⟩
  · have HS : Hid (∀ wx, Below w.heap.size w wx → Sent s0 s1 wx) := Lib.hid (fun wx hb => hS.below hb (Nat.le_refl _))
    have HY : Hid (∀ wx, Below w.heap.size w wx → BytesB wx.heap.size wx a0 len0) := Lib.hid (fun wx hb => (hy.below hb).mono hb.size)
    have hlen : len0 ≤ 1048576 := by omega
    clear hS
    go_enter Tryd.func9, Tryd.ntmps9
    go_wp2_with fail
    refine (big_f _ _ _ _ (by omega)).mono ?_
    rintro e w' ⟨rfl, rfl⟩
    go_wp2_with fail
    refine (drawKeyedHash_any a0 len0 cap0 w (by omega) hy).mono ?_
    rintro e w1 ⟨⟨k, v, rfl, hk, zs, hzl, hzb, r, hwr⟩, B⟩
    have hrd := hwr.rd
    have hwf := Lib.hid hrd.wf
    have Hk := Lib.hid hk
    have Hzb := Lib.hid hzb
    have hbd := keyed_bnd k zs
    obtain ⟨hb0, hb1⟩ := hbd
    have HH := Lib.hid (keyed_hash k zs)
    clear hk hwr hy hzb hb
    obtain ⟨p0, q0, rfl, -⟩ := id hrd
    go_wp2_with fail
    refine (keyedHash_any s0 s1 k _ zs r w1 hrd (by omega) Hk.out (HS.out _ B)).mono ?_
    rintro e w2 ⟨rfl, b2⟩
    obtain ⟨Kh, hKh⟩ : ∃ Kh, Kh = keyedI k zs := ⟨_, rfl⟩
    have HKh := Lib.hid hKh
    rw [← hKh] at hb0 hb1 ⊢
    have hd0 : decide (Kh < 0) = false := by simp; omega
    have hd1 : decide (2147483647 ≤ Kh) = false := by simp; omega
    clear hKh
    replace hrd := hrd.below b2
    replace B := B.trans (b2.mono B.size)
    clear b2
    have hown0 := World.ownsRow_lit (base := w2.heap.size) (e := 3) (size := 1) w2 #[.int .i64 k] 1 (Nat.le_refl _) (by unfold maxLen; omega) rfl
    have hB1 : Below w2.heap.size w2 (w2.alloc (.cells #[.int .i64 k] 3)) := (Below.refl _ _).alloc (Nat.le_refl _) _
    have hrd1 := hrd.below hB1
    go_wp2_with (at_builtin; refine wpList_append_rd_g _ (by rfl) _ _ 22 rfl w2.heap.size 3 i0 (.int .i64 0) 8 Tryd.underlying22 hi hz0 hz1 hz2 rfl _ _ _ rfl hown0 .i64 _ zs r rfl hrd1 ?d3 ?d4 (by simp) ?_)
    case d3 => unfold maxLen; omega
    case d4 => omega
    intro v3 w3 hown hgr
    have hB2 : Below w2.heap.size w2 w3 := hB1.grown hgr hB1.size (own_block hown0)
    have hsz := hB2.size
    clear hgr hrd1 hown0 hB1
    go_wp2_with (at_builtin; refine wpList_append_own_g (by rfl) _ _ 22 rfl w2.heap.size 3 i0 (.int .i64 0) 1 8 Tryd.underlying22 hi hz0 hz1 hz2 rfl (by decide) _ _ _ rfl (hown.alloc _) ⟨w3.heap.size, 0, none⟩ 1 1 [.int .i64 k] rfl rfl (cell_one_new _ _ _) (one_cell _ _) ?e3 ?e4 (by simp; omega) ?_)
    case e3 => unfold maxLen; omega
    case e4 => omega
    intro v4 w4 hown2 hgr2
    have hB3 : Below w2.heap.size w2 w4 := (hB2.alloc hsz _).grown hgr2 (by simp; omega) (own_block hown)
    have hown3 : w4.ownsRow w2.heap.size 3 1 v4 ([k] ++ zs ++ [k]).length (([k] ++ zs ++ [k]).map (Value.int .i64)) := by
      have e : ([k] ++ zs ++ [k]).length = 1 + zs.length + 1 := by simp; omega
      rw [e]
      simpa using hown2
    obtain ⟨b4, -, hw4⟩ := own_wr hown3 (by
      intro x hx
      rcases List.mem_append.1 hx with hx | hx
      · rcases List.mem_append.1 hx with hx | hx
        · simp at hx; subst hx; exact Hk.out
        · exact hwf.out x hx
      · simp at hx; subst hx; exact Hk.out)
    replace hrd := hrd.below hB3
    replace B := B.trans (hB3.mono B.size)
    have hrd4 := hw4.rd
    clear hown2 hgr2 hown hB2 hown3 hw4 hB3 hsz
    go_wp2_with fail
    refine (hash_any s0 s1 v4 _ b4 w4 hrd4 (by simp; omega) (HS.out _ B)).mono ?_
    rintro e w5 ⟨rfl, b5⟩
    rw [HH.out, ← HKh.out]
    replace hrd := hrd.below b5
    replace B := B.trans (b5.mono B.size)
    clear b5 hrd4
    by_cases hz : zs.length = 0
    · clear hrd
      go_wp2_with fail
      refine (drawDerive_any a0 len0 cap0 w5 hlen (HY.out _ B)).mono ?_
      rintro e w20 ⟨⟨k2, s, rfl, hk2, hs⟩, b6⟩
      replace B := B.trans (b6.mono B.size)
      clear b6
      go_wp2_with fail
      refine (derive_any s0 s1 k2 s w20 (by omega) hk2 (HS.out _ B)).mono ?_
      rintro e w21 ⟨rfl, b7⟩
      replace B := B.trans (b7.mono B.size)
      have hdv := derive_bnd k2 s
      obtain ⟨hdv0, hdv1⟩ := hdv
      clear b7
      go_wp2_with fail
      refine (validKey_t _ _ hdv0 hdv1).mono ?_
      rintro e w22 ⟨rfl, rfl⟩
      go_wp2_with fail
      go_ret
      exact ⟨rfl, B⟩
    · have hzp : 0 < zs.length := by omega
      have hown0 := World.ownsRow_lit (base := w5.heap.size) (e := 3) (size := 1) w5 #[] 0 (Nat.le_refl _) (Nat.zero_le _) rfl
      have hsz5 := B.size
      have hB1 : Below w5.heap.size w5 (w5.alloc (.cells #[] 3)) := (Below.refl _ _).alloc (Nat.le_refl _) _
      have hrd1 := hrd.below hB1
      clear hz
      go_wp2_with (at_builtin; refine wpList_append_rd _ rfl _ _ 22 rfl w5.heap.size 3 i0 (.int .i64 0) 8 Tryd.underlying22 hi hz0 hz1 hz2 rfl _ _ _ rfl hown0 .i64 _ zs r rfl hrd1 ?f3 ?f4 (by simp) ?_)
      case f3 => unfold maxLen; omega
      case f4 => omega
      intro v6 w6 hown hgr
      have hB2 : Below w5.heap.size w5 w6 := hB1.grown hgr hB1.size (own_block hown0)
      replace B := B.trans (hB2.mono B.size)
      have hown' : w6.ownsRow w5.heap.size 3 1 v6 zs.length (zs.map (Value.int .i64)) := by simpa using hown
      obtain ⟨b6, hb6, hw6⟩ := own_wr hown' hwf.out
      have hb6w := Lib.hid (Nat.le_trans hsz5 hb6)
      rcases hw6.open with ⟨rfl, _⟩ | ⟨-, off, cap, rfl, hcap, hC, hF⟩
      · exact absurd hzp (by simp)
      have HC := Lib.hid hC
      have HF := Lib.hid hF
      obtain ⟨hcap0, hcap1⟩ := hcap
      clear hown hgr hrd hrd1 hown0 hB1 hB2 hown' hw6 hC hF hb6 hsz5
      go_wp2_with fail
      refine (at_any a0 len0 cap0 0 w6 hlen (by omega) (HY.out _ B)).mono ?_
      rintro e w7 ⟨x, rfl, ⟨hx0, hx1⟩, rfl⟩
      have hm0 := Int.emod_nonneg x (show (zs.length : Int) ≠ 0 by omega)
      have hm1 := Int.emod_lt_of_pos x (show (0 : Int) < (zs.length : Int) by omega)
      go_wp2_with fail
      obtain ⟨j, hj⟩ := Int.eq_ofNat_of_zero_le hm0
      rw [hj] at hm1 ⊢
      have hjl : j < zs.length := by omega
      clear hj hm0 hm1 hx0 hx1
      obtain ⟨x0, hx0⟩ : ∃ x0, zs[j] = x0 := ⟨_, rfl⟩
      have hxb := Hzb.out zs[j] (List.getElem_mem hjl)
      rw [hx0] at hxb
      obtain ⟨hx1, hx2⟩ := hxb
      have Hx0 := Lib.hid hx0
      have hc6 : w6.cell? ⟨b6, off + j, none⟩ = some (.int .i64 x0) := by rw [HC.out j hjl, hx0]
      have hf6 : w6.frozen? ⟨b6, off + j, none⟩ = false := HF.out j hjl
      clear hx0
      go_region_with (first
        | (go_at_call 31; refine (at_any a0 len0 cap0 1 _ hlen (by omega) (HY.out _ B.drew)).mono ?_; rintro e w8 ⟨y, rfl, ⟨hy0, hy1⟩, rfl⟩)
        | (go_at_call 32; rw [wrap2 hx1 hx2 hy0 hy1]; refine (sMod_any _ _ _ (WalkArith.wf_i64 (by omega))).mono ?_; rintro e w9 ⟨rfl, rfl⟩))
      all_goals
        obtain ⟨Y, hY⟩ : ∃ Y, Y = modI (x0 + (1 + y)) 2147483647 := ⟨_, rfl⟩
        have hyne := keyed_ne (k := k) (t := 1 + y) hjl Hx0.out (by omega) (by omega)
        have hYb := modI_bd (x0 + (1 + y))
        rw [← hY] at hyne hYb ⊢
        rw [← HKh.out] at hyne
        have hrdS : RdAt .i64 ((w6.setCell ⟨b6, off + j, none⟩ (.int .i64 Y)).drew) (.slice (some ⟨b6, off, none⟩) zs.length cap) (zs.set j Y) b6 :=
          ⟨_, cap, by rw [List.length_set], ⟨by rw [List.length_set]; exact hcap0, hcap1, fun h => by cases h⟩, fun n hn => (List.mem_or_eq_of_mem_set hn).elim (hwf.out n) (fun h => by subst h; exact WalkArith.wf_i64 (by omega)), .inr ⟨off, rfl, HC.out.store hjl Y⟩⟩
        replace B := (B.setCell (p := ⟨b6, off + j, none⟩) (show w.heap.size ≤ b6 from hb6w.out) (.int .i64 Y)).drew
        generalize (w6.setCell ⟨b6, off + j, none⟩ (.int .i64 Y)).drew = w8 at hrdS B ⊢
        obtain ⟨K2, hK2⟩ : ∃ K2, K2 = keyedI k (zs.set j Y) := ⟨_, rfl⟩
        rw [← hK2] at hyne
        have hq : (K2 == Kh) = false := by simpa using hyne
        have HK2 := Lib.hid hK2
        clear hc6 hf6 hyne hY hYb hK2 hx1 hx2 hy0 hy1
        go_wp2_with fail
        refine (keyedHash_any s0 s1 k _ (zs.set j Y) b6 w8 hrdS (by rw [List.length_set]; omega) Hk.out (HS.out _ B)).mono ?_
        rintro e w9 ⟨rfl, b9⟩
        rw [← HK2.out]
        replace B := B.trans (b9.mono B.size)
        clear b9 hrdS
        go_wp2_with fail
        refine (drawDerive_any a0 len0 cap0 w9 hlen (HY.out _ B)).mono ?_
        rintro e w20 ⟨⟨k2, s, rfl, hk2, hs⟩, b6⟩
        replace B := B.trans (b6.mono B.size)
        clear b6
        go_wp2_with fail
        refine (derive_any s0 s1 k2 s w20 (by omega) hk2 (HS.out _ B)).mono ?_
        rintro e w21 ⟨rfl, b7⟩
        replace B := B.trans (b7.mono B.size)
        have hdv := derive_bnd k2 s
        obtain ⟨hdv0, hdv1⟩ := hdv
        clear b7
        go_wp2_with fail
        refine (validKey_t _ _ hdv0 hdv1).mono ?_
        rintro e w22 ⟨rfl, rfl⟩
        go_wp2_with fail
        go_ret
        exact ⟨rfl, B⟩
end Go.Proofs.YtchpkpajnjcnbaaDoor
