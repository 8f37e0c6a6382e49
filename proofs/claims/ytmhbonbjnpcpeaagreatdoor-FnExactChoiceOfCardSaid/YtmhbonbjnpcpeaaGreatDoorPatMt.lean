/-
  Patterns: the model's value of a sign, Matches.
-/
import Derived.Test.YtmhbonbjnpcpeaaGreatDoorM6
import Derived.Test.YtmhbonbjnpcpeaaGreatDoorM8
import Derived.Test.YtmhbonbjnpcpeaaGreatDoorM5
import Derived.Lib.AppendZerosOnto
import Derived.Deep.RegionHeld3
import Derived.Deep.DeepAppendRoom
namespace Go.Proofs.YtmhbonbjnpcpeaaGreatDoor
open Go.RowKit
set_option linter.unusedVariables false
set_option linter.unusedSimpArgs false

theorem leaf_cases {s : Int} {f : Int → Bool} (h : leafF s = some f) : (100 ≤ s ∧ s ≤ 103 ∧ f = fun c => decide (c / 13 = s - 100)) ∨ (200 ≤ s ∧ s ≤ 212 ∧ f = fun c => decide (c % 13 = s - 200)) ∨ (300 ≤ s ∧ s ≤ 312 ∧ f = fun c => decide (s - 300 ≤ c % 13)) ∨ (s = 400 ∧ f = fun c => decide (c / 13 = 1) || decide (c / 13 = 2)) := by
  unfold leafF at h
  by_cases h1 : 100 ≤ s ∧ s ≤ 103
  · rw [if_pos h1] at h; cases h; exact .inl ⟨h1.1, h1.2, rfl⟩
  rw [if_neg h1] at h
  by_cases h2 : 200 ≤ s ∧ s ≤ 212
  · rw [if_pos h2] at h; cases h; exact .inr (.inl ⟨h2.1, h2.2, rfl⟩)
  rw [if_neg h2] at h
  by_cases h3 : 300 ≤ s ∧ s ≤ 312
  · rw [if_pos h3] at h; cases h; exact .inr (.inr (.inl ⟨h3.1, h3.2, rfl⟩))
  rw [if_neg h3] at h
  by_cases h4 : s = 400
  · rw [if_pos h4] at h; cases h; exact .inr (.inr (.inr ⟨h4, rfl⟩))
  rw [if_neg h4] at h; cases h
set_option maxRecDepth 100000 in
set_option maxHeartbeats 1000000 in
theorem sValue_any (s c : Int) (f : Int → Bool) (w : World) (hf : leafF s = some f) (hc : isCard c = true) (r : Bool) (hr : f c = r) :
    Calls Tryz.prog 55 #[.int .i64 s, .int .i64 c] w fun e w' => e = .returned (.bool r) ∧ w = w' := by
  have hsu := suit_in hc
  have hra := rank_in hc
  obtain ⟨c0, c1⟩ := isCard_t hc
  rcases leaf_cases hf with ⟨a1, a2, rfl⟩ | ⟨a1, a2, rfl⟩ | ⟨a1, a2, rfl⟩ | ⟨rfl, rfl⟩
  · obtain ⟨x, hx⟩ : ∃ x, suitOf c = x := ⟨_, rfl⟩
    have HS := Lib.hid (fun wx => sSuitOf_r c wx x hx)
    have hq : (x == s - 100) = r := by rw [← hr]; dsimp only; rw [← hsu, hx]; exact Bool.beq_eq_decide_eq _ _
    have q4 : (s == 400) = false := by simp; omega
    have d3 : decide (300 ≤ s) = false := by simp; omega
    have d2 : decide (200 ≤ s) = false := by simp; omega
    clear hr hsu hra hf hx hc
    go_enter Tryz.func55, Tryz.ntmps55
    go_wp2_with fail
    refine (HS.out _).mono ?_
    rintro e _w ⟨rfl, rfl⟩
    go_wp2_with fail
    go_ret
    exact ⟨rfl, rfl⟩
  · obtain ⟨x, hx⟩ : ∃ x, rankOf c = x := ⟨_, rfl⟩
    have HS := Lib.hid (fun wx => sRankOf_r c wx x hx)
    have hq : (x == s - 200) = r := by rw [← hr]; dsimp only; rw [← hra, hx]; exact Bool.beq_eq_decide_eq _ _
    have q4 : (s == 400) = false := by simp; omega
    have d3 : decide (300 ≤ s) = false := by simp; omega
    have d2 : decide (200 ≤ s) = true := by simp; omega
    clear hr hsu hra hf hx hc
    go_enter Tryz.func55, Tryz.ntmps55
    go_wp2_with fail
    refine (HS.out _).mono ?_
    rintro e _w ⟨rfl, rfl⟩
    go_wp2_with fail
    go_ret
    exact ⟨rfl, rfl⟩
  · obtain ⟨x, hx⟩ : ∃ x, rankOf c = x := ⟨_, rfl⟩
    have HS := Lib.hid (fun wx => sRankOf_r c wx x hx)
    have hq : decide (s - 300 ≤ x) = r := by rw [← hr]; dsimp only; rw [← hra, hx]
    have q4 : (s == 400) = false := by simp; omega
    have d3 : decide (300 ≤ s) = true := by simp; omega
    clear hr hsu hra hf hx hc
    go_enter Tryz.func55, Tryz.ntmps55
    go_wp2_with fail
    refine (HS.out _).mono ?_
    rintro e _w ⟨rfl, rfl⟩
    go_wp2_with fail
    go_ret
    exact ⟨rfl, rfl⟩
  · have HR := Lib.hid (fun wx => sIsRed_r c wx r (by rw [← hr]; unfold redB; rw [hsu]; dsimp only; by_cases e1 : c / 13 = 1 <;> by_cases e2 : c / 13 = 2 <;> simp [e1, e2]))
    clear hr hsu hra hf hc
    go_enter Tryz.func55, Tryz.ntmps55
    go_wp2_with fail
    refine (HR.out _).mono ?_
    rintro e _w ⟨rfl, rfl⟩
    go_wp2_with fail
    go_ret
    exact ⟨rfl, rfl⟩
def boolV (st : List (Int → Bool)) (c : Int) : List Value := st.map fun f => Value.bool (f c)
theorem boolV_len (st : List (Int → Bool)) (c : Int) : (boolV st c).length = st.length := by simp [boolV]
theorem boolV_at (st : List (Int → Bool)) (c : Int) (j : Nat) (h : j < st.length) : (boolV st c)[j]? = some (.bool (getF st j c)) := by simp [boolV, getF, List.getD, h]
theorem boolV_app (st : List (Int → Bool)) (f : Int → Bool) (c : Int) : boolV (st ++ [f]) c = boolV st c ++ [.bool (f c)] := by simp [boolV]
theorem boolV_take (st : List (Int → Bool)) (c : Int) (m : Nat) : boolV (st.take m) c = (boolV st c).take m := by simp [boolV, List.map_take]
theorem boolV_set (st : List (Int → Bool)) (c : Int) (f : Int → Bool) (h : 1 ≤ st.length) : (boolV st c).set (st.length - 1) (.bool (f c)) = boolV (st.take (st.length - 1) ++ [f]) c := by
  refine List.ext_getElem (by simp [boolV]; omega) fun j h1 h2 => ?_
  have hj : j < st.length := by simpa [boolV] using h1
  by_cases e : j = st.length - 1
  · subst e; simp [boolV]
  · rw [List.getElem_set_ne (by omega)]; simp [boolV]; rw [List.getElem_append_left (by simp; omega)]; simp
theorem info_bool : (Tryz.prog.info? 4).map (fun i => (i.zero, i.size, i.bytes)) = some (some (.bool false), 1, 1) := by kernel_rfl
theorem info_partsB {p : Option TypeInfo} {z : Value} {s b : Nat} (h : p.map (fun i => (i.zero, i.size, i.bytes)) = some (some z, s, b)) : ∃ i, p = some i ∧ i.zero = some z ∧ i.size = s ∧ i.bytes = b := by
  cases p with
  | none => simp at h
  | some i => simp at h; exact ⟨i, rfl, h.1, h.2.1, h.2.2⟩
theorem own_prefix {w : World} {B : Nat} {E : TypeId} {g n cap m : Nat} {xs : List Value} (h : w.ownsRow B E 1 (.slice (some ⟨g, 0, none⟩) n cap) n xs) (hm : m ≤ n) : w.ownsRow B E 1 (.slice (some ⟨g, 0, none⟩) m cap) m (xs.take m) := by
  obtain ⟨h1, h2⟩ := h
  refine ⟨by rw [List.length_take]; omega, ?_⟩
  rcases h2 with ⟨e, -⟩ | ⟨g', cap', cur, e, hg, hh, h3, h4, h5, h6⟩
  · cases e
  · simp only [Value.slice.injEq, Option.some.injEq, Addr.mk.injEq, and_true, true_and] at e
    obtain ⟨rfl, rfl⟩ := e
    exact .inr ⟨g, cap, cur, rfl, hg, hh, by omega, h4, h5, by rw [← h6, List.take_take]; congr 1; omega⟩
theorem own_shapeB {w : World} {B : Nat} {E : TypeId} {n : Nat} {v : Value} {xs : List Value} (h : w.ownsRow B E 1 v n xs) (hn : v ≠ .slice none 0 0) : ∃ g cap, v = .slice (some ⟨g, 0, none⟩) n cap ∧ B ≤ g ∧ n ≤ cap ∧ cap ≤ maxLen := by
  rcases h.2 with ⟨e, -⟩ | ⟨g, cap, cur, e, hg, hh, h3, h4, h5, h6⟩
  · exact absurd e hn
  · exact ⟨g, cap, e, hg, h3, h4⟩
theorem runOwnP {P : Program} {ops : Array Oper} {o : Oper} {a : Act} {w : World} {K : Act → World → Prop} {Q : Exit → Act → World → Prop} {E : Prop} (hg : o.guard = none) (s x : Operand) (t tn : TypeId)
    (ho : o.op = .call { callee := .builtin .append, args := #[s, x], argTypes := #[t, tn] }) (vs vx : Value) (hs : a.eval s = vs) (hx : a.eval x = vx)
    (v' : Value) (w' : World) (hr : (Builtin.append_ #[t, tn] o.type #[vs, vx]).run P w = .ok v' w') (h : K (a.put o.dst v') w') : if Region.wanted o (yielded ops a.tmps) = true then Oper.wp P o a w K Q else E := step_append_runP hg s x t tn ho vs vx hs hx v' w' hr h
theorem appB_run (W : World) (base g n cap m : Nat) (xs : List Value) (x : Bool) (xb : Nat) (hown : W.ownsRow base 4 1 (.slice (some ⟨g, 0, none⟩) n cap) n xs) (hm : m ≤ n) (hx : W.cell? ⟨xb, 0, none⟩ = some (.bool x)) (h20 : m ≤ 1048576) (hb : base ≤ W.heap.size) :
    ∃ (g' cap' : Nat) (W' : World), (Builtin.append_ #[84, 84] 84 #[.slice (some ⟨g, 0, none⟩) m cap, .slice (some ⟨xb, 0, none⟩) 1 1]).run Tryz.prog W = .ok (.slice (some ⟨g', 0, none⟩) (m + 1) cap') W' ∧
      W'.ownsRow base 4 1 (.slice (some ⟨g', 0, none⟩) (m + 1) cap') (m + 1) (xs.take m ++ [.bool x]) ∧ Below base W W' := by
  obtain ⟨i0, hi, hz0, hz1, hz2⟩ := info_partsB info_bool
  have hp := own_prefix hown hm
  obtain ⟨v', W', hr, ho, hg, -⟩ := run_append_own (P := Tryz.prog) W base 84 84 4 i0 (.bool false) 1 1 Tryz.underlying84 hi hz0 hz1 hz2 rfl (by decide) (.slice (some ⟨g, 0, none⟩) m cap) m (xs.take m) hp ⟨xb, 0, none⟩ 1 1 [.bool x] rfl (fun j u hj => by
    match j with
    | 0 => simp at hj; subst hj; simpa [Addr.add] using hx
    | j + 1 => simp at hj) (by intro u hu; simp at hu; subst hu; rfl) (by unfold maxLen; omega) (by omega) hb
  have hB : Below base W W' := (Below.refl _ _).grown hg hb (own_block hp)
  rcases ho.2 with ⟨-, h0⟩ | ⟨g', cap', cur, rfl, r⟩
  · omega
  exact ⟨g', cap', W', hr, ho, hB⟩
theorem appB_spare (W : World) (base g n cap m : Nat) (xs : List Value) (x : Bool) (xb : Nat) (hown : W.ownsRow base 4 1 (.slice (some ⟨g, 0, none⟩) n cap) n xs) (hm : m + 1 ≤ n) (hn : n ≤ cap) (hx : W.cell? ⟨xb, 0, none⟩ = some (.bool x)) :
    ∃ (W' : World), (Builtin.append_ #[84, 84] 84 #[.slice (some ⟨g, 0, none⟩) m cap, .slice (some ⟨xb, 0, none⟩) 1 1]).run Tryz.prog W = .ok (.slice (some ⟨g, 0, none⟩) (m + 1) cap) W' ∧
      W'.ownsRow base 4 1 (.slice (some ⟨g, 0, none⟩) (m + 1) cap) (m + 1) (xs.take m ++ [.bool x]) ∧ Below base W W' := by
  obtain ⟨i0, hi, hz0, hz1, hz2⟩ := info_partsB info_bool
  have hp := own_prefix hown (show m ≤ n by omega)
  have hgb : base ≤ g := own_block hown g rfl
  obtain ⟨W', hr, ho, hg⟩ := run_append_own_spare (P := Tryz.prog) W base 84 84 4 i0 1 Tryz.underlying84 hi hz1 g m cap (xs.take m) hp ⟨xb, 0, none⟩ 1 1 [.bool x] rfl (fun j u hj => by
    match j with
    | 0 => simp at hj; subst hj; simpa [Addr.add] using hx
    | j + 1 => simp at hj) (by intro u hu; simp at hu; subst hu; rfl) (by omega)
  have hgl : g < W.heap.size := by
    rcases hown.2 with ⟨e, -⟩ | ⟨g', cap', cur, e, -, hh, -⟩
    · cases e
    · simp only [Value.slice.injEq, Option.some.injEq, Addr.mk.injEq, and_true, true_and] at e
      obtain ⟨rfl, -⟩ := e
      exact (Array.getElem?_eq_some_iff.1 hh).1
  have hB : Below base W W' := (Below.refl _ _).grown hg (by omega) (fun k hk => by cases hk; exact hgb)
  exact ⟨W', hr, ho, hB⟩
set_option maxRecDepth 100000 in
set_option maxHeartbeats 8000000 in
theorem sMatches_any (v : Value) (zs : List Int) (b : Nat) (c : Int) (w : World) (h : RdAt .i64 w v zs b) (hl : zs.length ≤ 1048576) (r : Bool) (hr : matchB zs c = r) :
    Calls Tryz.prog 40 #[v, .int .i64 c] w fun e w' => e = .returned (.bool r) ∧ Below w.heap.size w w' := by
  obtain ⟨i0, hi, hz0, hz1, hz2⟩ := info_partsB info_bool
  have hlt0 := h.lt
  have HP := Lib.hid (sIsPattern_any v zs b w h (by omega) _ rfl)
  obtain ⟨a, cap, rfl, -, -, hcell⟩ := h
  have Hr := Lib.hid hr
  obtain ⟨n, hn⟩ : ∃ n, n = zs.length := ⟨_, rfl⟩
  have Hn := Lib.hid hn
  rw [← hn] at hl HP ⊢
  clear hn hr
  have HCl : Hid (∀ wx, Below w.heap.size w wx → ∀ k, k < n → ∃ off, a = some ⟨b, off, none⟩ ∧ wx.cell? ⟨b, off + k, none⟩ = some (.int .i64 (zs.getD k 0))) := Lib.hid (fun wx bx k hk => cells_atP bx hlt0 hcell (by rw [← Hn.out]; exact hk))
  clear hlt0 hcell
  cases hpt : isPat zs with
  | false =>
    rw [hpt] at HP
    have hres : Hid (r = false) := Lib.hid (by rw [← Hr.out]; unfold matchB; rw [hpt]; rfl)
    clear hpt
    go_enter Tryz.func40, Tryz.ntmps40
    go_wp2_with fail
    refine HP.out.mono ?_
    rintro e _w ⟨rfl, rfl⟩
    go_wp2_with fail
    go_ret
    exact ⟨by rw [hres.out]; rfl, Below.refl _ _⟩
  | true =>
  rw [hpt] at HP
  have Hpt := Lib.hid hpt
  clear hpt
  have HC := Lib.hid (sIsCard_r c w _ rfl)
  cases hcd : isCard c with
  | false =>
    rw [hcd] at HC
    have hres : Hid (r = false) := Lib.hid (by rw [← Hr.out]; unfold matchB; rw [Hpt.out, hcd]; rfl)
    clear hcd
    go_enter Tryz.func40, Tryz.ntmps40
    go_wp2_with fail
    refine HP.out.mono ?_
    rintro e _w ⟨rfl, rfl⟩
    go_wp2_with fail
    refine HC.out.mono ?_
    rintro e _w ⟨rfl, rfl⟩
    go_wp2_with fail
    go_ret
    exact ⟨by rw [hres.out]; rfl, Below.refl _ _⟩
  | true =>
  rw [hcd] at HC
  have Hcd := Lib.hid hcd
  have hrp : r = patF zs c := by rw [← Hr.out]; unfold matchB; rw [Hpt.out, hcd]; rfl
  have Hrp := Lib.hid hrp
  clear hcd hrp
  have hown0 := World.ownsRow_lit (base := w.heap.size) (e := 4) (size := 1) w #[] 0 (Nat.le_refl _) (Nat.zero_le _) rfl
  go_enter Tryz.func40, Tryz.ntmps40
  go_wp2_with fail
  refine HP.out.mono ?_
  rintro e _w ⟨rfl, rfl⟩
  go_wp2_with fail
  refine HC.out.mono ?_
  rintro e _w ⟨rfl, rfl⟩
  go_wp2_with fail
  go_loopw [5, 6, 7, 38, 50, 70] (fun p i _ _ _ _ wr => ∃ (k : Nat) (st : List (Int → Bool)) (g cp : Nat), k ≤ n ∧ i = .int .i64 k ∧ Below w.heap.size w wr ∧ Hid (workP [] (zs.take k) = some st) ∧ st.length ≤ k ∧ p = .slice (some ⟨g, 0, none⟩) st.length cp ∧ wr.ownsRow w.heap.size 4 1 p st.length (boolV st c)) (fun _ i _ _ _ _ _ => n - (intOf i).toNat)
  case atStart => exact ⟨0, [], _, _, Nat.zero_le _, rfl, (Below.refl _ _).alloc (Nat.le_refl _) _, Lib.hid rfl, Nat.zero_le _, rfl, hown0⟩
  case round =>
    clear hown0
    obtain ⟨k, st, g, cp, hk, rfl, B, hst, hsl, rfl, hown⟩ := hrel
    by_cases hlt : k < n
    · have hkz : k < zs.length := by rw [← Hn.out]; exact hlt
      obtain ⟨off, ha, hc⟩ := HCl.out wr B k hlt
      subst ha
      obtain ⟨s, hs⟩ : ∃ s, Hid (zs.getD k 0 = s) := ⟨_, Lib.hid rfl⟩
      rw [hs.out] at hc
      have hz : zs[k] = s := by rw [← hs.out]; simp [List.getD, hkz]
      have hnext := work_next zs k hkz st hst.out
      rw [hz] at hnext
      have hbad : stepP st s = none → False := fun e => by have := pat_bad zs k hkz st hst.out (by rw [hz]; exact e); rw [Hpt.out] at this; cases this
      have hszB := B.size
      cases hlf : leaf s with
      | true =>
        obtain ⟨f, hf⟩ := leaf_some s hlf
        have hs' := step_leaf st s f hf
        have hst2 : Hid (workP [] (zs.take (k + 1)) = some (st ++ [f])) := Lib.hid (hnext.trans hs')
        obtain ⟨x, hx⟩ : ∃ x, f c = x := ⟨_, rfl⟩
        have HV := Lib.hid (fun wx => sValue_any s c f wx hf Hcd.out x hx)
        have hap : Hid (boolV (st ++ [f]) c = boolV st c ++ [.bool x]) := Lib.hid (by rw [boolV_app, hx])
        have hlp := leaf_iff s
        rw [hlf] at hlp
        have hpos := of_decide_eq_true hlp.symm
        have q1 : (s == -1) = false := by simp; omega
        have q2 : (s == -2) = false := by simp; omega
        have q3 : (s == -3) = false := by simp; omega
        have hln : Hid ((st ++ [f]).length = st.length + 1) := Lib.hid (by simp)
        clear hlf hnext hbad hs' hf hx hz hlp hpos
        generalize boolV st c = vs at *
        generalize st.length = sl at *
        go_wp2_with fail
        refine (HV.out _).mono ?_
        rintro e _w ⟨rfl, rfl⟩
        go_wp2_with (at_builtin; refine wpList_append_own _ rfl _ _ 84 rfl w.heap.size 4 i0 (.bool false) 1 1 Tryz.underlying84 hi hz0 hz1 hz2 rfl (by decide) _ _ _ rfl (hown.alloc _) ⟨wr.heap.size, 0, none⟩ 1 1 [.bool x] rfl rfl ?c1 ?c2 ?c3 ?c4 ?c5 ?_)
        case c1 => exact cell_one_new _ _ _
        case c2 => intro u hu; simp at hu; subst hu; rfl
        case c3 => unfold maxLen; omega
        case c4 => omega
        case c5 => simp; omega
        intro v' w1 hown' hgrow _
        have hb3 : Below w.heap.size w w1 := (B.alloc hszB _).grown hgrow (by simp; omega) (own_block hown)
        clear hgrow hown
        obtain ⟨g', cp', rfl⟩ : ∃ g' cp', v' = .slice (some ⟨g', 0, none⟩) (sl + 1) cp' := by
          rcases hown'.2 with ⟨-, h0⟩ | ⟨g', cp', cur, e, -⟩
          · omega
          · exact ⟨g', cp', e⟩
        go_wp2_with fail
        go_roundw
        case rel => exact ⟨k + 1, st ++ [f], g', cp', by omega, by go_num, hb3, hst2, by rw [hln.out]; omega, by rw [hln.out], by rw [hln.out, hap.out]; exact hown'⟩
        case measure => simp [intOf]; omega
      | false =>
        have hlf2 := hlf
        by_cases h1 : s = -1
        · subst h1
          obtain ⟨m, hm⟩ : ∃ m, st.length = m + 1 := ⟨st.length - 1, by by_cases h2 : 1 ≤ st.length; omega; exact (hbad (step_bad st _ hlf (by omega) (by omega) (by omega))).elim⟩
          have hs' := step_not st (by omega)
          have hset := boolV_set st c (notF (getF st (st.length - 1))) (by omega)
          rw [hm, show m + 1 - 1 = m from rfl] at hs' hset
          have hst2 := Lib.hid (hnext.trans hs')
          have hx0 := hown.cellAt m (by omega)
          rw [boolV_at st c m (by omega)] at hx0
          have hz0' := hown.frozenAt m
          have hln : Hid ((st.take m ++ [notF (getF st m)]).length = m + 1) := Lib.hid (by simp; omega)
          have hgb : w.heap.size ≤ g := own_block hown g rfl
          obtain ⟨x, hx⟩ : ∃ x, getF st m c = x := ⟨_, rfl⟩
          rw [hx] at hx0
          have hnf : notF (getF st m) c = !x := by unfold notF; rw [hx]
          rw [hnf] at hset
          have hsto := (hown.stored m (.bool (!x))).1
          rw [hset, hm] at hsto
          have hsto := Lib.hid hsto
          have hB2 : Below w.heap.size w (wr.setCell ⟨g, m, none⟩ (.bool (!x))) := B.setCell hgb _
          rw [hm] at hsl ⊢
          clear hlf hlf2 hnext hbad hs' hz hown hx hnf hset hm
          go_wp2_with fail
          go_roundw
          case rel => exact ⟨k + 1, _, g, cp, by omega, by go_num, hB2, hst2, by rw [hln.out]; omega, by rw [hln.out], by rw [hln.out]; exact hsto.out⟩
          case measure => simp [intOf]; omega
        · have q1 : (s == -1) = false := by simpa using h1
          by_cases h2 : s = -2
          · subst h2
            obtain ⟨m, hm⟩ : ∃ m, st.length = m + 2 := ⟨st.length - 2, by by_cases h2 : 2 ≤ st.length; omega; exact (hbad (step_bad st _ hlf (by omega) (by omega) (by omega))).elim⟩
            have hs' := step_and st (by omega)
            rw [hm, show m + 2 - 2 = m from rfl, show m + 2 - 1 = m + 1 from rfl] at hs'
            have hst2 := Lib.hid (hnext.trans hs')
            have hx0 := hown.cellAt m (by omega)
            have hx1 := hown.cellAt (m + 1) (by omega)
            rw [boolV_at st c m (by omega)] at hx0
            rw [boolV_at st c (m + 1) (by omega)] at hx1
            have hap : Hid (boolV (st.take m ++ [andF (getF st m) (getF st (m + 1))]) c = (boolV st c).take m ++ [.bool (andF (getF st m) (getF st (m + 1)) c)]) := Lib.hid (by rw [boolV_app, boolV_take])
            have hln : Hid ((st.take m ++ [andF (getF st m) (getF st (m + 1))]).length = m + 1) := Lib.hid (by simp; omega)
            have hgb : w.heap.size ≤ g := own_block hown g rfl
            generalize boolV st c = vs at *
            obtain ⟨x, hx⟩ : ∃ x, getF st m c = x := ⟨_, rfl⟩
            obtain ⟨y, hy⟩ : ∃ y, getF st (m + 1) c = y := ⟨_, rfl⟩
            rw [hx] at hx0
            rw [hy] at hx1
            have hx0c := hx0
            rw [hown.cellAt m (by omega)] at hx0c
            obtain ⟨R, hR⟩ : ∃ R : Bool, R = (x && y) := ⟨_, rfl⟩
            have hRv : andF (getF st m) (getF st (m + 1)) c = R := by unfold andF; rw [hx, hy, hR]
            rw [hRv] at hap
            have hcp2 : m + 2 ≤ cp := by
              rw [hm] at hown
              rcases hown.2 with ⟨e, -⟩ | ⟨g', cap', cur, e, -, -, h3, -⟩
              · cases e
              · simp only [Value.slice.injEq, Option.some.injEq, Addr.mk.injEq, and_true, true_and] at e
                obtain ⟨-, -, rfl⟩ := e; exact h3
            have hOD : (wr.drew.alloc (.cells #[.bool R] 4)).ownsRow w.heap.size 4 1 (.slice (some ⟨g, 0, none⟩) (m + 2) cp) (m + 2) vs := by rw [hm] at hown; exact own_below hown (((Below.refl _ _).drew).alloc (Nat.le_refl _) _)
            have HA := Lib.hid (appB_run (wr.drew.alloc (.cells #[.bool R] 4)) w.heap.size g (m + 2) cp m vs R wr.heap.size hOD (by omega) (patCell (patNew wr.drew _)) (by omega) (B.drew.alloc hszB (.cells #[.bool R] 4)).size)
            have HA2 := Lib.hid (appB_spare (wr.drew.alloc (.cells #[.bool R] 4)) w.heap.size g (m + 2) cp m vs R wr.heap.size hOD (by omega) hcp2 (patCell (patNew wr.drew _)))
            have HWD : Hid ((wr.drew.alloc (.cells #[.bool R] 4)).cell? ⟨g, m, none⟩ = some (.bool x)) := Lib.hid (by rw [hOD.cellAt m (by omega)]; exact hx0c)
            have hvl := Lib.hid (show vs.length = m + 2 by have := hOD.1; omega)
            have HBD : Hid (Below w.heap.size w (wr.drew.alloc (.cells #[.bool R] 4))) := Lib.hid (B.drew.alloc hszB _)
            have i0' : (0 : Int) ≤ (m : Int) := by omega
            have i1 : (m : Int) ≤ (cp : Int) := by omega
            have i2 : m ≤ cp := by omega
            have i3 : ¬ cp = 0 := by omega
            have i4 : (m : Int) < (m : Int) + 2 := by omega
            have i5 : (m : Int) + 1 < (m : Int) + 2 := by omega
            have hwm : IntKind.i64.wrap (m : Int) = m := by rw [IntKind.wrap_i64]; omega
            have hwm1 : IntKind.i64.wrap ((m : Int) + 2 - 1) = (m : Int) + 1 := by rw [IntKind.wrap_i64]; omega
            have i6 : (0 : Int) ≤ (m : Int) + 1 := by omega
            have hsli : ∀ wx, (Instr.slice 84 (.slice (some ⟨g, 0, none⟩) (m + 2) cp) none (some (.int .i64 m)) none).run Tryz.prog wx = .ok (.slice (some ⟨g, 0, none⟩) m cp) wx := fun wx => by
              rw [run_slice_h wx _ _ _ _ Tryz.underlying84 .i64 (m : Int) i0' i1]
              simp [sliced, i3, sizeOf, typeInfo, hi, Addr.add, go_sem]
            rw [hm] at hsl ⊢
            have HL := Lib.hid hsl
            clear hlf hnext hbad hs' hz hown hOD hx hy hRv hm
            cases x with
            | false =>
              obtain rfl : R = false := by rw [hR]; simp
              clear hR
              obtain ⟨w3, hr3, ho3, B3⟩ := HA2.out
              have hx3 : w3.cell? ⟨g, m, none⟩ = some (.bool false) := by rw [ho3.cellAt m (by omega), List.getElem?_append_right (by rw [List.length_take]; omega)]; simp [List.length_take, show min m vs.length = m by have := hvl.out; omega]
              have hWD0 := HWD.out
              have hrel2 := Lib.hid (show w3.ownsRow w.heap.size 4 1 (.slice (some ⟨g, 0, none⟩) (m + 1) cp) (m + 1) (boolV (st.take m ++ [andF (getF st m) (getF st (m + 1))]) c) by rw [hap.out]; exact ho3)
              have Bw3 := HBD.out.trans B3
              clear ho3 B3
              go_wp2_with fail
              refine wp_region_held_drew (S := (fun w' => w'.cell? ⟨g, m, none⟩ = some (.bool false))) (by kernel_rfl) hx0 (fun hHeld => ?_)
              refine wpAnyH_take (i := 0) (oi := { dst := some 52, op := Go.Op.move (Go.Operand.tmp 5), type := 84, pos := "l08_pattern.go:48", after := #[], guard := none }) (v := .slice (some ⟨g, 0, none⟩) (m + 2) cp) rfl (by kernel_rfl) (by kernel_rfl) (by kernel_rfl) (fun _ _ _ h => h) (Or.inl ⟨by rfl, ?_⟩) hHeld ?_
              · intro wq hSw; go_simp
              try simp only [Act.put, List.setIfInBounds_toArray, List.set_cons_zero, List.set_cons_succ]
              refine wpAnyH_take (i := 1) (oi := { dst := some 53, op := Go.Op.move (Go.Operand.tmp 7), type := 3, pos := "l08_pattern.go:48", after := #[], guard := none }) (v := .int .i64 ((m : Int) + 2)) rfl (by kernel_rfl) (by kernel_rfl) (by kernel_rfl) (fun _ _ _ h => h) (Or.inl ⟨by rfl, ?_⟩) hHeld ?_
              · intro wq hSw; go_simp
              try simp only [Act.put, List.setIfInBounds_toArray, List.set_cons_zero, List.set_cons_succ]
              refine wpAnyH_take (i := 2) (oi := { dst := some 54, op := Go.Op.binOp Go.BinOp.sub 3 (Go.Operand.tmp 53) (Go.Operand.const (Go.Value.int Go.IntKind.i64 2)) 3, type := 3, pos := "l08_pattern.go:48", after := #[{ on := 1, ground := Go.Ground.data }], guard := none }) (v := .int .i64 (m : Int)) rfl (by kernel_rfl) (by kernel_rfl) (by kernel_rfl) (fun _ _ _ h => h) (Or.inl ⟨by rfl, ?_⟩) hHeld ?_
              · intro wq hSw; go_simp
              try simp only [Act.put, List.setIfInBounds_toArray, List.set_cons_zero, List.set_cons_succ]
              refine wpAnyH_take (i := 3) (oi := { dst := some 55, op := Go.Op.slice 84 (Go.Operand.tmp 52) none (some (Go.Operand.tmp 54)) none, type := 84, pos := "l08_pattern.go:48", after := #[{ on := 0, ground := Go.Ground.data }, { on := 2, ground := Go.Ground.data }], guard := none }) (v := .slice (some ⟨g, 0, none⟩) m cp) rfl (by kernel_rfl) (by kernel_rfl) (by kernel_rfl) (fun _ _ _ h => h) (Or.inl ⟨by rfl, ?_⟩) hHeld ?_
              · intro wq hSw; go_simp
              try simp only [Act.put, List.setIfInBounds_toArray, List.set_cons_zero, List.set_cons_succ]
              refine wpAnyH_take (i := 4) (oi := { dst := some 56, op := Go.Op.move (Go.Operand.tmp 5), type := 84, pos := "l08_pattern.go:48", after := #[], guard := none }) (v := .slice (some ⟨g, 0, none⟩) (m + 2) cp) rfl (by kernel_rfl) (by kernel_rfl) (by kernel_rfl) (fun _ _ _ h => h) (Or.inl ⟨by rfl, ?_⟩) hHeld ?_
              · intro wq hSw; go_simp
              try simp only [Act.put, List.setIfInBounds_toArray, List.set_cons_zero, List.set_cons_succ]
              refine wpAnyH_take (i := 5) (oi := { dst := some 57, op := Go.Op.move (Go.Operand.tmp 7), type := 3, pos := "l08_pattern.go:48", after := #[], guard := none }) (v := .int .i64 ((m : Int) + 2)) rfl (by kernel_rfl) (by kernel_rfl) (by kernel_rfl) (fun _ _ _ h => h) (Or.inl ⟨by rfl, ?_⟩) hHeld ?_
              · intro wq hSw; go_simp
              try simp only [Act.put, List.setIfInBounds_toArray, List.set_cons_zero, List.set_cons_succ]
              refine wpAnyH_take (i := 6) (oi := { dst := some 58, op := Go.Op.binOp Go.BinOp.sub 3 (Go.Operand.tmp 57) (Go.Operand.const (Go.Value.int Go.IntKind.i64 2)) 3, type := 3, pos := "l08_pattern.go:48", after := #[{ on := 5, ground := Go.Ground.data }], guard := none }) (v := .int .i64 (m : Int)) rfl (by kernel_rfl) (by kernel_rfl) (by kernel_rfl) (fun _ _ _ h => h) (Or.inl ⟨by rfl, ?_⟩) hHeld ?_
              · intro wq hSw; go_simp
              try simp only [Act.put, List.setIfInBounds_toArray, List.set_cons_zero, List.set_cons_succ]
              refine wpAnyH_take (i := 7) (oi := { dst := some 59, op := Go.Op.indexAddr 84 (Go.Operand.tmp 56) (Go.Operand.tmp 58), type := 0, pos := "l08_pattern.go:48", after := #[{ on := 4, ground := Go.Ground.data }, { on := 6, ground := Go.Ground.data }], guard := none }) (v := .pointer (some ⟨g, m, none⟩)) rfl (by kernel_rfl) (by kernel_rfl) (by kernel_rfl) (fun _ _ _ h => h) (Or.inl ⟨by rfl, ?_⟩) hHeld ?_
              · intro wq hSw; go_simp
              try simp only [Act.put, List.setIfInBounds_toArray, List.set_cons_zero, List.set_cons_succ]
              refine wpAnyH_take (i := 8) (oi := { dst := some 60, op := Go.Op.load 4 (Go.Operand.tmp 59), type := 4, pos := "l08_pattern.go:48", after := #[{ on := 7, ground := Go.Ground.data }], guard := none }) (v := .bool false) rfl (by kernel_rfl) (by kernel_rfl) (by kernel_rfl) (fun _ _ _ h => h) (Or.inl ⟨by rfl, ?_⟩) hHeld ?_
              · intro wq hSw; go_simp
              try simp only [Act.put, List.setIfInBounds_toArray, List.set_cons_zero, List.set_cons_succ]
              refine wpAnyH_take (i := 9) (oi := { dst := some 61, op := Go.Op.move (Go.Operand.tmp 60), type := 4, pos := "l08_pattern.go:48", after := #[{ on := 8, ground := Go.Ground.data }], guard := none }) (v := .bool false) rfl (by kernel_rfl) (by kernel_rfl) (by kernel_rfl) (fun _ _ _ h => h) (Or.inl ⟨by rfl, ?_⟩) hHeld ?_
              · intro wq hSw; go_simp
              try simp only [Act.put, List.setIfInBounds_toArray, List.set_cons_zero, List.set_cons_succ]
              refine wpAnyH_take (i := 10) (oi := { dst := some 62, op := Go.Op.move (Go.Operand.tmp 5), type := 84, pos := "l08_pattern.go:48", after := #[{ on := 9, ground := Go.Ground.guard }], guard := some (9, true) }) (v := undef) rfl (by kernel_rfl) (by kernel_rfl) (by kernel_rfl) (fun _ _ _ h => h) (Or.inr ⟨by rfl, rfl⟩) hHeld ?_
              try simp only [Act.put, List.setIfInBounds_toArray, List.set_cons_zero, List.set_cons_succ]
              refine wpAnyH_take (i := 11) (oi := { dst := some 63, op := Go.Op.move (Go.Operand.tmp 7), type := 3, pos := "l08_pattern.go:48", after := #[{ on := 9, ground := Go.Ground.guard }], guard := some (9, true) }) (v := undef) rfl (by kernel_rfl) (by kernel_rfl) (by kernel_rfl) (fun _ _ _ h => h) (Or.inr ⟨by rfl, rfl⟩) hHeld ?_
              try simp only [Act.put, List.setIfInBounds_toArray, List.set_cons_zero, List.set_cons_succ]
              refine wpAnyH_take (i := 12) (oi := { dst := some 64, op := Go.Op.binOp Go.BinOp.sub 3 (Go.Operand.tmp 63) (Go.Operand.const (Go.Value.int Go.IntKind.i64 1)) 3, type := 3, pos := "l08_pattern.go:48", after := #[{ on := 11, ground := Go.Ground.data }, { on := 9, ground := Go.Ground.guard }], guard := some (9, true) }) (v := undef) rfl (by kernel_rfl) (by kernel_rfl) (by kernel_rfl) (fun _ _ _ h => h) (Or.inr ⟨by rfl, rfl⟩) hHeld ?_
              try simp only [Act.put, List.setIfInBounds_toArray, List.set_cons_zero, List.set_cons_succ]
              refine wpAnyH_take (i := 13) (oi := { dst := some 65, op := Go.Op.indexAddr 84 (Go.Operand.tmp 62) (Go.Operand.tmp 64), type := 0, pos := "l08_pattern.go:48", after := #[{ on := 10, ground := Go.Ground.data }, { on := 12, ground := Go.Ground.data }, { on := 9, ground := Go.Ground.guard }], guard := some (9, true) }) (v := undef) rfl (by kernel_rfl) (by kernel_rfl) (by kernel_rfl) (fun _ _ _ h => h) (Or.inr ⟨by rfl, rfl⟩) hHeld ?_
              try simp only [Act.put, List.setIfInBounds_toArray, List.set_cons_zero, List.set_cons_succ]
              refine wpAnyH_take (i := 14) (oi := { dst := some 66, op := Go.Op.load 4 (Go.Operand.tmp 65), type := 4, pos := "l08_pattern.go:48", after := #[{ on := 13, ground := Go.Ground.data }, { on := 9, ground := Go.Ground.guard }], guard := some (9, true) }) (v := undef) rfl (by kernel_rfl) (by kernel_rfl) (by kernel_rfl) (fun _ _ _ h => h) (Or.inr ⟨by rfl, rfl⟩) hHeld ?_
              try simp only [Act.put, List.setIfInBounds_toArray, List.set_cons_zero, List.set_cons_succ]
              refine wpAnyH_take (i := 15) (oi := { dst := some 67, op := Go.Op.pick (Go.Operand.tmp 61) (Go.Operand.tmp 66) (Go.Operand.const (Go.Value.bool false)), type := 4, pos := "l08_pattern.go:48", after := #[{ on := 9, ground := Go.Ground.data }, { on := 14, ground := Go.Ground.data }], guard := none }) (v := .bool false) rfl (by kernel_rfl) (by kernel_rfl) (by kernel_rfl) (fun _ _ _ h => h) (Or.inl ⟨by rfl, ?_⟩) hHeld ?_
              · intro wq hSw; go_simp
              try simp only [Act.put, List.setIfInBounds_toArray, List.set_cons_zero, List.set_cons_succ]
              refine wpAnyH_ready (rs := [16]) (by kernel_rfl) (by simp) ?_
              refine AllReadyH.cons (o := { dst := some 68, op := Go.Op.buildSlice 84 1 #[(0, Go.Operand.tmp 67)], type := 84, pos := "l08_pattern.go:48", after := #[{ on := 15, ground := Go.Ground.data }], guard := none }) rfl (fun K hK => ?_) AllReadyH.nil
              go_simp
              refine hK.out _ _ hWD0 (fun hHeld => ?_)
              clear hK K
              try simp only [Act.put, List.setIfInBounds_toArray, List.set_cons_zero, List.set_cons_succ]
              refine wpAnyH_ready (rs := [17]) (by kernel_rfl) (by simp) ?_
              refine AllReadyH.cons (o := { dst := some 69, op := Go.Op.call { callee := Go.Callee.builtin Go.Builtin.append, args := #[Go.Operand.tmp 55, Go.Operand.tmp 68], argTypes := #[84, 84] }, type := 84, pos := "l08_pattern.go:48", after := #[{ on := 3, ground := Go.Ground.data }, { on := 16, ground := Go.Ground.data }, { on := 9, ground := Go.Ground.chain }], guard := none }) rfl (fun K hK => ?_) AllReadyH.nil
              refine step_append_runP rfl _ _ _ _ rfl _ _ rfl rfl _ _ hr3 ?_
              refine hK.out _ _ hx3 (fun hHeld => ?_)
              clear hK K
              try simp only [Act.put, List.setIfInBounds_toArray, List.set_cons_zero, List.set_cons_succ]
              refine wpAnyH_take (i := 18) (oi := { dst := some 5, op := Go.Op.assign (Go.Operand.tmp 69), type := 84, pos := "l08_pattern.go:48", after := #[{ on := 17, ground := Go.Ground.data }, { on := 17, ground := Go.Ground.chain }, { on := 0, ground := Go.Ground.phase }, { on := 1, ground := Go.Ground.phase }, { on := 2, ground := Go.Ground.phase }, { on := 3, ground := Go.Ground.phase }, { on := 4, ground := Go.Ground.phase }, { on := 5, ground := Go.Ground.phase }, { on := 6, ground := Go.Ground.phase }, { on := 7, ground := Go.Ground.phase }, { on := 8, ground := Go.Ground.phase }, { on := 9, ground := Go.Ground.phase }, { on := 10, ground := Go.Ground.phase }, { on := 11, ground := Go.Ground.phase }, { on := 12, ground := Go.Ground.phase }, { on := 13, ground := Go.Ground.phase }, { on := 14, ground := Go.Ground.phase }, { on := 15, ground := Go.Ground.phase }, { on := 16, ground := Go.Ground.phase }, { on := 17, ground := Go.Ground.phase }], guard := none }) (v := .slice (some ⟨g, 0, none⟩) (m + 1) cp) rfl (by kernel_rfl) (by kernel_rfl) (by kernel_rfl) (fun _ _ _ h => h) (Or.inl ⟨by rfl, ?_⟩) hHeld ?_
              · intro wq hSw; go_simp
              try simp only [Act.put, List.setIfInBounds_toArray, List.set_cons_zero, List.set_cons_succ]
              refine wpAnyH_done (by kernel_rfl) ?_ _
              go_wp2_with fail
              go_roundw
              case rel => exact ⟨k + 1, _, g, cp, by omega, by go_num, Bw3, hst2, by rw [hln.out]; have := HL.out; omega, by rw [hln.out], by rw [hln.out]; exact hrel2.out⟩
              case measure => simp [intOf]; omega
            | true =>
              obtain rfl : R = y := by rw [hR]; simp
              clear hR
              go_wp2_with fail
              go_region_law (obtain ⟨g', cap', w3, hr3, ho3, B3⟩ := HA.out; refine step_append_runP rfl _ _ _ _ rfl _ _ rfl rfl _ _ hr3 ?_)
              all_goals
                have hrel2 := Lib.hid (show w3.ownsRow w.heap.size 4 1 (.slice (some ⟨g', 0, none⟩) (m + 1) cap') (m + 1) (boolV (st.take m ++ [andF (getF st m) (getF st (m + 1))]) c) by rw [hap.out]; exact ho3)
                have Bw3 := HBD.out.trans B3
                clear hr3 ho3 B3
                go_wp2_with fail
                go_roundw
                case rel => exact ⟨k + 1, _, g', cap', by omega, by go_num, Bw3, hst2, by rw [hln.out]; have := HL.out; omega, by rw [hln.out], by rw [hln.out]; exact hrel2.out⟩
                case measure => simp [intOf]; omega
          have q2 : (s == -2) = false := by simpa using h2
          by_cases h3 : s = -3
          · subst h3
            obtain ⟨m, hm⟩ : ∃ m, st.length = m + 2 := ⟨st.length - 2, by by_cases h2 : 2 ≤ st.length; omega; exact (hbad (step_bad st _ hlf (by omega) (by omega) (by omega))).elim⟩
            have hs' := step_or st (by omega)
            rw [hm, show m + 2 - 2 = m from rfl, show m + 2 - 1 = m + 1 from rfl] at hs'
            have hst2 := Lib.hid (hnext.trans hs')
            have hx0 := hown.cellAt m (by omega)
            have hx1 := hown.cellAt (m + 1) (by omega)
            rw [boolV_at st c m (by omega)] at hx0
            rw [boolV_at st c (m + 1) (by omega)] at hx1
            have hap : Hid (boolV (st.take m ++ [orF (getF st m) (getF st (m + 1))]) c = (boolV st c).take m ++ [.bool (orF (getF st m) (getF st (m + 1)) c)]) := Lib.hid (by rw [boolV_app, boolV_take])
            have hln : Hid ((st.take m ++ [orF (getF st m) (getF st (m + 1))]).length = m + 1) := Lib.hid (by simp; omega)
            have hgb : w.heap.size ≤ g := own_block hown g rfl
            generalize boolV st c = vs at *
            obtain ⟨x, hx⟩ : ∃ x, getF st m c = x := ⟨_, rfl⟩
            obtain ⟨y, hy⟩ : ∃ y, getF st (m + 1) c = y := ⟨_, rfl⟩
            rw [hx] at hx0
            rw [hy] at hx1
            have hx0c := hx0
            rw [hown.cellAt m (by omega)] at hx0c
            obtain ⟨R, hR⟩ : ∃ R : Bool, R = (x || y) := ⟨_, rfl⟩
            have hRv : orF (getF st m) (getF st (m + 1)) c = R := by unfold orF; rw [hx, hy, hR]
            rw [hRv] at hap
            have hcp2 : m + 2 ≤ cp := by
              rw [hm] at hown
              rcases hown.2 with ⟨e, -⟩ | ⟨g', cap', cur, e, -, -, h3, -⟩
              · cases e
              · simp only [Value.slice.injEq, Option.some.injEq, Addr.mk.injEq, and_true, true_and] at e
                obtain ⟨-, -, rfl⟩ := e; exact h3
            have hOD : (wr.drew.alloc (.cells #[.bool R] 4)).ownsRow w.heap.size 4 1 (.slice (some ⟨g, 0, none⟩) (m + 2) cp) (m + 2) vs := by rw [hm] at hown; exact own_below hown (((Below.refl _ _).drew).alloc (Nat.le_refl _) _)
            have HA := Lib.hid (appB_run (wr.drew.alloc (.cells #[.bool R] 4)) w.heap.size g (m + 2) cp m vs R wr.heap.size hOD (by omega) (patCell (patNew wr.drew _)) (by omega) (B.drew.alloc hszB (.cells #[.bool R] 4)).size)
            have HA2 := Lib.hid (appB_spare (wr.drew.alloc (.cells #[.bool R] 4)) w.heap.size g (m + 2) cp m vs R wr.heap.size hOD (by omega) hcp2 (patCell (patNew wr.drew _)))
            have HWD : Hid ((wr.drew.alloc (.cells #[.bool R] 4)).cell? ⟨g, m, none⟩ = some (.bool x)) := Lib.hid (by rw [hOD.cellAt m (by omega)]; exact hx0c)
            have hvl := Lib.hid (show vs.length = m + 2 by have := hOD.1; omega)
            have HBD : Hid (Below w.heap.size w (wr.drew.alloc (.cells #[.bool R] 4))) := Lib.hid (B.drew.alloc hszB _)
            have i0' : (0 : Int) ≤ (m : Int) := by omega
            have i1 : (m : Int) ≤ (cp : Int) := by omega
            have i2 : m ≤ cp := by omega
            have i3 : ¬ cp = 0 := by omega
            have i4 : (m : Int) < (m : Int) + 2 := by omega
            have i5 : (m : Int) + 1 < (m : Int) + 2 := by omega
            have hwm : IntKind.i64.wrap (m : Int) = m := by rw [IntKind.wrap_i64]; omega
            have hwm1 : IntKind.i64.wrap ((m : Int) + 2 - 1) = (m : Int) + 1 := by rw [IntKind.wrap_i64]; omega
            have i6 : (0 : Int) ≤ (m : Int) + 1 := by omega
            have hsli : ∀ wx, (Instr.slice 84 (.slice (some ⟨g, 0, none⟩) (m + 2) cp) none (some (.int .i64 m)) none).run Tryz.prog wx = .ok (.slice (some ⟨g, 0, none⟩) m cp) wx := fun wx => by
              rw [run_slice_h wx _ _ _ _ Tryz.underlying84 .i64 (m : Int) i0' i1]
              simp [sliced, i3, sizeOf, typeInfo, hi, Addr.add, go_sem]
            rw [hm] at hsl ⊢
            have HL := Lib.hid hsl
            clear hlf hnext hbad hs' hz hown hOD hx hy hRv hm
            cases x with
            | false =>
              obtain rfl : R = y := by rw [hR]; simp
              clear hR
              go_wp2_with fail
              go_region_law (obtain ⟨g', cap', w3, hr3, ho3, B3⟩ := HA.out; refine step_append_runP rfl _ _ _ _ rfl _ _ rfl rfl _ _ hr3 ?_)
              all_goals
                have hrel2 := Lib.hid (show w3.ownsRow w.heap.size 4 1 (.slice (some ⟨g', 0, none⟩) (m + 1) cap') (m + 1) (boolV (st.take m ++ [orF (getF st m) (getF st (m + 1))]) c) by rw [hap.out]; exact ho3)
                have Bw3 := HBD.out.trans B3
                clear hr3 ho3 B3
                go_wp2_with fail
                go_roundw
                case rel => exact ⟨k + 1, _, g', cap', by omega, by go_num, Bw3, hst2, by rw [hln.out]; have := HL.out; omega, by rw [hln.out], by rw [hln.out]; exact hrel2.out⟩
                case measure => simp [intOf]; omega
            | true =>
              obtain rfl : R = true := by rw [hR]; simp
              clear hR
              obtain ⟨w3, hr3, ho3, B3⟩ := HA2.out
              have hx3 : w3.cell? ⟨g, m, none⟩ = some (.bool true) := by rw [ho3.cellAt m (by omega), List.getElem?_append_right (by rw [List.length_take]; omega)]; simp [List.length_take, show min m vs.length = m by have := hvl.out; omega]
              have hWD0 := HWD.out
              have hrel2 := Lib.hid (show w3.ownsRow w.heap.size 4 1 (.slice (some ⟨g, 0, none⟩) (m + 1) cp) (m + 1) (boolV (st.take m ++ [orF (getF st m) (getF st (m + 1))]) c) by rw [hap.out]; exact ho3)
              have Bw3 := HBD.out.trans B3
              clear ho3 B3
              go_wp2_with fail
              refine wp_region_held_drew (S := (fun w' => w'.cell? ⟨g, m, none⟩ = some (.bool true))) (by kernel_rfl) hx0 (fun hHeld => ?_)
              refine wpAnyH_take (i := 0) (oi := { dst := some 72, op := Go.Op.move (Go.Operand.tmp 5), type := 84, pos := "l08_pattern.go:50", after := #[], guard := none }) (v := .slice (some ⟨g, 0, none⟩) (m + 2) cp) rfl (by kernel_rfl) (by kernel_rfl) (by kernel_rfl) (fun _ _ _ h => h) (Or.inl ⟨by rfl, ?_⟩) hHeld ?_
              · intro wq hSw; go_simp
              try simp only [Act.put, List.setIfInBounds_toArray, List.set_cons_zero, List.set_cons_succ]
              refine wpAnyH_take (i := 1) (oi := { dst := some 73, op := Go.Op.move (Go.Operand.tmp 7), type := 3, pos := "l08_pattern.go:50", after := #[], guard := none }) (v := .int .i64 ((m : Int) + 2)) rfl (by kernel_rfl) (by kernel_rfl) (by kernel_rfl) (fun _ _ _ h => h) (Or.inl ⟨by rfl, ?_⟩) hHeld ?_
              · intro wq hSw; go_simp
              try simp only [Act.put, List.setIfInBounds_toArray, List.set_cons_zero, List.set_cons_succ]
              refine wpAnyH_take (i := 2) (oi := { dst := some 74, op := Go.Op.binOp Go.BinOp.sub 3 (Go.Operand.tmp 73) (Go.Operand.const (Go.Value.int Go.IntKind.i64 2)) 3, type := 3, pos := "l08_pattern.go:50", after := #[{ on := 1, ground := Go.Ground.data }], guard := none }) (v := .int .i64 (m : Int)) rfl (by kernel_rfl) (by kernel_rfl) (by kernel_rfl) (fun _ _ _ h => h) (Or.inl ⟨by rfl, ?_⟩) hHeld ?_
              · intro wq hSw; go_simp
              try simp only [Act.put, List.setIfInBounds_toArray, List.set_cons_zero, List.set_cons_succ]
              refine wpAnyH_take (i := 3) (oi := { dst := some 75, op := Go.Op.slice 84 (Go.Operand.tmp 72) none (some (Go.Operand.tmp 74)) none, type := 84, pos := "l08_pattern.go:50", after := #[{ on := 0, ground := Go.Ground.data }, { on := 2, ground := Go.Ground.data }], guard := none }) (v := .slice (some ⟨g, 0, none⟩) m cp) rfl (by kernel_rfl) (by kernel_rfl) (by kernel_rfl) (fun _ _ _ h => h) (Or.inl ⟨by rfl, ?_⟩) hHeld ?_
              · intro wq hSw; go_simp
              try simp only [Act.put, List.setIfInBounds_toArray, List.set_cons_zero, List.set_cons_succ]
              refine wpAnyH_take (i := 4) (oi := { dst := some 76, op := Go.Op.move (Go.Operand.tmp 5), type := 84, pos := "l08_pattern.go:50", after := #[], guard := none }) (v := .slice (some ⟨g, 0, none⟩) (m + 2) cp) rfl (by kernel_rfl) (by kernel_rfl) (by kernel_rfl) (fun _ _ _ h => h) (Or.inl ⟨by rfl, ?_⟩) hHeld ?_
              · intro wq hSw; go_simp
              try simp only [Act.put, List.setIfInBounds_toArray, List.set_cons_zero, List.set_cons_succ]
              refine wpAnyH_take (i := 5) (oi := { dst := some 77, op := Go.Op.move (Go.Operand.tmp 7), type := 3, pos := "l08_pattern.go:50", after := #[], guard := none }) (v := .int .i64 ((m : Int) + 2)) rfl (by kernel_rfl) (by kernel_rfl) (by kernel_rfl) (fun _ _ _ h => h) (Or.inl ⟨by rfl, ?_⟩) hHeld ?_
              · intro wq hSw; go_simp
              try simp only [Act.put, List.setIfInBounds_toArray, List.set_cons_zero, List.set_cons_succ]
              refine wpAnyH_take (i := 6) (oi := { dst := some 78, op := Go.Op.binOp Go.BinOp.sub 3 (Go.Operand.tmp 77) (Go.Operand.const (Go.Value.int Go.IntKind.i64 2)) 3, type := 3, pos := "l08_pattern.go:50", after := #[{ on := 5, ground := Go.Ground.data }], guard := none }) (v := .int .i64 (m : Int)) rfl (by kernel_rfl) (by kernel_rfl) (by kernel_rfl) (fun _ _ _ h => h) (Or.inl ⟨by rfl, ?_⟩) hHeld ?_
              · intro wq hSw; go_simp
              try simp only [Act.put, List.setIfInBounds_toArray, List.set_cons_zero, List.set_cons_succ]
              refine wpAnyH_take (i := 7) (oi := { dst := some 79, op := Go.Op.indexAddr 84 (Go.Operand.tmp 76) (Go.Operand.tmp 78), type := 0, pos := "l08_pattern.go:50", after := #[{ on := 4, ground := Go.Ground.data }, { on := 6, ground := Go.Ground.data }], guard := none }) (v := .pointer (some ⟨g, m, none⟩)) rfl (by kernel_rfl) (by kernel_rfl) (by kernel_rfl) (fun _ _ _ h => h) (Or.inl ⟨by rfl, ?_⟩) hHeld ?_
              · intro wq hSw; go_simp
              try simp only [Act.put, List.setIfInBounds_toArray, List.set_cons_zero, List.set_cons_succ]
              refine wpAnyH_take (i := 8) (oi := { dst := some 80, op := Go.Op.load 4 (Go.Operand.tmp 79), type := 4, pos := "l08_pattern.go:50", after := #[{ on := 7, ground := Go.Ground.data }], guard := none }) (v := .bool true) rfl (by kernel_rfl) (by kernel_rfl) (by kernel_rfl) (fun _ _ _ h => h) (Or.inl ⟨by rfl, ?_⟩) hHeld ?_
              · intro wq hSw; go_simp
              try simp only [Act.put, List.setIfInBounds_toArray, List.set_cons_zero, List.set_cons_succ]
              refine wpAnyH_take (i := 9) (oi := { dst := some 81, op := Go.Op.move (Go.Operand.tmp 80), type := 4, pos := "l08_pattern.go:50", after := #[{ on := 8, ground := Go.Ground.data }], guard := none }) (v := .bool true) rfl (by kernel_rfl) (by kernel_rfl) (by kernel_rfl) (fun _ _ _ h => h) (Or.inl ⟨by rfl, ?_⟩) hHeld ?_
              · intro wq hSw; go_simp
              try simp only [Act.put, List.setIfInBounds_toArray, List.set_cons_zero, List.set_cons_succ]
              refine wpAnyH_take (i := 10) (oi := { dst := some 82, op := Go.Op.move (Go.Operand.tmp 5), type := 84, pos := "l08_pattern.go:50", after := #[{ on := 9, ground := Go.Ground.guard }], guard := some (9, false) }) (v := undef) rfl (by kernel_rfl) (by kernel_rfl) (by kernel_rfl) (fun _ _ _ h => h) (Or.inr ⟨by rfl, rfl⟩) hHeld ?_
              try simp only [Act.put, List.setIfInBounds_toArray, List.set_cons_zero, List.set_cons_succ]
              refine wpAnyH_take (i := 11) (oi := { dst := some 83, op := Go.Op.move (Go.Operand.tmp 7), type := 3, pos := "l08_pattern.go:50", after := #[{ on := 9, ground := Go.Ground.guard }], guard := some (9, false) }) (v := undef) rfl (by kernel_rfl) (by kernel_rfl) (by kernel_rfl) (fun _ _ _ h => h) (Or.inr ⟨by rfl, rfl⟩) hHeld ?_
              try simp only [Act.put, List.setIfInBounds_toArray, List.set_cons_zero, List.set_cons_succ]
              refine wpAnyH_take (i := 12) (oi := { dst := some 84, op := Go.Op.binOp Go.BinOp.sub 3 (Go.Operand.tmp 83) (Go.Operand.const (Go.Value.int Go.IntKind.i64 1)) 3, type := 3, pos := "l08_pattern.go:50", after := #[{ on := 11, ground := Go.Ground.data }, { on := 9, ground := Go.Ground.guard }], guard := some (9, false) }) (v := undef) rfl (by kernel_rfl) (by kernel_rfl) (by kernel_rfl) (fun _ _ _ h => h) (Or.inr ⟨by rfl, rfl⟩) hHeld ?_
              try simp only [Act.put, List.setIfInBounds_toArray, List.set_cons_zero, List.set_cons_succ]
              refine wpAnyH_take (i := 13) (oi := { dst := some 85, op := Go.Op.indexAddr 84 (Go.Operand.tmp 82) (Go.Operand.tmp 84), type := 0, pos := "l08_pattern.go:50", after := #[{ on := 10, ground := Go.Ground.data }, { on := 12, ground := Go.Ground.data }, { on := 9, ground := Go.Ground.guard }], guard := some (9, false) }) (v := undef) rfl (by kernel_rfl) (by kernel_rfl) (by kernel_rfl) (fun _ _ _ h => h) (Or.inr ⟨by rfl, rfl⟩) hHeld ?_
              try simp only [Act.put, List.setIfInBounds_toArray, List.set_cons_zero, List.set_cons_succ]
              refine wpAnyH_take (i := 14) (oi := { dst := some 86, op := Go.Op.load 4 (Go.Operand.tmp 85), type := 4, pos := "l08_pattern.go:50", after := #[{ on := 13, ground := Go.Ground.data }, { on := 9, ground := Go.Ground.guard }], guard := some (9, false) }) (v := undef) rfl (by kernel_rfl) (by kernel_rfl) (by kernel_rfl) (fun _ _ _ h => h) (Or.inr ⟨by rfl, rfl⟩) hHeld ?_
              try simp only [Act.put, List.setIfInBounds_toArray, List.set_cons_zero, List.set_cons_succ]
              refine wpAnyH_take (i := 15) (oi := { dst := some 87, op := Go.Op.pick (Go.Operand.tmp 81) (Go.Operand.const (Go.Value.bool true)) (Go.Operand.tmp 86), type := 4, pos := "l08_pattern.go:50", after := #[{ on := 9, ground := Go.Ground.data }, { on := 14, ground := Go.Ground.data }], guard := none }) (v := .bool true) rfl (by kernel_rfl) (by kernel_rfl) (by kernel_rfl) (fun _ _ _ h => h) (Or.inl ⟨by rfl, ?_⟩) hHeld ?_
              · intro wq hSw; go_simp
              try simp only [Act.put, List.setIfInBounds_toArray, List.set_cons_zero, List.set_cons_succ]
              refine wpAnyH_ready (rs := [16]) (by kernel_rfl) (by simp) ?_
              refine AllReadyH.cons (o := { dst := some 88, op := Go.Op.buildSlice 84 1 #[(0, Go.Operand.tmp 87)], type := 84, pos := "l08_pattern.go:50", after := #[{ on := 15, ground := Go.Ground.data }], guard := none }) rfl (fun K hK => ?_) AllReadyH.nil
              go_simp
              refine hK.out _ _ hWD0 (fun hHeld => ?_)
              clear hK K
              try simp only [Act.put, List.setIfInBounds_toArray, List.set_cons_zero, List.set_cons_succ]
              refine wpAnyH_ready (rs := [17]) (by kernel_rfl) (by simp) ?_
              refine AllReadyH.cons (o := { dst := some 89, op := Go.Op.call { callee := Go.Callee.builtin Go.Builtin.append, args := #[Go.Operand.tmp 75, Go.Operand.tmp 88], argTypes := #[84, 84] }, type := 84, pos := "l08_pattern.go:50", after := #[{ on := 3, ground := Go.Ground.data }, { on := 16, ground := Go.Ground.data }, { on := 9, ground := Go.Ground.chain }], guard := none }) rfl (fun K hK => ?_) AllReadyH.nil
              refine step_append_runP rfl _ _ _ _ rfl _ _ rfl rfl _ _ hr3 ?_
              refine hK.out _ _ hx3 (fun hHeld => ?_)
              clear hK K
              try simp only [Act.put, List.setIfInBounds_toArray, List.set_cons_zero, List.set_cons_succ]
              refine wpAnyH_take (i := 18) (oi := { dst := some 5, op := Go.Op.assign (Go.Operand.tmp 89), type := 84, pos := "l08_pattern.go:50", after := #[{ on := 17, ground := Go.Ground.data }, { on := 17, ground := Go.Ground.chain }, { on := 0, ground := Go.Ground.phase }, { on := 1, ground := Go.Ground.phase }, { on := 2, ground := Go.Ground.phase }, { on := 3, ground := Go.Ground.phase }, { on := 4, ground := Go.Ground.phase }, { on := 5, ground := Go.Ground.phase }, { on := 6, ground := Go.Ground.phase }, { on := 7, ground := Go.Ground.phase }, { on := 8, ground := Go.Ground.phase }, { on := 9, ground := Go.Ground.phase }, { on := 10, ground := Go.Ground.phase }, { on := 11, ground := Go.Ground.phase }, { on := 12, ground := Go.Ground.phase }, { on := 13, ground := Go.Ground.phase }, { on := 14, ground := Go.Ground.phase }, { on := 15, ground := Go.Ground.phase }, { on := 16, ground := Go.Ground.phase }, { on := 17, ground := Go.Ground.phase }], guard := none }) (v := .slice (some ⟨g, 0, none⟩) (m + 1) cp) rfl (by kernel_rfl) (by kernel_rfl) (by kernel_rfl) (fun _ _ _ h => h) (Or.inl ⟨by rfl, ?_⟩) hHeld ?_
              · intro wq hSw; go_simp
              try simp only [Act.put, List.setIfInBounds_toArray, List.set_cons_zero, List.set_cons_succ]
              refine wpAnyH_done (by kernel_rfl) ?_ _
              go_wp2_with fail
              go_roundw
              case rel => exact ⟨k + 1, _, g, cp, by omega, by go_num, Bw3, hst2, by rw [hln.out]; have := HL.out; omega, by rw [hln.out], by rw [hln.out]; exact hrel2.out⟩
              case measure => simp [intOf]; omega
          exact (hbad (step_bad st s hlf (by omega) (by omega) (by omega))).elim
    · obtain rfl : k = n := by omega
      have hz : workP [] zs = some st := by rw [← hst.out, List.take_of_length_le (by rw [Hn.out]; exact Nat.le_refl _)]
      obtain ⟨f, hf1, hf2, -⟩ := pat_some zs Hpt.out
      rw [hz] at hf1
      obtain rfl := Option.some.inj hf1
      have hx0 := hown.cellAt 0 (by simp)
      rw [boolV_at _ c 0 (by simp)] at hx0
      have hrf : r = getF [f] 0 c := by rw [Hrp.out, hf2]; rfl
      rw [← hrf] at hx0
      have hl1 : ([f] : List (Int → Bool)).length = 1 := rfl
      rw [hl1]
      clear hown hf1 hf2 hz hrf
      go_wp2_with fail
      go_ret
      exact ⟨rfl, B⟩
end Go.Proofs.YtmhbonbjnpcpeaaGreatDoor
