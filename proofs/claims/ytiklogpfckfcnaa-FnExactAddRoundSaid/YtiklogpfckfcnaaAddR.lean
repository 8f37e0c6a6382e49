/-
  AddRound, both sides.
-/
import Derived.Test.YtiklogpfckfcnaaCopyR
import Derived.Test.YtiklogpfckfcnaaSheetL
import Derived.Test.YtiklogpfckfcnaaSheetS
namespace Go.Proofs.Ytiklogpfckfcnaa
open Go.RowKit
set_option linter.unusedVariables false
set_option linter.unusedSimpArgs false

def addedB (p : Int) (zss : List (List Int)) (zs : List Int) : Bool := isSheet p (zss ++ [zs])
def addedR (p : Int) (zss : List (List Int)) (zs : List Int) : List (List Int) := if addedB p zss zs then zss ++ [zs] else zss
theorem WrSS.grow {k : IntKind} {w : World} {a b a' b' : Nat} {v : Value} {zss : List (List Int)} (h : WrSS k (In a b) w v zss) (ha : a' ≤ a) (hb : b ≤ b') : WrSS k (In a' b') w v zss := h.mono (fun x hx => ⟨by have := hx.1; omega, by have := hx.2; omega⟩)
theorem added_few (p : Int) (zss : List (List Int)) (zs : List Int) (h1 : zss.length ≤ 1048576) (h2 : sumLen zss ≤ 1048576) : (addedR p zss zs).length ≤ 1048576 ∧ sumLen (addedR p zss zs) ≤ 1048576 := by
  unfold addedR
  cases h : addedB p zss zs with
  | false => exact ⟨h1, h2⟩
  | true =>
    obtain ⟨hp, h50, hall⟩ := sheet_ok h
    refine ⟨by show (if true = true then zss ++ [zs] else zss).length ≤ 1048576; rw [if_pos rfl]; omega, ?_⟩
    have key : ∀ l : List (List Int), l.all (isRound p) = true → sumLen l ≤ 6 * l.length := by
      intro l
      induction l with
      | nil => intro _; simp [sumLen]
      | cons z l ih =>
        intro h
        simp only [List.all_cons, Bool.and_eq_true] at h
        have h1 := ih h.2
        have h2 := (isRound_all h.1).2.1
        have e : sumLen (z :: l) = z.length + sumLen l := by simp [sumLen]
        rw [e]; simp only [List.length_cons]; omega
    have := key _ hall
    simp only [if_true]
    omega
set_option maxRecDepth 100000 in
set_option maxHeartbeats 1000000 in
theorem addRound_any (p : Int) (v vp : Value) (zss : List (List Int)) (zs : List Int) (b : Nat) (w : World) (h : RdRows .i64 w v zss) (hl : zss.length ≤ 1048576) (hl2 : sumLen zss ≤ 1048576) (hp : RdAt .i64 w vp zs b) (hlp : zs.length ≤ 1048576) :
    Calls Try.prog 27 #[.int .i64 p, v, vp] w fun e w' => ∃ v', e = .returned (.tuple #[v', .bool (addedB p zss zs)]) ∧ WrSS .i64 (In w.heap.size w'.heap.size) w' v' (addedR p zss zs) ∧ Below w.heap.size w w' := by
  have HC := Lib.hid (fun wx (hb : Below w.heap.size w wx) => copyRows_any v zss wx (h.below hb) hl hl2)
  have HI := Lib.hid (fun wx (hb : Below w.heap.size w wx) => copyInts_own vp zs b wx (hp.below hb) (by omega))
  have hwf := Lib.hid hp.wf
  have HS := Lib.hid (fun v' wx (hr : RdRows .i64 wx v' (zss ++ [zs])) h1 h2 => isSheet_any p v' (zss ++ [zs]) wx hr h1 h2 _ rfl)
  have hL1 : Hid ((zss ++ [zs]).length ≤ 1048577) := Lib.hid (by simp; omega)
  obtain ⟨a, cap, rfl, -⟩ := id h
  obtain ⟨ap, capp, rfl, -⟩ := id hp
  clear h hp
  have hsum2 : sumLen (zss ++ [zs]) ≤ 4194304 := by simp [sumLen] at hl2 ⊢; omega
  have hlen2 : (zss ++ [zs]).length ≤ 4194304 := by simp; omega
  have HS2 := Lib.hid (fun v' wx hr => HS.out v' wx hr hlen2 hsum2)
  obtain ⟨q, hq⟩ : ∃ q, isSheet p (zss ++ [zs]) = q := ⟨_, rfl⟩
  have hab : addedB p zss zs = q := hq
  unfold addedR
  rw [hab]
  rw [hq] at HS2
  clear HS hq hab
  go_enter Try.func27, Try.ntmps27
  go_wp2_with fail
  refine (HC.out _ (Below.refl _ _)).mono ?_
  rintro e w1 ⟨v1, rfl, ho1, B1⟩
  go_wp2_with fail
  refine (HI.out _ B1).mono ?_
  rintro e w2 ⟨v2, rfl, ho2, B2⟩
  obtain ⟨b2, hb2, hw2⟩ := own_wr ho2 hwf.out
  obtain ⟨v3, w3, hrun3, ho3, B3, hs3⟩ := ho1.snoc B2 hw2 (fun _ => hb2) (by omega) (B1.trans (B2.mono B1.size)) (Nat.le_refl _) B1.size 22 Try.underlying22 22
  obtain ⟨p1, c1, e1⟩ := ho1.shape
  obtain ⟨p2, c2, e2, -⟩ := id hw2
  obtain ⟨p3, c3, e3⟩ := ho3.shape
  have hss := Lib.hid ho3.ss
  have HS3 := Lib.hid (HS2.out _ _ ho3.ss.rd)
  subst e1 e2 e3
  have Q3 := Lib.hid hrun3
  clear hrun3 ho3 ho1 ho2 hw2
  have hB3 := Lib.hid B3
  have hlt3 : (zss ++ [zs]).length = zss.length + 1 := by simp
  rw [hlt3] at Q3 HS3 hss
  clear hlt3 hL1 hlen2 hsum2 HS2
  cases q with
  | true =>
    go_wp2_with (at_builtin; refine Lib.wpList_append_run _ rfl _ _ _ _ rfl _ _ rfl rfl _ _ Q3.out ?_)
    refine HS3.out.mono ?_
    rintro e w4 ⟨rfl, B4⟩
    have hss4 := Lib.hid ((hss.out.below B4).grow (Nat.le_refl _) B4.size)
    have B5 := hB3.out.trans (B4.mono hB3.out.size)
    go_wp2_with fail
    go_ret2
    exact ⟨_, rfl, hss4.out, B5⟩
  | false =>
    go_wp2_with (at_builtin; refine Lib.wpList_append_run _ rfl _ _ _ _ rfl _ _ rfl rfl _ _ Q3.out ?_)
    refine HS3.out.mono ?_
    rintro e w4 ⟨rfl, B4⟩
    have B5 := hB3.out.trans (B4.mono hB3.out.size)
    go_wp2_with fail
    refine (HC.out _ B5).mono ?_
    rintro e w6 ⟨v6, rfl, ho6, B6⟩
    have hss6 := Lib.hid (ho6.ss.grow B5.size (Nat.le_refl _))
    have B7 := B5.trans (B6.mono B5.size)
    clear ho6
    go_wp2_with fail
    go_ret2
    exact ⟨_, rfl, hss6.out, B7⟩
set_option maxRecDepth 100000 in
set_option maxHeartbeats 1000000 in
theorem sAddRound_any (p : Int) (v vp : Value) (zss : List (List Int)) (zs : List Int) (b : Nat) (w : World) (h : RdRows .i64 w v zss) (hl : zss.length ≤ 1048576) (hl2 : sumLen zss ≤ 1048576) (hp : RdAt .i64 w vp zs b) (hlp : zs.length ≤ 1048576) :
    Calls Try.prog 25 #[.int .i64 p, v, vp] w fun e w' => ∃ v', e = .returned (.tuple #[v', .bool (addedB p zss zs)]) ∧ WrSS .i64 (In w.heap.size w'.heap.size) w' v' (addedR p zss zs) ∧ Below w.heap.size w w' := by
  have HC := Lib.hid (fun wx (hb : Below w.heap.size w wx) => sl15Copy_any v zss wx (h.below hb) hl hl2)
  have HI := Lib.hid (fun wx (hb : Below w.heap.size w wx) => row_copy (hp.below hb) hlp 30)
  have hwf := Lib.hid hp.wf
  have HS := Lib.hid (fun v' wx (hr : RdRows .i64 wx v' (zss ++ [zs])) h1 h2 => (sIsSheet_any p v' (zss ++ [zs]) wx hr h1 h2 _ rfl))
  have hL1 : Hid ((zss ++ [zs]).length ≤ 1048577) := Lib.hid (by simp; omega)
  obtain ⟨a, cap, rfl, -⟩ := id h
  obtain ⟨ap, capp, rfl, -⟩ := id hp
  clear h hp
  have hsum2 : sumLen (zss ++ [zs]) ≤ 4194304 := by simp [sumLen] at hl2 ⊢; omega
  have hlen2 : (zss ++ [zs]).length ≤ 4194304 := by simp; omega
  have HS2 := Lib.hid (fun v' wx hr => HS.out v' wx hr hlen2 hsum2)
  obtain ⟨q, hq⟩ : ∃ q, isSheet p (zss ++ [zs]) = q := ⟨_, rfl⟩
  have hab : addedB p zss zs = q := hq
  unfold addedR
  rw [hab]
  rw [hq] at HS2
  clear HS hq hab
  go_enter Try.func25, Try.ntmps25
  go_wp2_with fail
  refine (HC.out _ (Below.refl _ _)).mono ?_
  rintro e w1 ⟨v1, rfl, ho1, B1⟩
  obtain ⟨v2, w2, hrun2, ⟨b2, hb2, hw2⟩, B2⟩ := HI.out _ B1
  have Q2 := Lib.hid hrun2
  clear hrun2
  obtain ⟨v3, w3, hrun3, ho3, B3, hs3⟩ := ho1.snoc B2 hw2 (fun _ => hb2) (by omega) (B1.trans (B2.mono B1.size)) (Nat.le_refl _) B1.size 22 Try.underlying22 22
  obtain ⟨p1, c1, e1⟩ := ho1.shape
  obtain ⟨p2, c2, e2, -⟩ := id hw2
  obtain ⟨p3, c3, e3⟩ := ho3.shape
  have hss := Lib.hid ho3.ss
  have HS3 := Lib.hid (HS2.out _ _ ho3.ss.rd)
  subst e1 e2 e3
  have Q3 := Lib.hid hrun3
  clear hrun3 ho3 ho1 hw2
  have hB3 := Lib.hid B3
  have hlt3 : (zss ++ [zs]).length = zss.length + 1 := by simp
  rw [hlt3] at Q3 HS3 hss
  clear hlt3 hL1 hlen2 hsum2 HS2
  cases q with
  | true =>
    go_wp2_with (at_builtin; first | refine Lib.wpList_append_run _ rfl _ _ _ _ rfl _ _ rfl rfl _ _ Q2.out ?_ | refine Lib.wpList_append_run _ rfl _ _ _ _ rfl _ _ rfl rfl _ _ Q3.out ?_)
    refine HS3.out.mono ?_
    rintro e w4 ⟨rfl, rfl⟩
    have B4 := Below.refl w3.heap.size w3
    have hss4 := Lib.hid ((hss.out.below B4).grow (Nat.le_refl _) B4.size)
    have B5 := hB3.out.trans (B4.mono hB3.out.size)
    go_wp2_with fail
    go_ret2
    exact ⟨_, rfl, hss4.out, B5⟩
  | false =>
    go_wp2_with (at_builtin; first | refine Lib.wpList_append_run _ rfl _ _ _ _ rfl _ _ rfl rfl _ _ Q2.out ?_ | refine Lib.wpList_append_run _ rfl _ _ _ _ rfl _ _ rfl rfl _ _ Q3.out ?_)
    refine HS3.out.mono ?_
    rintro e w4 ⟨rfl, rfl⟩
    have B4 := Below.refl w3.heap.size w3
    have B5 := hB3.out.trans (B4.mono hB3.out.size)
    go_wp2_with fail
    refine (HC.out _ B5).mono ?_
    rintro e w6 ⟨v6, rfl, ho6, B6⟩
    have hss6 := Lib.hid (ho6.ss.grow B5.size (Nat.le_refl _))
    have B7 := B5.trans (B6.mono B5.size)
    clear ho6
    go_wp2_with fail
    go_ret2
    exact ⟨_, rfl, hss6.out, B7⟩
end Go.Proofs.Ytiklogpfckfcnaa
