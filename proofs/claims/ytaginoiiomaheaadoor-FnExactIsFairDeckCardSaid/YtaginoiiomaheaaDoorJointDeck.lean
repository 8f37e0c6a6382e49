/-
  JointDeck, both sides.
-/
import Derived.Test.YtaginoiiomaheaaDoorAreOpened
import Derived.Test.YtaginoiiomaheaaDoorShuffleS
import Derived.Test.YtaginoiiomaheaaDoorDeck
namespace Go.Proofs.YtaginoiiomaheaaDoor
open Go.RowKit

theorem jointI_bd (zs : List Int) : 0 ≤ jointI zs ∧ jointI zs ≤ 1000000 := by
  have h : ∀ (zs : List Int) (n : Int), 0 ≤ n ∧ n ≤ 1000000 → 0 ≤ zs.foldl jointStep n ∧ zs.foldl jointStep n ≤ 1000000 := by
    intro zs
    induction zs with
    | nil => intro n hn; exact hn
    | cons z zs ih =>
      intro n hn
      refine ih (jointStep n z) ?_
      unfold jointStep
      omega
  exact h zs 0 (by omega)
def jointD (zl zs zt : List Int) : List Int := if areB zl zs zt = true then shufI (jointI zs) deck else []
theorem jointD_len (zl zs zt : List Int) : (jointD zl zs zt).length ≤ 52 := by
  unfold jointD
  split
  · rw [shufI_len]; decide
  · simp
set_option maxRecDepth 100000 in
theorem sJointDeck_any (vl vs vt : Value) (zl zs zt : List Int) (bl bs bt : Nat) (w : World) (hL : RdAt .i64 w vl zl bl) (hSe : RdAt .i64 w vs zs bs) (hSa : RdAt .i64 w vt zt bt) (f0 : zl.length ≤ 1048576) (f1 : zs.length ≤ 1048576) (f2 : zt.length ≤ 1048576) :
    Calls Tryd.prog 15 #[vl, vs, vt] w fun e w' => ∃ v' b', e = .returned (.tuple #[v', .bool (areB zl zs zt)]) ∧ w.heap.size ≤ b' ∧ WrAt .i64 w' v' (jointD zl zs zt) b' ∧ Below w.heap.size w w' := by
  have HA := Lib.hid (fun r hr => sAreOpened_any vl vs vt zl zs zt bl bs bt w hL hSe hSa f0 f1 f2 r hr)
  have HJ := Lib.hid (fun wx (hw : Below w.heap.size w wx) => sJointSeed_any vs zs bs wx (hSe.below hw) (by omega))
  have HF := Lib.hid (fun wx => sFullDeck_any (w := wx))
  have HS := Lib.hid (fun v b wx (hw : Below w.heap.size w wx) (hd : RdAt .i64 wx v deck b) => sShuffled_wr v deck b (jointI zs) wx hd (by decide) (WalkArith.wf_i64 (by have := jointI_bd zs; omega)))
  clear hL hSe hSa
  unfold jointD
  cases hr : areB zl zs zt with
  | false =>
    have HA2 := Lib.hid (HA.out false hr)
    go_enter Tryd.func15, Tryd.ntmps15
    go_wp2_with fail
    refine HA2.out.mono ?_
    rintro e w1 ⟨rfl, hB⟩
    go_wp2_with fail
    refine bodyPost_ret (v := .tuple #[.slice (some ⟨w1.heap.size, 0, none⟩) 0 0, .bool false]) (by simp [results, Tryd.results15, go_sem]) rfl ?_
    exact ⟨_, rfl, w1.heap.size, hB.size, WrAt.nil .i64 _ _ _ _ ⟨Nat.zero_le _, fun _ => rfl⟩, hB.trans ((Below.refl _ w1).alloc hB.size _)⟩
  | true =>
    have HA2 := Lib.hid (HA.out true hr)
    go_enter Tryd.func15, Tryd.ntmps15
    go_wp2_with fail
    refine HA2.out.mono ?_
    rintro e w1 ⟨rfl, hB⟩
    go_wp2_with fail
    refine (HF.out w1).mono ?_
    rintro e w2 ⟨v2, b2, rfl, hb2, hd2, hB2⟩
    have hB3 := hB.trans (hB2.mono hB.size)
    go_wp2_with fail
    refine (HJ.out w2 hB3).mono ?_
    rintro e _w ⟨rfl, rfl⟩
    go_wp2_with fail
    refine (HS.out v2 b2 w2 hB3 hd2.rd).mono ?_
    rintro e w3 ⟨v3, b3, rfl, hb3, hd3, hB4⟩
    go_wp2_with fail
    refine bodyPost_ret (v := .tuple #[v3, .bool true]) (by simp [results, Tryd.results15, go_sem]) rfl ?_
    exact ⟨v3, rfl, b3, Nat.le_trans hB3.size hb3, hd3, hB3.trans (hB4.mono hB3.size)⟩
set_option maxRecDepth 100000 in
theorem jointDeck_any (a0 a1 : Addr) (vl vs vt : Value) (zl zs zt : List Int) (bl bs bt : Nat) (w : World) (hL : RdAt .i64 w vl zl bl) (hSe : RdAt .i64 w vs zs bs) (hSa : RdAt .i64 w vt zt bt) (f0 : zl.length ≤ 1048576) (f1 : zs.length ≤ 1048576) (f2 : zt.length ≤ 1048576) (hS : Sent a0 a1 w) :
    Calls Tryd.prog 20 #[vl, vs, vt] w fun e w' => ∃ v' b', e = .returned (.tuple #[v', .bool (areB zl zs zt)]) ∧ w.heap.size ≤ b' ∧ WrAt .i64 w' v' (jointD zl zs zt) b' ∧ Below w.heap.size w w' := by
  have HA := Lib.hid (fun r hr => areOpened_any a0 a1 vl vs vt zl zs zt bl bs bt w hL hSe hSa f0 f1 f2 hS r hr)
  have HJ := Lib.hid (fun wx (hw : Below w.heap.size w wx) => jointSeed_any a0 a1 vs zs bs wx (hSe.below hw) (by omega) (hS.below hw (Nat.le_refl _)))
  have HF := Lib.hid (fun wx => fullDeck_any (w := wx))
  have HS := Lib.hid (fun v b wx (hw : Below w.heap.size w wx) (hd : RdAt .i64 wx v deck b) => shuffled_wr a0 a1 v deck b (jointI zs) wx hd (by decide) (WalkArith.wf_i64 (by have := jointI_bd zs; omega)) (hS.below hw (Nat.le_refl _)))
  clear hL hSe hSa hS
  unfold jointD
  cases hr : areB zl zs zt with
  | false =>
    have HA2 := Lib.hid (HA.out false hr)
    go_enter Tryd.func20, Tryd.ntmps20
    go_wp2_with fail
    refine HA2.out.mono ?_
    rintro e w1 ⟨rfl, hB⟩
    go_wp2_with fail
    refine bodyPost_ret (v := .tuple #[.slice (some ⟨w1.heap.size, 0, none⟩) 0 0, .bool false]) (by simp [results, Tryd.results20, go_sem]) rfl ?_
    exact ⟨_, rfl, w1.heap.size, hB.size, WrAt.nil .i64 _ _ _ _ ⟨Nat.zero_le _, fun _ => rfl⟩, hB.trans ((Below.refl _ w1).alloc hB.size _)⟩
  | true =>
    have HA2 := Lib.hid (HA.out true hr)
    go_enter Tryd.func20, Tryd.ntmps20
    go_wp2_with fail
    refine HA2.out.mono ?_
    rintro e w1 ⟨rfl, hB⟩
    go_wp2_with fail
    refine (HF.out w1).mono ?_
    rintro e w2 ⟨v2, b2, rfl, hb2, hd2, hB2⟩
    have hB3 := hB.trans (hB2.mono hB.size)
    go_wp2_with fail
    refine (HJ.out w2 hB3).mono ?_
    rintro e _w ⟨rfl, rfl⟩
    go_wp2_with fail
    refine (HS.out v2 b2 w2 hB3 hd2.rd).mono ?_
    rintro e w3 ⟨v3, b3, rfl, hb3, hd3, hB4⟩
    go_wp2_with fail
    refine bodyPost_ret (v := .tuple #[v3, .bool true]) (by simp [results, Tryd.results20, go_sem]) rfl ?_
    exact ⟨v3, rfl, b3, Nat.le_trans hB3.size hb3, hd3, hB3.trans (hB4.mono hB3.size)⟩
end Go.Proofs.YtaginoiiomaheaaDoor
