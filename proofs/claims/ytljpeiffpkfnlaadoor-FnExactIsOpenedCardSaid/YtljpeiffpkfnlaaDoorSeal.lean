/-
  SeedSeal and JointSeed, both sides.
-/
import Derived.Test.YtljpeiffpkfnlaaDoorHash
namespace Go.Proofs.YtljpeiffpkfnlaaDoor
open Go.RowKit

def sealI (a b c : Int) : Int := hashI [a, b, c]
def jointStep (n s : Int) : Int := (n + s % 1000001) % 1000001
def jointI (zs : List Int) : Int := zs.foldl jointStep 0
theorem joint_take (zs : List Int) (k : Nat) (h : k < zs.length) : jointI (zs.take (k + 1)) = jointStep (jointI (zs.take k)) zs[k] := by
  unfold jointI; rw [List.take_succ_eq_append_getElem h, List.foldl_append]; rfl
theorem modM (p : Int) : modI p 1000001 = p % 1000001 := if_pos ⟨by omega, by omega⟩

set_option maxRecDepth 100000 in
theorem seedSeal_any (a0 a1 : Addr) (a b c : Int) (w : World) (wa : (Lit.int .i64 a).wf = true) (wb : (Lit.int .i64 b).wf = true) (wc : (Lit.int .i64 c).wf = true) (hS : Sent a0 a1 w) :
    Calls Tryd.prog 25 #[.int .i64 a, .int .i64 b, .int .i64 c] w fun e w' => e = .returned (.int .i64 (sealI a b c)) ∧ Below w.heap.size w w' := by
  have hown0 := World.ownsRow_lit (base := w.heap.size) (e := 3) (size := 1) w #[.int .i64 a, .int .i64 b, .int .i64 c] 3 (Nat.le_refl _) (by unfold maxLen; omega) rfl
  obtain ⟨b2, -, hw2⟩ := own_wr (zs := [a, b, c]) hown0 (by intro x hx; simp at hx; rcases hx with rfl | rfl | rfl <;> assumption)
  have B0 := fun o => (Below.refl w.heap.size w).alloc (Nat.le_refl _) o
  have Hc := Lib.hid (hash_any a0 a1 _ [a, b, c] b2 _ hw2.rd (by simp) (hS.below (B0 _) (Nat.le_refl _)))
  have He : Hid (sealI a b c = hashI [a, b, c]) := Lib.hid rfl
  clear hown0 hw2
  go_enter Tryd.func25, Tryd.ntmps25
  go_wp2_with fail
  refine Hc.out.mono ?_
  rintro e w' ⟨rfl, hb⟩
  go_wp2_with fail
  go_ret
  exact ⟨by rw [He.out]; rfl, (B0 _).trans (hb.mono (B0 _).size)⟩
set_option maxRecDepth 100000 in
theorem sSeedSeal_any (a b c : Int) (w : World) (wa : (Lit.int .i64 a).wf = true) (wb : (Lit.int .i64 b).wf = true) (wc : (Lit.int .i64 c).wf = true) :
    Calls Tryd.prog 24 #[.int .i64 a, .int .i64 b, .int .i64 c] w fun e w' => e = .returned (.int .i64 (sealI a b c)) ∧ Below w.heap.size w w' := by
  have hown0 := World.ownsRow_lit (base := w.heap.size) (e := 3) (size := 1) w #[.int .i64 a, .int .i64 b, .int .i64 c] 3 (Nat.le_refl _) (by unfold maxLen; omega) rfl
  obtain ⟨b2, -, hw2⟩ := own_wr (zs := [a, b, c]) hown0 (by intro x hx; simp at hx; rcases hx with rfl | rfl | rfl <;> assumption)
  have B0 := fun o => (Below.refl w.heap.size w).alloc (Nat.le_refl _) o
  have Hc := Lib.hid (sHash_any _ [a, b, c] b2 _ hw2.rd (by simp))
  have He : Hid (sealI a b c = hashI [a, b, c]) := Lib.hid rfl
  clear hown0 hw2
  go_enter Tryd.func24, Tryd.ntmps24
  go_wp2_with fail
  refine Hc.out.mono ?_
  rintro e w' ⟨rfl, rfl⟩
  go_wp2_with fail
  go_ret
  exact ⟨by rw [He.out]; rfl, B0 _⟩
theorem wrapSeed_any (a0 a1 : Addr) (n : Int) (w : World) (wn : (Lit.int .i64 n).wf = true) (hS : Sent a0 a1 w) :
    Calls Tryd.prog 58 #[.int .i64 n] w fun e w' => e = .returned (.int .i64 (n % 1000001)) ∧ w = w' := by
  have HM := Lib.hid (mod_any a0 a1 n 1000001 w wn hS)
  rw [modM] at HM
  generalize n % 1000001 = m at *
  clear hS wn
  go_enter Tryd.func58, Tryd.ntmps58
  go_wp2_with fail
  refine HM.out.mono ?_
  rintro e _w ⟨rfl, rfl⟩
  go_wp2_with fail
  go_ret
  exact ⟨rfl, rfl⟩
end Go.Proofs.YtljpeiffpkfnlaaDoor
