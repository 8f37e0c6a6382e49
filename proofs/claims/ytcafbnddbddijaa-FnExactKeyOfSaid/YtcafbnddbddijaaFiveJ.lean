/-
  The hands of five, the program's: keyOfApart.
-/
import Derived.Test.YtcafbnddbddijaaFiveI
import Derived.BigQuiet
import Derived.IntWalk
namespace Go.Proofs.Ytcafbnddbddijaa
open Go.RowKit
set_option linter.unusedVariables false
set_option linter.unusedSimpArgs false

theorem rd_one (W : World) (t : TypeId) (x : Nat) (hx : x < 13) : RdAt .i64 (W.alloc (.cells #[.int .i64 x] t)) (.slice (some ⟨W.heap.size, 0, none⟩) 1 1) (ofN [x]) W.heap.size := by
  refine ⟨_, _, rfl, ⟨by simp [ofN], by unfold maxLen; omega, by simp⟩, ?_, .inr ⟨0, rfl, ?_⟩⟩
  · intro y hy
    simp [ofN] at hy
    subst hy
    exact WalkArith.wf_i64 (by omega)
  · intro j hj
    have : j = 0 := by simp [ofN] at hj; omega
    subst this
    exact cell_one_new _ _ _ 0 _ rfl
theorem top_lt {R : List Nat} (hl : R.length = 5) (hR : ∀ x ∈ R, x < 13) : (fiveTop R).1 < 13 := by
  have hb : ∀ j, j < 5 → R.getD j 0 < 13 := fun j hj => by
    have hj2 : j < R.length := by rw [hl]; exact hj
    have : R.getD j 0 = R[j] := by simp [hj2]
    rw [this]; exact hR _ (List.getElem_mem hj2)
  unfold fiveTop
  split
  · exact hb 0 (by omega)
  · exact hb 1 (by omega)

set_option maxRecDepth 100000 in
set_option maxHeartbeats 1000000 in
theorem keyOfApart_any (v : Value) (R : List Nat) (b : Nat) (fl : Bool) (w : World) (h : RdAt .i64 w v (ofN R) b) (hl : R.length = 5) (hR : ∀ x ∈ R, x < 13) :
    Calls Try.prog 64 #[v, .bool fl] w fun e w' => e = .returned (.int .u32 (fiveApart R fl : Nat)) ∧ Below w.heap.size w w' := by
  have HT := Lib.hid (topOf_q v R b w h hl hR)
  have htl := top_lt hl hR
  have HP : Hid (∀ (k q : Nat), k ≤ 8 → Calls Try.prog 63 #[.int .i64 k, v] (w.drewN q) fun e w' => e = .returned (.int .u32 (fivePack k R : Nat)) ∧ w.drewN q = w') := Lib.hid fun k q hk =>
    packKey_any v R b k _ (h.keep fun _ => rfl) (by omega) hk hR
  have e : fiveApart R fl = if (fiveTop R).2 && fl then fivePack 8 [(fiveTop R).1] else if fl then fivePack 5 R else if (fiveTop R).2 then fivePack 4 [(fiveTop R).1] else fivePack 0 R := rfl
  obtain ⟨a, cap, rfl, -⟩ := id h
  clear h
  generalize fiveApart R fl = K at e ⊢
  obtain ⟨⟨t, st⟩, hT⟩ : ∃ T, fiveTop R = T := ⟨_, rfl⟩
  rw [hT] at HT htl e
  have HT : Hid (Calls Try.prog 76 #[.slice a (ofN R).length cap] w fun e w' => e = .returned (.tuple #[.int .i64 (t : Nat), .bool st]) ∧ ∃ q, w' = w.drewN q) := HT
  have htl : t < 13 := htl
  have HQ : Hid (∀ (k : Nat) (W : World) (ty : TypeId), k ≤ 8 → Calls Try.prog 63 #[.int .i64 k, .slice (some ⟨W.heap.size, 0, none⟩) 1 1] (W.alloc (.cells #[.int .i64 t] ty)) fun e w' => e = .returned (.int .u32 (fivePack k [t] : Nat)) ∧ (W.alloc (.cells #[.int .i64 t] ty)) = w') := Lib.hid fun k W ty hk =>
    packKey_any _ [t] _ k _ (rd_one W ty t htl) (by simp) hk (fun x hx => by simp at hx; subst hx; exact htl)
  have HB := Lib.hid (fun q => below_drewn w q)
  have HB2 := Lib.hid (fun (q : Nat) (o : Obj) => (below_drewn w q).alloc (Nat.le_refl _) o)
  generalize (ofN R).length = n at *
  cases st <;> cases fl
  · have e2 : K = fivePack 0 R := e
    clear e
    subst e2
    have HP0 := Lib.hid (fun q => HP.out 0 q (by omega))
    go_enter Try.func64, Try.ntmps64
    go_wp2_with fail
    refine HT.out.mono ?_
    rintro e w1 ⟨rfl, q, rfl⟩
    go_wp2_with fail
    refine (HP0.out q).mono ?_
    rintro e w1 ⟨rfl, rfl⟩
    go_wp2_with fail
    go_ret
    exact ⟨rfl, HB.out q⟩
  · have e2 : K = fivePack 5 R := e
    clear e
    subst e2
    have HP0 := Lib.hid (fun q => HP.out 5 q (by omega))
    go_enter Try.func64, Try.ntmps64
    go_wp2_with fail
    refine HT.out.mono ?_
    rintro e w1 ⟨rfl, q, rfl⟩
    go_wp2_with fail
    refine (HP0.out q).mono ?_
    rintro e w1 ⟨rfl, rfl⟩
    go_wp2_with fail
    go_ret
    exact ⟨rfl, HB.out q⟩
  · have e2 : K = fivePack 4 [t] := e
    clear e
    subst e2
    have HP0 := Lib.hid (fun W ty => HQ.out 4 W ty (by omega))
    go_enter Try.func64, Try.ntmps64
    go_wp2_with fail
    refine HT.out.mono ?_
    rintro e w1 ⟨rfl, q, rfl⟩
    go_wp2_with fail
    refine (HP0.out (w.drewN q) _).mono ?_
    rintro e w1 ⟨rfl, rfl⟩
    go_wp2_with fail
    go_ret
    exact ⟨rfl, HB2.out q _⟩
  · have e2 : K = fivePack 8 [t] := e
    clear e
    subst e2
    have HP0 := Lib.hid (fun W ty => HQ.out 8 W ty (by omega))
    go_enter Try.func64, Try.ntmps64
    go_wp2_with fail
    refine HT.out.mono ?_
    rintro e w1 ⟨rfl, q, rfl⟩
    go_wp2_with fail
    refine (HP0.out (w.drewN q) _).mono ?_
    rintro e w1 ⟨rfl, rfl⟩
    go_wp2_with fail
    go_ret
    exact ⟨rfl, HB2.out q _⟩
end Go.Proofs.Ytcafbnddbddijaa
