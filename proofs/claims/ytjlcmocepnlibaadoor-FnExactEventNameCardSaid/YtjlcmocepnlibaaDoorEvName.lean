/-
  EventName, both sides.
-/
import Derived.Test.YtjlcmocepnlibaaDoorIn
import Derived.Test.YtjlcmocepnlibaaDoorRows
import Derived.Lib.LaidU8
import Derived.LaidMore
import Derived.MakeChecks
namespace Go.Proofs.YtjlcmocepnlibaaDoor
open Go.RowKit Go.Extern
set_option linter.unusedVariables false
set_option linter.unusedSimpArgs false

def evName (k : Int) : ByteArray := if k = 1 then ⟨#[115, 101, 97, 108]⟩ else if k = 2 then ⟨#[100, 101, 97, 108]⟩ else if k = 3 then ⟨#[112, 108, 97, 121]⟩ else if k = 4 then ⟨#[116, 97, 107, 101]⟩ else if k = 5 then ⟨#[115, 101, 116, 116, 108, 101]⟩ else ⟨#[]⟩
theorem evName_out {k : Int} (h : ¬ (1 ≤ k ∧ k ≤ 5)) : evName k = ⟨#[]⟩ := by
  unfold evName
  rw [if_neg (by omega), if_neg (by omega), if_neg (by omega), if_neg (by omega), if_neg (by omega)]
theorem name_at {w : World} {n : String} {ds : List (DataW Unit)} {g i : Nat} {bs : List UInt8} (h : Lib.VarReads Tryd.prog w n (.agg ds)) (hg : Tryd.prog.globalNamed n = some g)
    (ht : (Tryd.prog.globals[g]?).map (·.type) = some 34) (hi : i < 6) (hd : ds[i]? = some (.lit (.string bs))) : w.cell? ⟨g, i, none⟩ = some (.string ⟨bs.toArray⟩) := by
  obtain ⟨g', t', cs, fuel, p, h1, h2, h3, h4⟩ := h
  obtain rfl := Option.some.inj (hg.symm.trans h1)
  obtain rfl := Option.some.inj (ht.symm.trans h2)
  obtain ⟨fuel', d, q, hd', h5⟩ := Lib.array_elem Tryd.underlying34 h4 i hi
  rw [hd] at hd'
  obtain rfl := Option.some.inj hd'
  have hc1 : Tryd.prog.cellsOf 9 = 1 := by kernel_rfl
  rw [hc1, Nat.mul_one] at h5
  obtain ⟨s, hs, hx, -⟩ := DataW.trod_string Tryd.underlying9 h5
  have hsb : s = ⟨bs.toArray⟩ := by
    simp only [Prod.mk.injEq, DataW.lit.injEq, Lit.string.injEq, and_true] at hx
    cases s with
    | mk data => simp at hx; simp [hx.1]
  have hcell : w.cell? ⟨g, i, none⟩ = cs[i]? := by simpa using World.var?_cell hg h3 i
  have h6 : cs.toList[i]? = some (.string s) := by
    have := congrArg (·[0]?) hs
    simpa [List.getElem?_take, List.getElem?_drop] using this
  rw [hcell, ← Array.getElem?_toList, h6, hsb]
def EvNames (w : World) : Prop := w.cell? ⟨0, 1, none⟩ = some (.string ⟨#[115, 101, 97, 108]⟩) ∧ w.cell? ⟨0, 2, none⟩ = some (.string ⟨#[100, 101, 97, 108]⟩) ∧ w.cell? ⟨0, 3, none⟩ = some (.string ⟨#[112, 108, 97, 121]⟩) ∧ w.cell? ⟨0, 4, none⟩ = some (.string ⟨#[116, 97, 107, 101]⟩) ∧ w.cell? ⟨0, 5, none⟩ = some (.string ⟨#[115, 101, 116, 116, 108, 101]⟩)
theorem EvNames.below {w w1 : World} (h : EvNames w) (b : Below w.heap.size w w1) : EvNames w1 := by
  obtain ⟨h1, h2, h3, h4, h5⟩ := h
  have k := fun {a : Addr} {v : Value} (h : w.cell? a = some v) => (b.cell (World.block_lt_of_cell? _ _ h)).trans h
  exact ⟨k h1, k h2, k h3, k h4, k h5⟩
theorem names_of_laid {w : World} {r : List (String × DataW Unit)} (h : laidMet Tryd.prog (("loop.example/g03010/impl.eventNames", Rows.laid_loop_example_g03010_impl_eventNames) :: r) w) : EvNames w := by
  have hr := Lib.laidMet.reads h (.head _)
  have hg : Tryd.prog.globalNamed "loop.example/g03010/impl.eventNames" = some 0 := by kernel_rfl
  have ht : (Tryd.prog.globals[0]?).map (·.type) = some 34 := by kernel_rfl
  exact ⟨name_at hr hg ht (by decide) rfl, name_at hr hg ht (by decide) rfl, name_at hr hg ht (by decide) rfl, name_at hr hg ht (by decide) rfl, name_at hr hg ht (by decide) rfl⟩
set_option maxRecDepth 100000 in
theorem isKind_any (k : Int) (w : World) (r : Bool) (hr : decide (1 ≤ k ∧ k ≤ 5) = r) :
    Calls Tryd.prog 17 #[.int .i64 k] w fun e w' => e = .returned (.bool r) ∧ w = w' := by
  have HI := Lib.hid (inR_any k 1 5 w r hr.symm)
  clear hr
  go_enter Tryd.func17, Tryd.ntmps17
  go_wp2_with fail
  refine HI.out.mono ?_
  rintro e _w ⟨rfl, rfl⟩
  go_wp2_with fail
  go_ret
  exact ⟨rfl, rfl⟩
set_option maxRecDepth 100000 in
set_option maxHeartbeats 1000000 in
theorem eventName_any (k : Int) (w : World) (hN : EvNames w) :
    Calls Tryd.prog 7 #[.int .i64 k] w fun e w' => e = .returned (.string (evName k)) ∧ Below w.heap.size w w' := by
  by_cases h : 1 ≤ k ∧ k ≤ 5
  · have HK := Lib.hid (isKind_any k w true (by simp [h]))
    obtain ⟨n1, n2, n3, n4, n5⟩ := hN
    obtain rfl | rfl | rfl | rfl | rfl : k = 1 ∨ k = 2 ∨ k = 3 ∨ k = 4 ∨ k = 5 := by omega
    all_goals
      clear h
      go_enter Tryd.func7, Tryd.ntmps7
      go_wp2_with fail
      refine HK.out.mono ?_
      rintro e _w ⟨rfl, rfl⟩
      go_wp2_with fail
      go_ret
      exact ⟨rfl, Below.refl _ _⟩
  · rw [evName_out h]
    have HK := Lib.hid (isKind_any k w false (by simp; omega))
    clear h hN
    go_enter Tryd.func7, Tryd.ntmps7
    go_wp2_with fail
    refine HK.out.mono ?_
    rintro e _w ⟨rfl, rfl⟩
    go_wp2_with fail
    go_ret
    exact ⟨rfl, Below.refl _ _⟩
set_option maxRecDepth 100000 in
set_option maxHeartbeats 1000000 in
theorem sEventName_any (k : Int) (w : World) :
    Calls Tryd.prog 6 #[.int .i64 k] w fun e w' => e = .returned (.string (evName k)) ∧ Below w.heap.size w w' := by
  by_cases h : 1 ≤ k ∧ k ≤ 5
  · have HK := Lib.hid (inM_any k 1 5 w true (by simp [h]))
    have B0 := fun o => (Below.refl w.heap.size w).alloc (Nat.le_refl _) o
    obtain rfl | rfl | rfl | rfl | rfl : k = 1 ∨ k = 2 ∨ k = 3 ∨ k = 4 ∨ k = 5 := by omega
    all_goals
      clear h
      go_enter Tryd.func6, Tryd.ntmps6
      go_wp2_with fail
      refine HK.out.mono ?_
      rintro e _w ⟨rfl, rfl⟩
      go_wp2_with fail
      go_ret
      exact ⟨rfl, B0 _⟩
  · rw [evName_out h]
    have HK := Lib.hid (inM_any k 1 5 w false (by simp; omega))
    clear h
    go_enter Tryd.func6, Tryd.ntmps6
    go_wp2_with fail
    refine HK.out.mono ?_
    rintro e _w ⟨rfl, rfl⟩
    go_wp2_with fail
    go_ret
    exact ⟨rfl, Below.refl _ _⟩
end Go.Proofs.YtjlcmocepnlibaaDoor
