/-
  Contracts of the model's functions of chapters 4 and 5: cards and hands.
-/
import Derived.Test.YtepjijmgfdgfhaaDoorMarksI
import Derived.Test.YtepjijmgfdgfhaaDoorCard
namespace Go.Proofs.YtepjijmgfdgfhaaDoor
open Go.RowKit

def hasI (zs : List Int) (c : Int) : Bool := decide (c ∈ zs)
/-- All are cards, and none is there twice: told from the front, as the model looks. -/
def isHand (zs : List Int) : Bool := decide (∀ j (h : j < zs.length), isCard zs[j] = true ∧ zs[j] ∉ zs.take j)


set_option maxRecDepth 100000 in
theorem sHasCard_any (v : Value) (zs : List Int) (b : Nat) (c : Int) (w : World) (h : RdAt .i64 w v zs b) (hl : zs.length ≤ 1099511627776) :
    Calls Tryd.prog 20 #[v, .int .i64 c] w fun e w' => e = .returned (.bool (hasI zs c)) ∧ w = w' := by
  obtain ⟨a, cap, rfl, -, -, hcell⟩ := h
  obtain ⟨n, hn⟩ : ∃ n, n = zs.length := ⟨_, rfl⟩
  have Hn := Lib.hid hn
  rw [← hn] at hl ⊢
  clear hn
  obtain ⟨r, hr⟩ : ∃ r, r = hasI zs c := ⟨_, rfl⟩
  have Hr := Lib.hid hr
  rw [← hr]
  clear hr
  go_enter Tryd.func20, Tryd.ntmps20
  go_wp2_with fail
  go_loop [5] (fun i => ∃ k : Nat, k ≤ n ∧ i = .int .i64 k ∧ Hid (∀ j (hj : j < zs.length), j < k → zs[j] ≠ c)) (fun i => n - (intOf i).toNat)
  case atStart => exact ⟨0, Nat.zero_le _, rfl, Lib.hid (fun j _ h => by omega)⟩
  case round =>
    obtain ⟨k, hk, rfl, hno⟩ := hrel
    by_cases hlt : k < n
    · have hz : k < zs.length := by rw [← Hn.out]; exact hlt
      rcases hcell with h0 | ⟨off, rfl, hc⟩
      · subst h0; simp at hz
      obtain ⟨y, hy⟩ : ∃ y, Hid (y = zs[k]) := ⟨_, Lib.hid rfl⟩
      have h1 : w.cell? ⟨b, off + k, none⟩ = some (.int .i64 y) := by rw [hc k hz, hy.out]
      clear hc
      by_cases hyc : y = c
      · subst hyc
        have hr1 : Hid (r = true) := Lib.hid (by rw [Hr.out]; unfold hasI; rw [hy.out]; simp)
        go_wp2_with fail
        go_ret
        exact ⟨by rw [hr1.out]; rfl, rfl⟩
      · have hq : (y == c) = false := by simpa using hyc
        have hno2 : Hid (∀ j (hj : j < zs.length), j < k + 1 → zs[j] ≠ c) := Lib.hid (fun j hj h => by
          by_cases e : j = k
          · subst e; rw [← hy.out]; exact hyc
          · exact hno.out j hj (by omega))
        clear hyc
        go_wp2_with fail
        go_round
        case rel => exact ⟨k + 1, by omega, by go_num, hno2⟩
        case measure => simp [intOf]; omega
    · obtain rfl : k = n := by omega
      have hr1 : Hid (r = false) := Lib.hid (by
        rw [Hr.out]; unfold hasI
        simp only [decide_eq_false_iff_not]
        intro hm
        obtain ⟨j, hj, e⟩ := List.getElem_of_mem hm
        exact hno.out j hj (by rw [Hn.out]; exact hj) e)
      go_wp2_with fail
      go_ret
      exact ⟨by rw [hr1.out]; rfl, rfl⟩


end Go.Proofs.YtepjijmgfdgfhaaDoor
