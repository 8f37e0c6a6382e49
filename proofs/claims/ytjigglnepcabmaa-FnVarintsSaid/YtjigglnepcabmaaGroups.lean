/-
  What a list of varints reads as; groupsFrom by contract.
-/
import Derived.Test.YtjigglnepcabmaaImpl02
import Derived.Test.YtjigglnepcabmaaModel02b
import Derived.Test.YtjigglnepcabmaaMinMax
import Derived.Deep.LoopGhost
namespace Go.Proofs.Ytjigglnepcabmaa
open Go.RowKit

def rdAll (zs : List Int) : Nat → Int → List Int → Option (List Int × Int)
  | 0, s, acc => some (acc, s)
  | n + 1, s, acc => match rdU zs s with
    | none => none
    | some (x, nx) => rdAll zs n nx (acc ++ [x])
theorem rdAll_none {zs : List Int} {s : Int} {n : Nat} {acc : List Int} (h : rdU zs s = none) : rdAll zs (n + 1) s acc = none := by rw [rdAll, h]
theorem rdAll_some {zs : List Int} {s x nx : Int} {n : Nat} {acc : List Int} (h : rdU zs s = some (x, nx)) : rdAll zs (n + 1) s acc = rdAll zs n nx (acc ++ [x]) := by rw [rdAll, h]
/-- As many varints as are asked for, from an offset in the bytes on. -/
def rdList (zs : List Int) (c : Int) (cnt : Nat) : Option (List Int × Int) := if 0 ≤ c ∧ c ≤ (zs.length : Int) then rdAll zs cnt c [] else none
def rdZ : Option (List Int × Int) → List Int
  | some (l, _) => l
  | none => []
def rdN : Option (List Int × Int) → Int
  | some (_, n) => n
  | none => 0
def rdB : Option (List Int × Int) → Bool
  | some _ => true
  | none => false
theorem u8_and128 : ∀ x : Fin 256, bits .and .u8 (x.1 : Int) 128 = if x.1 < 128 then 0 else 128 := by decide +kernel
theorem u8_andNot128 : ∀ x : Fin 256, bits .andNot .u8 (x.1 : Int) 128 = (x.1 : Int) % 128 := by decide +kernel
theorem u8_and (y : Int) (h0 : 0 ≤ y) (h1 : y < 256) : bits .and .u8 y 128 = if y < 128 then 0 else 128 := by
  obtain ⟨n, rfl⟩ := Int.eq_ofNat_of_zero_le h0
  have := u8_and128 ⟨n, by omega⟩
  simp only at this
  rw [this]
  by_cases h : n < 128
  · rw [if_pos h, if_pos (by omega)]
  · rw [if_neg h, if_neg (by omega)]
theorem u8_andNot (y : Int) (h0 : 0 ≤ y) (h1 : y < 256) : bits .andNot .u8 y 128 = y % 128 := by
  obtain ⟨n, rfl⟩ := Int.eq_ofNat_of_zero_le h0
  exact u8_andNot128 ⟨n, by omega⟩

/-- What is read at offset s: as many bytes as one varint can have. -/
def groups (zs : List Int) (s : Nat) : List Int := (zs.drop s).take 6
theorem groups_len (zs : List Int) (s : Nat) : (groups zs s).length = min 6 (zs.length - s) := by unfold groups; simp
theorem groups_at (zs : List Int) (s k : Nat) (h : k < (groups zs s).length) (h2 : s + k < zs.length) : (groups zs s)[k] = zs[s + k] := by
  have e : (groups zs s)[k]? = some zs[s + k] := by
    have h6 := h
    rw [groups_len] at h6
    unfold groups
    rw [List.getElem?_take_of_lt (by omega), List.getElem?_drop, List.getElem?_eq_getElem h2]
  rw [List.getElem?_eq_getElem h] at e
  exact Option.some.inj e

/-- A part of a slice. -/
theorem RdAt.part {k : IntKind} {w : World} {b off : Nat} {zs : List Int} (hw : ∀ n ∈ zs, (Lit.int k n).wf = true) (h : Cells k w b off zs) (s m c : Nat) (hm : s + m ≤ zs.length) (hc : m ≤ c ∧ c ≤ maxLen) : RdAt k w (.slice (some ⟨b, off + s, none⟩) m c) ((zs.drop s).take m) b := by
  have hl : ((zs.drop s).take m).length = m := by simp; omega
  refine ⟨_, _, by rw [hl], ⟨by omega, hc.2, fun h => by cases h⟩, fun n hn => hw n (List.mem_of_mem_drop (List.mem_of_mem_take hn)), .inr ⟨off + s, rfl, fun j hj => ?_⟩⟩
  rw [hl] at hj
  have := h (s + j) (by omega)
  rw [show off + s + j = off + (s + j) by omega, this]
  simp

set_option maxRecDepth 100000 in
set_option maxHeartbeats 1000000 in
theorem groupsFrom_any (v : Value) (zs : List Int) (b : Nat) (s : Nat) (w : World) (h : RdAt .u8 w v zs b) (hl : zs.length ≤ 1099511627776) (hs : s ≤ zs.length) :
    Calls Try.prog 103 #[v, .int .i64 s] w fun e w' => ∃ v', e = .returned v' ∧ RdAt .u8 w' v' (groups zs s) b ∧ Below w.heap.size w w' := by
  have hmin : minI (zs.length : Int) ((s : Int) + 6) = (s : Int) + ((groups zs s).length : Int) := by
    rw [groups_len]; unfold minI; split <;> omega
  have hg := groups_len zs s
  have hge : groups zs s = (zs.drop s).take (groups zs s).length := by
    rw [hg]; unfold groups
    rw [← List.length_drop, List.take_eq_take_min]
  obtain ⟨n, hn⟩ : ∃ n, n = zs.length := ⟨_, rfl⟩
  obtain ⟨m, hm⟩ : ∃ m, m = (groups zs s).length := ⟨_, rfl⟩
  have Hn := Lib.hid hn
  have Hm := Lib.hid hm
  have Hge := Lib.hid hge
  rw [← hm, ← hn] at hmin
  rw [← hm, ← hn] at hg
  rw [← hn] at hl hs
  have hm1 : s + m ≤ n := by omega
  have hm2 : m ≤ 6 := by omega
  have Hmin := Lib.hid hmin
  clear hge hg hmin
  rcases h.open with ⟨hz, a, cap, rfl, hcm, hnil⟩ | ⟨hz, off, cap, rfl, hcap, hc⟩
  · subst hz
    obtain rfl : n = 0 := by rw [hn]; rfl
    obtain rfl : s = 0 := by omega
    obtain rfl : m = 0 := by omega
    unfold maxLen at hcm
    have hr : ∀ w' : World, ∀ a' cap', cap' ≤ maxLen → (a' = none → cap' = 0) → RdAt .u8 w' (.slice a' 0 cap') (groups [] 0) b := fun w' a' cap' h1 h2 => (WrAt.nil .u8 w' a' cap' b ⟨h1, h2⟩).rd
    have Hr := Lib.hid hr
    clear hr hn hm h hm1 hm2 hs hl Hge Hm Hn
    cases a with
    | none =>
      obtain rfl := hnil rfl
      clear hnil hcm
      go_enter Try.func103, Try.ntmps103
      go_wp2_with fail
      refine (min_any _ _ _).mono ?_
      rintro e w1 ⟨rfl, hb1⟩
      rw [show minI 0 6 = 0 from by decide]
      clear Hmin
      go_wp2_with fail
      go_ret
      exact ⟨_, rfl, Hr.out _ _ _ (by unfold maxLen; omega) (fun _ => rfl), hb1⟩
    | some x =>
      clear hnil
      go_enter Try.func103, Try.ntmps103
      go_wp2_with fail
      refine (min_any _ _ _).mono ?_
      rintro e w1 ⟨rfl, hb1⟩
      rw [show minI 0 6 = 0 from by decide]
      clear Hmin
      go_wp2_with fail
      go_ret
      exact ⟨_, rfl, Hr.out _ _ _ (by unfold maxLen; omega) (fun h => by cases h), hb1⟩
  · have hcap2 := hcap
    rw [← hn] at hcap2
    unfold maxLen at hcap2
    have hlt := h.lt hz
    have hwf := h.wf
    by_cases hm0 : m = 0
    · subst hm0
      have hr : ∀ w' : World, ∀ a' cap', cap' ≤ maxLen → (a' = none → cap' = 0) → RdAt .u8 w' (.slice a' 0 cap') (groups zs s) b := fun w' a' cap' h1 h2 => by
        have e : groups zs s = [] := List.length_eq_zero_iff.1 hm.symm
        rw [e]; exact (WrAt.nil .u8 w' a' cap' b ⟨h1, h2⟩).rd
      have Hr := Lib.hid hr
      rw [← hn]
      clear hr hn hm h hc hcap hwf
      go_enter Try.func103, Try.ntmps103
      go_wp2_with fail
      refine (min_any _ _ _).mono ?_
      rintro e w1 ⟨rfl, hb1⟩
      rw [Hmin.out]
      go_wp2_with fail
      go_ret
      exact ⟨_, rfl, Hr.out _ _ _ (by unfold maxLen; omega) (fun h => by cases h), hb1⟩
    · have hr : ∀ w' : World, w'.heap[b]? = w.heap[b]? → RdAt .u8 w' (.slice (some ⟨b, off + s, none⟩) m m) (groups zs s) b := fun w' hb => by
        have e : groups zs s = (zs.drop s).take m := by rw [Hge.out, ← hm]
        rw [e]
        refine RdAt.part (w := w') hwf (fun j hj => ?_) s m m (by rw [← hn]; exact hm1) ⟨Nat.le_refl _, by unfold maxLen; omega⟩
        rw [World.cell?_of_block (w := w) (a := ⟨b, off + j, none⟩) hb]; exact hc j hj
      have Hr := Lib.hid hr
      rw [← hn]
      clear hr hn hm h hc hcap hwf
      go_enter Try.func103, Try.ntmps103
      go_wp2_with fail
      refine (min_any _ _ _).mono ?_
      rintro e w1 ⟨rfl, hb1⟩
      rw [Hmin.out]
      have hfin := Lib.hid (Hr.out w1 (hb1.block b hlt))
      have e1 : ((s : Int) + (m : Int)).toNat = s + m := by omega
      have e2 : ((s : Int) + (m : Int) - (s : Int)).toNat = m := by omega
      go_wp2_with fail
      go_ret
      exact ⟨_, rfl, hfin.out, hb1⟩
end Go.Proofs.Ytjigglnepcabmaa
