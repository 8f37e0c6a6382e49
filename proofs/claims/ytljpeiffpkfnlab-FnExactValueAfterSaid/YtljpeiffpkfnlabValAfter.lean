/-
  ValueAfter, both sides.
-/
import Derived.Test.YtljpeiffpkfnlabMarksI
import Derived.Lib.Strings
namespace Go.Proofs.Ytljpeiffpkfnlab
open Go.RowKit
set_option linter.unusedVariables false

theorem take_extV (b : ByteArray) (k : Nat) : (b.extract 0 k).toList = b.data.toList.take k := by
  rw [Lib.toList_data, ByteArray.data_extract]; simp
theorem app_61 (b : ByteArray) : (b ++ ⟨#[61]⟩ : ByteArray).toList = b.data.toList ++ [61] := by
  rw [Lib.toList_data, ByteArray.data_append]; simp
theorem size_61 (b : ByteArray) : (b ++ ⟨#[61]⟩ : ByteArray).size = b.size + 1 := by
  rw [ByteArray.size_append]; rfl
theorem pre_iff (word name : ByteArray) (h : name.size < word.size) : (word.extract 0 (name.size + 1)).toList = (name ++ ⟨#[61]⟩ : ByteArray).toList ↔ (word.extract 0 name.size).toList = name.toList ∧ word[name.size].toNat = 61 := by
  have hW : name.size < word.data.toList.length := by simpa using h
  have hN : name.data.toList.length = name.size := by simp
  rw [take_extV, app_61, take_extV, Lib.toList_data name, List.take_succ_eq_append_getElem hW]
  have e : word.data.toList[name.size] = word[name.size] := rfl
  rw [e]
  constructor
  · intro hx
    obtain ⟨h1, h2⟩ := List.append_inj hx (by rw [List.length_take, hN]; omega)
    exact ⟨h1, by rw [List.singleton_inj.1 h2]; rfl⟩
  · rintro ⟨h1, h2⟩
    rw [h1]
    congr 1
    rw [List.singleton_inj]
    exact UInt8.toNat_inj.1 h2
def isAfter (word name : ByteArray) : Bool := decide (name.size < word.size ∧ (word.extract 0 (name.size + 1)).toList = (name ++ ⟨#[61]⟩ : ByteArray).toList)
def valAfter (word name : ByteArray) : ByteArray := if isAfter word name then word.extract (name.size + 1) word.size else ⟨#[]⟩
theorem after_y {word name : ByteArray} (h : name.size < word.size) (h2 : (word.extract 0 (name.size + 1)).toList = (name ++ ⟨#[61]⟩ : ByteArray).toList) : isAfter word name = true ∧ valAfter word name = word.extract (name.size + 1) word.size := by
  have e : isAfter word name = true := decide_eq_true ⟨h, h2⟩
  exact ⟨e, by unfold valAfter; rw [e]; rfl⟩
theorem after_n {word name : ByteArray} (h : ¬ (name.size < word.size ∧ (word.extract 0 (name.size + 1)).toList = (name ++ ⟨#[61]⟩ : ByteArray).toList)) : isAfter word name = false ∧ valAfter word name = ⟨#[]⟩ := by
  have e : isAfter word name = false := decide_eq_false h
  exact ⟨e, by unfold valAfter; rw [e]; rfl⟩

set_option maxRecDepth 100000 in
theorem cut_y (s p : ByteArray) (w : World) (h : p.size ≤ s.size) (h1 : s.size ≤ 1048576) (h2 : (s.extract 0 p.size).toList = p.toList) :
    Calls Try.prog 23 #[.string s, .string p] w fun e w' => e = .returned (.tuple #[.string (s.extract p.size s.size), .bool true]) ∧ w = w' := by
  go_enter Try.func23, Try.ntmps23
  go_wp2
  go_ret2
  exact ⟨rfl, rfl⟩
set_option maxRecDepth 100000 in
theorem cut_n (s p : ByteArray) (w : World) (h : p.size ≤ s.size) (h1 : s.size ≤ 1048576) (h2 : ¬ (s.extract 0 p.size).toList = p.toList) :
    Calls Try.prog 23 #[.string s, .string p] w fun e w' => e = .returned (.tuple #[.string s, .bool false]) ∧ w = w' := by
  have hq : ((s.extract 0 p.size).toList == p.toList) = false := by simpa using h2
  go_enter Try.func23, Try.ntmps23
  go_wp2
  go_ret2
  exact ⟨rfl, rfl⟩
set_option maxRecDepth 100000 in
theorem cut_s (s p : ByteArray) (w : World) (h : s.size < p.size) (h1 : p.size ≤ 1048577) :
    Calls Try.prog 23 #[.string s, .string p] w fun e w' => e = .returned (.tuple #[.string s, .bool false]) ∧ w = w' := by
  have hq : decide (p.size ≤ s.size) = false := by simp; omega
  go_enter Try.func23, Try.ntmps23
  go_wp2
  go_ret2
  exact ⟨rfl, rfl⟩
set_option maxRecDepth 100000 in
theorem valueAfter_any (word name : ByteArray) (w : World) (h1 : word.size ≤ 1048576) (h2 : name.size ≤ 1048576) :
    Calls Try.prog 13 #[.string word, .string name] w fun e w' => e = .returned (.tuple #[.string (valAfter word name), .bool (isAfter word name)]) ∧ w = w' := by
  have hs := size_61 name
  by_cases hlt : name.size < word.size
  · by_cases hx : (word.extract 0 (name.size + 1)).toList = (name ++ ⟨#[61]⟩ : ByteArray).toList
    · obtain ⟨e1, e2⟩ := after_y hlt hx
      have HC := Lib.hid (cut_y word (name ++ ⟨#[61]⟩) w (by omega) h1 (by rw [hs]; exact hx))
      rw [hs] at HC
      rw [e1, e2]
      clear hs e1 e2 hx
      go_enter Try.func13, Try.ntmps13
      go_wp2_with fail
      refine HC.out.mono ?_
      rintro e _w ⟨rfl, rfl⟩
      go_wp2_with fail
      go_ret2
      exact ⟨rfl, rfl⟩
    · obtain ⟨e1, e2⟩ := after_n (fun h => hx h.2)
      have HC := Lib.hid (cut_n word (name ++ ⟨#[61]⟩) w (by omega) h1 (by rw [hs]; exact hx))
      rw [e1, e2]
      clear hs e1 e2 hx
      go_enter Try.func13, Try.ntmps13
      go_wp2_with fail
      refine HC.out.mono ?_
      rintro e _w ⟨rfl, rfl⟩
      go_wp2_with fail
      go_ret2
      exact ⟨rfl, rfl⟩
  · obtain ⟨e1, e2⟩ := after_n (fun h => hlt h.1)
    have HC := Lib.hid (cut_s word (name ++ ⟨#[61]⟩) w (by omega) (by omega))
    rw [e1, e2]
    clear hs e1 e2
    go_enter Try.func13, Try.ntmps13
    go_wp2_with fail
    refine HC.out.mono ?_
    rintro e _w ⟨rfl, rfl⟩
    go_wp2_with fail
    go_ret2
    exact ⟨rfl, rfl⟩
set_option maxRecDepth 100000 in
theorem sValueAfter_any (word name : ByteArray) (w : World) (h1 : word.size ≤ 1048576) (h2 : name.size ≤ 1048576) :
    Calls Try.prog 12 #[.string word, .string name] w fun e w' => e = .returned (.tuple #[.string (valAfter word name), .bool (isAfter word name)]) ∧ w = w' := by
  by_cases hlt : name.size < word.size
  · have hle : ¬ word.size ≤ name.size := by omega
    by_cases hx : (word.extract 0 name.size).toList = name.toList
    · by_cases hb : word[name.size].toNat = 61
      · obtain ⟨e1, e2⟩ := after_y hlt ((pre_iff word name hlt).2 ⟨hx, hb⟩)
        rw [e1, e2]
        have hq : ((word[name.size].toNat : Int) != 61) = false := by simp [hb]
        clear e1 e2 hb
        go_enter Try.func12, Try.ntmps12
        go_wp2
        go_ret2
        exact ⟨rfl, rfl⟩
      · obtain ⟨e1, e2⟩ := after_n (fun h => hb ((pre_iff word name hlt).1 h.2).2)
        rw [e1, e2]
        have hq : ((word[name.size].toNat : Int) != 61) = true := by simp; omega
        clear e1 e2 hb
        go_enter Try.func12, Try.ntmps12
        go_wp2
        go_ret2
        exact ⟨rfl, rfl⟩
    · obtain ⟨e1, e2⟩ := after_n (fun h => hx ((pre_iff word name hlt).1 h.2).1)
      rw [e1, e2]
      clear e1 e2
      go_enter Try.func12, Try.ntmps12
      go_wp2
      go_ret2
      exact ⟨rfl, rfl⟩
  · have hle : word.size ≤ name.size := by omega
    obtain ⟨e1, e2⟩ := after_n (fun h => hlt h.1)
    rw [e1, e2]
    clear e1 e2
    go_enter Try.func12, Try.ntmps12
    go_wp2
    go_ret2
    exact ⟨rfl, rfl⟩
end Go.Proofs.Ytljpeiffpkfnlab
