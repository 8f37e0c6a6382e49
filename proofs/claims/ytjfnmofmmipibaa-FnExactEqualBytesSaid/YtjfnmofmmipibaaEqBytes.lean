/-
  EqualBytes, both sides: two rows of bytes as strings.
-/
import Derived.Test.YtjfnmofmmipibaaMarksB
import Derived.Laws.IdiomStrings
namespace Go.Proofs.Ytjfnmofmmipibaa
open Go.RowKit

def byteList (zs : List Int) : List UInt8 := zs.map fun z => UInt8.ofNat z.toNat
theorem byteList_len (zs : List Int) : (byteList zs).length = zs.length := by simp [byteList]
theorem byteList_at (zs : List Int) (hw : ∀ n ∈ zs, (Lit.int .u8 n).wf = true) (j : Nat) (hj : j < (byteList zs).length) (hj2 : j < zs.length) : ((byteList zs)[j].toNat : Int) = zs[j] := by
  have hb := bounds_u8 (hw _ (List.getElem_mem hj2))
  simp only [byteList, List.getElem_map]
  have : (UInt8.ofNat zs[j].toNat).toNat = zs[j].toNat := by simp [UInt8.toNat_ofNat']; omega
  rw [this]; omega
theorem byteList_inj {a b : List Int} (ha : ∀ n ∈ a, (Lit.int .u8 n).wf = true) (hb : ∀ n ∈ b, (Lit.int .u8 n).wf = true) (h : byteList a = byteList b) : a = b := by
  have hl : a.length = b.length := by rw [← byteList_len a, ← byteList_len b, h]
  refine List.ext_getElem hl fun j h1 h2 => ?_
  rw [← byteList_at a ha j (by rw [byteList_len]; exact h1) h1, ← byteList_at b hb j (by rw [byteList_len]; exact h2) h2]
  simp only [h]
theorem conv_row {w : World} {v : Value} {zs : List Int} {b : Nat} (h : RdAt .u8 w v zs b) :
    (convert 22 9 v).run Try.prog w = .ok (.string ⟨(byteList zs).toArray⟩) w := by
  have hwf := h.wf
  rcases h.open with ⟨rfl, a, cap, rfl, hcm, hnil⟩ | ⟨hz, off, cap, rfl, hcap, hc⟩
  · cases a with
    | none =>
      rw [run_convert_bytes_string w 22 9 5 none 0 cap Try.underlying22 Try.underlying5 Try.underlying9]
      rfl
    | some x => exact run_convert_bytes_back w 22 9 5 x cap [] Try.underlying22 Try.underlying5 Try.underlying9 (fun j hj => by simp at hj)
  · rw [← byteList_len zs]
    refine run_convert_bytes_back w 22 9 5 ⟨b, off, none⟩ cap (byteList zs) Try.underlying22 Try.underlying5 Try.underlying9 fun j hj => ?_
    have hj2 : j < zs.length := by rw [← byteList_len]; exact hj
    rw [byteList_at zs hwf j hj hj2]
    have e : (⟨b, off, none⟩ : Addr).add j = ⟨b, off + j, none⟩ := by simp [Addr.add]
    rw [e]; exact hc j hj2
theorem str_inj (a b : List UInt8) : (⟨a.toArray⟩ : ByteArray) = ⟨b.toArray⟩ ↔ a = b := by
  constructor
  · intro h
    have := congrArg (fun x : ByteArray => x.data.toList) h
    simpa using this
  · rintro rfl; rfl

theorem beq_dec {za zb : List Int} (ha : ∀ n ∈ za, (Lit.int .u8 n).wf = true) (hb : ∀ n ∈ zb, (Lit.int .u8 n).wf = true) : (byteList za == byteList zb) = decide (za = zb) := by
  by_cases h : za = zb
  · subst h; simp
  · have : byteList za ≠ byteList zb := fun e => h (byteList_inj ha hb e)
    simp [h, this]
set_option maxRecDepth 100000 in
set_option maxHeartbeats 1000000 in
theorem sEqualBytes_any (va vb : Value) (za zb : List Int) (ba bb : Nat) (w : World) (ha : RdAt .u8 w va za ba) (hb : RdAt .u8 w vb zb bb) :
    Calls Try.prog 38 #[va, vb] w fun e w' => e = .returned (.bool (decide (za = zb))) ∧ Below w.heap.size w w' := by
  have d1 := conv_row ha
  have d2 := conv_row hb
  have He := Lib.hid (beq_dec ha.wf hb.wf)
  go_enter Try.func38, Try.ntmps38
  go_wp2_with fail
  go_ret
  exact ⟨by rw [← He.out]; rfl, Below.refl _ _⟩
set_option maxRecDepth 100000 in
set_option maxHeartbeats 1000000 in
theorem bytesEqual_any (va vb : Value) (za zb : List Int) (ba bb : Nat) (w : World) (ha : RdAt .u8 w va za ba) (hb : RdAt .u8 w vb zb bb) :
    Calls Try.prog 64 #[va, vb] w fun e w' => e = .returned (.bool (decide (za = zb))) ∧ Below w.heap.size w w' := by
  have d1 := conv_row ha
  have d2 := conv_row hb
  have He := Lib.hid (beq_dec ha.wf hb.wf)
  go_enter Try.func64, Try.ntmps64
  go_wp2_with fail
  go_ret
  exact ⟨by rw [← He.out]; rfl, Below.refl _ _⟩
set_option maxRecDepth 100000 in
set_option maxHeartbeats 1000000 in
theorem equalBytes_any (va vb : Value) (za zb : List Int) (ba bb : Nat) (w : World) (ha : RdAt .u8 w va za ba) (hb : RdAt .u8 w vb zb bb) :
    Calls Try.prog 39 #[va, vb] w fun e w' => e = .returned (.bool (decide (za = zb))) ∧ Below w.heap.size w w' := by
  go_enter Try.func39, Try.ntmps39
  go_wp2_with fail
  refine (bytesEqual_any va vb za zb ba bb w ha hb).mono ?_
  rintro e w1 ⟨rfl, hb1⟩
  go_wp2_with fail
  go_ret
  exact ⟨rfl, hb1⟩
end Go.Proofs.Ytjfnmofmmipibaa
