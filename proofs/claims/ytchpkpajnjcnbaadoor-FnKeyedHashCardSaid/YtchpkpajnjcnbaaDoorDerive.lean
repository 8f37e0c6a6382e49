/-
  DeriveFromString, both sides.
-/
import Derived.Test.YtchpkpajnjcnbaaDoorHash
import Derived.Test.YtchpkpajnjcnbaaDoorB2I
import Derived.Test.YtchpkpajnjcnbaaDoorMinMax
import Derived.Laws.IdiomStrings
namespace Go.Proofs.YtchpkpajnjcnbaaDoor
open Go.RowKit

def strI (s : ByteArray) : List Int := s.data.toList.map fun b => (b.toNat : Int)
theorem strI_len (s : ByteArray) : (strI s).length = s.size := by simp [strI]
theorem strI_wf (s : ByteArray) : ∀ x ∈ strI s, (Lit.int .u8 x).wf = true := by
  intro x hx
  simp only [strI, List.mem_map] at hx
  obtain ⟨b, _, rfl⟩ := hx
  have := b.toNat_lt
  simp [Lit.wf, IntKind.min, IntKind.max, IntKind.signed, IntKind.bits]; omega
theorem keyed_bnd (c : Int) (zs : List Int) : 0 ≤ keyedI c zs ∧ keyedI c zs < 2147483647 := foldV_bd _ _
def deriveI (k : Int) (s : ByteArray) : Int := if keyedI k (b2i (strI s)) = 0 then 1 else keyedI k (b2i (strI s))
theorem cell_blk {w : World} {b : Nat} {c : Array Value} {t : TypeId} {fr : Nat × Nat} (h : w.heap[b]? = some (.cells c t fr)) (i : Nat) : w.cell? ⟨b, i, none⟩ = c[i]? := by
  simp [World.cell?, h]
theorem str_rd (w : World) (s : ByteArray) (hl : s.size ≤ 1048576) : ∃ w1 v, (∀ src dst : TypeId, src = 9 → dst = 29 → (convert src dst (.string s)).run Tryd.prog w = .ok v w1) ∧ RdAt .u8 w1 v (strI s) w.heap.size ∧ Below w.heap.size w w1 := by
  refine ⟨_, _, fun src dst h1 h2 => by subst h1 h2; exact run_bytes_of_string w 9 29 5 s Tryd.underlying9 Tryd.underlying29 Tryd.underlying5, ?_, ?_⟩
  · refine ⟨_, _, by rw [strI_len], ⟨?_, ?_, fun h => by cases h⟩, strI_wf s, .inr ⟨0, rfl, fun j hj => ?_⟩⟩
    · rw [strI_len]; exact grownCap_ge _ _ _ _
    · exact grownCap_le_maxLen _ _ _ _ (by unfold maxLen; omega)
    · have hj2 : j < s.data.size := by rw [strI_len] at hj; exact hj
      rw [Nat.zero_add]
      have hb : ∀ (C : Array Value) (e : TypeId) (f : Nat × Nat), (w.drew.alloc (.cells C e f)).cell? ⟨w.heap.size, j, none⟩ = C[j]? := fun C e f => by
        have h1 : (w.drew.alloc (.cells C e f)).heap[w.heap.size]? = some (.cells C e f) := by
          show (w.heap.push _)[w.heap.size]? = _
          simp
        exact cell_blk h1 j
      rw [hb, bytesRow_at s _ j hj2]
      simp [strI]
  · exact ((Below.refl _ _).drew).alloc (Nat.le_refl w.heap.size) _
theorem b2i_str_len (s : ByteArray) : (b2i (strI s)).length = s.size + 1 := by rw [b2i_len, strI_len]
set_option maxRecDepth 100000 in
set_option maxHeartbeats 400000 in
theorem derive_any (s0 s1 : Addr) (k : Int) (s : ByteArray) (w : World) (hl : s.size ≤ 1048576) (wk : (Lit.int .i64 k).wf = true) (hS : Sent s0 s1 w) :
    Calls Tryd.prog 26 #[.int .i64 k, .string s] w fun e w' => e = .returned (.int .i64 (deriveI k s)) ∧ Below w.heap.size w w' := by
  obtain ⟨w1, v, hcv, hrd, hB⟩ := str_rd w s hl
  have hcv1 := hcv _ _ rfl rfl
  have HS : Hid (∀ wx, Below w.heap.size w wx → Sent s0 s1 wx) := Lib.hid (fun wx hb => hS.below hb (Nat.le_refl _))
  have Hk := Lib.hid wk
  have hl2 : (strI s).length ≤ 1048576 := by rw [strI_len]; exact hl
  have Hl2 := Lib.hid hl2
  have Hl3 : Hid ((b2i (strI s)).length ≤ 1099511627776) := Lib.hid (by rw [b2i_str_len]; omega)
  clear hS wk hcv hl2
  by_cases h0 : keyedI k (b2i (strI s)) = 0
  · have Hr : Hid (deriveI k s = 1) := Lib.hid (if_pos h0)
    have H0 := Lib.hid h0
    clear h0
    go_enter Tryd.func26, Tryd.ntmps26
    go_wp2_with fail
    refine (bytesToInts_any v (strI s) _ w1 hrd Hl2.out).mono ?_
    rintro e w2 ⟨v2, b2, rfl, -, hw2, hb2⟩
    have hB2 := hB.trans (hb2.mono hB.size)
    go_wp2_with fail
    refine (keyedHash_any s0 s1 k v2 _ b2 w2 hw2.rd Hl3.out Hk.out (HS.out _ hB2)).mono ?_
    rintro e w3 ⟨rfl, hb3⟩
    rw [H0.out]
    have hB3 := hB2.trans (hb3.mono hB2.size)
    clear hB hB2 hb2 hb3 hw2 hrd
    go_wp2_with fail
    go_ret
    exact ⟨by rw [Hr.out]; rfl, hB3⟩
  · have Hr : Hid (deriveI k s = keyedI k (b2i (strI s))) := Lib.hid (if_neg h0)
    obtain ⟨x, hx⟩ : ∃ x, x = keyedI k (b2i (strI s)) := ⟨_, rfl⟩
    have Hx := Lib.hid hx
    have hx0 : ¬ x = 0 := by rw [hx]; exact h0
    have hq : (x == 0) = false := by simpa using hx0
    clear h0 hx hx0
    go_enter Tryd.func26, Tryd.ntmps26
    go_wp2_with fail
    refine (bytesToInts_any v (strI s) _ w1 hrd Hl2.out).mono ?_
    rintro e w2 ⟨v2, b2, rfl, -, hw2, hb2⟩
    have hB2 := hB.trans (hb2.mono hB.size)
    go_wp2_with fail
    refine (keyedHash_any s0 s1 k v2 _ b2 w2 hw2.rd Hl3.out Hk.out (HS.out _ hB2)).mono ?_
    rintro e w3 ⟨rfl, hb3⟩
    rw [← Hx.out]
    have hB3 := hB2.trans (hb3.mono hB2.size)
    clear hB hB2 hb2 hb3 hw2 hrd
    go_wp2_with fail
    go_ret
    exact ⟨by rw [Hr.out, ← Hx.out]; rfl, hB3⟩
set_option maxRecDepth 100000 in
set_option maxHeartbeats 400000 in
theorem sDerive_any (k : Int) (s : ByteArray) (w : World) (hl : s.size ≤ 1048576) (wk : (Lit.int .i64 k).wf = true) :
    Calls Tryd.prog 25 #[.int .i64 k, .string s] w fun e w' => e = .returned (.int .i64 (deriveI k s)) ∧ Below w.heap.size w w' := by
  obtain ⟨w1, v, hcv, hrd, hB⟩ := str_rd w s hl
  have hcv1 := hcv _ _ rfl rfl
  have Hk := Lib.hid wk
  have Hl2 : Hid ((strI s).length ≤ 1048576) := Lib.hid (by rw [strI_len]; exact hl)
  have Hl3 : Hid ((b2i (strI s)).length ≤ 1048577) := Lib.hid (by rw [b2i_str_len]; omega)
  have hbd := keyed_bnd k (b2i (strI s))
  have Hr : Hid (maxI 1 (keyedI k (b2i (strI s))) = deriveI k s) := Lib.hid (by
    unfold maxI deriveI
    split <;> split <;> omega)
  clear wk hcv hbd
  go_enter Tryd.func25, Tryd.ntmps25
  go_wp2_with fail
  refine (sBytesToInts_any v (strI s) _ w1 hrd Hl2.out).mono ?_
  rintro e w2 ⟨v2, b2, rfl, -, hw2, hb2⟩
  have hB2 := hB.trans (hb2.mono hB.size)
  go_wp2_with fail
  refine (sKeyedHash_any k v2 _ b2 w2 hw2.rd Hl3.out Hk.out).mono ?_
  rintro e w3 ⟨rfl, hb3⟩
  have hB3 := hB2.trans (hb3.mono hB2.size)
  clear hB hB2 hb2 hb3 hw2 hrd
  go_wp2_with fail
  refine (smax_any _ _ _).mono ?_
  rintro e _w ⟨rfl, rfl⟩
  rw [Hr.out]
  go_wp2_with fail
  go_ret
  exact ⟨rfl, hB3⟩
end Go.Proofs.YtchpkpajnjcnbaaDoor
