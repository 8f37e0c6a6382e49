/-
  Contracts of the functions of chapter 2 of the model.
-/
import Derived.Test.YtjigglnepcabmaaMarksB
import Derived.Test.YtjigglnepcabmaaMarksI
namespace Go.Proofs.Ytjigglnepcabmaa
open Go.RowKit

def uvar (n : Nat) : List Int := if n ≤ 127 then [(n : Int)] else ((n % 128 + 128 : Nat) : Int) :: uvar (n / 128)
termination_by n
decreasing_by omega
def putU (zs : List Int) (n : Int) : List Int := if 0 ≤ n ∧ n ≤ 1000000000000 then zs ++ uvar n.toNat else zs

theorem i64_or128 (x : Int) (h0 : 0 ≤ x) (h1 : x < 128) : bits .or .i64 x 128 = x + 128 := by
  have hc : bits .or .i64 x 128 = bits .or .i64 128 x := by simp only [bits, BitVec.or_comm]
  rw [hc, bits_join .i64 62 (by decide) (fun n a b => by rw [IntKind.wrap_i64]; omega) 7 128 x (by decide) (by decide) (by decide) h0 h1 (by omega)]
  omega

theorem uvar_byte (n : Nat) : ∀ x ∈ uvar n, 0 ≤ x ∧ x ≤ 255 := by
  induction n using Nat.strongRecOn with
  | _ n ih =>
    rw [uvar]
    split
    · intro x hx; simp at hx; omega
    · intro x hx
      rcases List.mem_cons.1 hx with rfl | hx
      · omega
      · exact ih (n / 128) (by omega) x hx
theorem uvar_wf (n : Nat) : ∀ x ∈ uvar n, (Lit.int .u8 x).wf = true := by
  intro x hx
  have := uvar_byte n x hx
  simp [Lit.wf, IntKind.min, IntKind.max, IntKind.signed, IntKind.bits]; omega
theorem uvar_len : ∀ (k n : Nat), n < 128 ^ (k + 1) → (uvar n).length ≤ k + 1
  | 0, n, h => by rw [uvar, if_pos (by simp at h; omega)]; simp
  | k + 1, n, h => by
    rw [uvar]
    split
    · simp
    · have := uvar_len k (n / 128) (by rw [Nat.pow_succ] at h; omega)
      simp; omega
theorem putU_len (zs : List Int) (n : Int) : (putU zs n).length ≤ zs.length + 6 := by
  unfold putU
  split
  · have := uvar_len 5 n.toNat (by omega)
    simp; omega
  · omega
theorem putU_wf (zs : List Int) (n : Int) (h : ∀ x ∈ zs, (Lit.int .u8 x).wf = true) : ∀ x ∈ putU zs n, (Lit.int .u8 x).wf = true := by
  unfold putU
  split
  · intro x hx
    rcases List.mem_append.1 hx with hx | hx
    · exact h x hx
    · exact uvar_wf _ x hx
  · exact h

/-- What stands before what is still to be put. -/
theorem uvar_big (n : Nat) (h : ¬ n ≤ 127) : uvar n = ((n % 128 + 128 : Nat) : Int) :: uvar (n / 128) := by rw [uvar, if_neg h]
theorem uvar_small (n : Nat) (h : n ≤ 127) : uvar n = [(n : Int)] := by rw [uvar, if_pos h]

theorem in_any (n lo hi : Int) (w : World) (r : Bool) (hr : r = decide (lo ≤ n ∧ n ≤ hi)) :
    Calls Try.prog 82 #[.int .i64 n, .int .i64 lo, .int .i64 hi] w fun e w' => e = .returned (.bool r) ∧ w = w' := by
  by_cases h0 : lo ≤ n
  · by_cases h1 : n ≤ hi
    · have e : r = true := by rw [hr]; simp; omega
      subst e; clear hr
      go_enter Try.func82, Try.ntmps82
      go_wp2
      go_ret
      exact ⟨rfl, rfl⟩
    · have e : r = false := by rw [hr]; simp; omega
      have hd : decide (n ≤ hi) = false := by simp; omega
      subst e; clear hr
      go_enter Try.func82, Try.ntmps82
      go_wp2
      go_ret
      exact ⟨rfl, rfl⟩
  · have e : r = false := by rw [hr]; simp; omega
    subst e; clear hr
    go_enter Try.func82, Try.ntmps82
    go_wp2
    go_ret
    exact ⟨rfl, rfl⟩

set_option maxRecDepth 100000 in
set_option maxHeartbeats 1000000 in
theorem sAppendUvarint_own (v : Value) (zs : List Int) (b : Nat) (c : Int) (w : World) (h : RdAt .u8 w v zs b) (hl : zs.length ≤ 1099511627770) (wc : (Lit.int .i64 c).wf = true) :
    Calls Try.prog 68 #[v, .int .i64 c] w fun e w' => ∃ v', e = .returned v' ∧ w'.ownsRow w.heap.size 5 1 v' (putU zs c).length ((putU zs c).map (Value.int .u8)) ∧ Below w.heap.size w w' := by
  obtain ⟨i0, hi, hz0, hz1, hz2⟩ := info_parts info_u8
  have hwf := h.wf
  have bc := bounds_i64 wc
  have hown0 := World.ownsRow_lit (base := w.heap.size) (e := 5) (size := 1) w #[] 0 (Nat.le_refl _) (Nat.zero_le _) rfl
  have ha : RdAt .u8 (w.alloc (.cells #[] 5)) v zs b := h.below ((Below.refl _ _).alloc (Nat.le_refl _) _)
  obtain ⟨p0, cap0, hv0, -⟩ := id h
  go_enter Try.func68, Try.ntmps68
  subst hv0
  go_wp2_with (at_builtin; refine wpList_append_rd _ rfl _ _ 22 rfl w.heap.size 5 i0 (.int .u8 0) 1 Try.underlying22 hi hz0 hz1 hz2 rfl _ _ _ rfl hown0 .u8 _ zs b rfl ha ?d3 ?d4 (by simp) ?_)
  case d3 => unfold maxLen; omega
  case d4 => omega
  intro v1 w1 hown hgr
  have hb1 : Below w.heap.size w w1 := ((Below.refl _ _).alloc (Nat.le_refl _) _).grown hgr (by simp) (own_block hown0)
  try simp only [Nat.zero_add, List.nil_append] at hown
  clear hgr ha hown0
  by_cases hc : 0 ≤ c ∧ c ≤ 1000000000000
  · have hp : Hid (putU zs c = zs ++ uvar c.toNat) := Lib.hid (if_pos hc)
    go_wp2_with fail
    refine (in_any _ _ _ _ true (by simp; omega)).mono ?_
    rintro e _w ⟨rfl, rfl⟩
    obtain ⟨m, rfl⟩ := Int.eq_ofNat_of_zero_le hc.1
    go_wp2_with fail
    go_loopw [1, 5] (fun n o wr => ∃ (k : Nat) (F : List Int), n = .int .i64 k ∧ k ≤ 1000000000000 ∧ F.length ≤ zs.length + 64 ∧ F.length + (uvar k).length ≤ zs.length + 6 ∧ Hid (F ++ uvar k = zs ++ uvar m) ∧ Below w.heap.size w wr ∧ wr.ownsRow w.heap.size 5 1 o F.length (F.map (Value.int .u8))) (fun n _ _ => (intOf n).toNat)
    case atStart => exact ⟨m, zs, rfl, by omega, by omega, by have := uvar_len 5 m (by omega); omega, Lib.hid rfl, hb1, hown⟩
    case round =>
      clear hown hb1
      obtain ⟨k, F, rfl, hk, hF1, hF2, hF, hb2, hown⟩ := hrel
      have hsz := hb2.size
      by_cases hbig : 127 < k
      · have e := uvar_big k (by omega)
        have hand := i64_and127
        have hor := i64_or128 ((k : Int) % 128) (by omega) (by omega)
        rw [e] at hF2
        have ey : ((k % 128 + 128 : Nat) : Int) = (k : Int) % 128 + 128 := by omega
        have hF3 : Hid ((F ++ [(k : Int) % 128 + 128]) ++ uvar (k / 128) = zs ++ uvar m) := Lib.hid (by rw [← hF.out, e, ey]; simp)
        clear e ey
        simp only [List.length_cons] at hF2
        go_wp2_with (at_builtin; refine wpList_append_own _ rfl _ _ 22 rfl w.heap.size 5 i0 (.int .u8 0) 1 1 Try.underlying22 hi hz0 hz1 hz2 rfl (by decide) _ _ _ rfl (hown.alloc _) ⟨wr.heap.size, 0, none⟩ 1 1 [.int .u8 ((k : Int) % 128 + 128)] rfl rfl (cell_one_new _ _ _) ?e2 ?e3 ?e4 (by simp; omega) ?_)
        case e2 => intro u hu; simp at hu; subst hu; rfl
        case e3 => unfold maxLen; omega
        case e4 => omega
        intro v2 w2 hown2 hgr2 _
        have hb3 : Below w.heap.size w w2 := (hb2.alloc hsz _).grown hgr2 (by simp; omega) (own_block hown)
        have hown3 := own_snoc hown2
        clear hown2 hgr2 hown hb2 hand hor
        go_wp2_with fail
        go_roundw
        case rel => exact ⟨k / 128, _, by go_num, by omega, by simp; omega, by simp; omega, hF3, hb3, hown3⟩
        case measure => simp [intOf]; omega
      · have e := uvar_small k (by omega)
        rw [e] at hF2
        have hfin : Hid (F ++ [(k : Int)] = putU zs m) := Lib.hid (by rw [hp.out, Int.toNat_natCast, ← hF.out, e])
        clear e
        simp only [List.length_cons, List.length_nil] at hF2
        go_wp2_with (at_builtin; refine wpList_append_own _ rfl _ _ 22 rfl w.heap.size 5 i0 (.int .u8 0) 1 1 Try.underlying22 hi hz0 hz1 hz2 rfl (by decide) _ _ _ rfl (hown.alloc _) ⟨wr.heap.size, 0, none⟩ 1 1 [.int .u8 (k : Int)] rfl rfl (cell_one_new _ _ _) ?f2 ?f3 ?f4 (by simp; omega) ?_)
        case f2 => intro u hu; simp at hu; subst hu; rfl
        case f3 => unfold maxLen; omega
        case f4 => omega
        intro v2 w2 hown2 hgr2 _
        have hb3 : Below w.heap.size w w2 := (hb2.alloc hsz _).grown hgr2 (by simp; omega) (own_block hown)
        have hown3 := own_snoc hown2
        rw [hfin.out] at hown3
        have hwr := Lib.hid hown3
        clear hown2 hgr2 hown hb2 hown3
        go_wp2_with fail
        go_ret
        exact ⟨_, rfl, hwr.out, hb3⟩
  · have hp : Hid (putU zs c = zs) := Lib.hid (if_neg hc)
    have hwr := Lib.hid hown
    clear hown
    go_wp2_with fail
    refine (in_any _ _ _ _ false (by simp; omega)).mono ?_
    rintro e _w ⟨rfl, rfl⟩
    go_wp2_with fail
    go_ret
    exact ⟨_, rfl, by rw [hp.out]; exact hwr.out, hb1⟩
theorem sAppendUvarint_any (v : Value) (zs : List Int) (b : Nat) (c : Int) (w : World) (h : RdAt .u8 w v zs b) (hl : zs.length ≤ 1099511627770) (wc : (Lit.int .i64 c).wf = true) :
    Calls Try.prog 68 #[v, .int .i64 c] w fun e w' => ∃ v' b', e = .returned v' ∧ w.heap.size ≤ b' ∧ WrAt .u8 w' v' (putU zs c) b' ∧ Below w.heap.size w w' := by
  refine (sAppendUvarint_own v zs b c w h hl wc).mono ?_
  rintro e w' ⟨v', rfl, hown, hb⟩
  obtain ⟨b', hb', hw'⟩ := own_wr hown (putU_wf zs c h.wf)
  exact ⟨v', b', rfl, hb', hw', hb⟩
def encI (zs : List Int) : List Int := zs.foldl putU []
theorem encI_take (zs : List Int) (k : Nat) (h : k < zs.length) : encI (zs.take (k + 1)) = putU (encI (zs.take k)) zs[k] := by
  unfold encI
  rw [List.take_succ_eq_append_getElem h, List.foldl_append]
  rfl
theorem encI_len (zs : List Int) : (encI zs).length ≤ 6 * zs.length := by
  unfold encI
  suffices h : ∀ (acc : List Int), (zs.foldl putU acc).length ≤ acc.length + 6 * zs.length from by simpa using h []
  intro acc
  induction zs generalizing acc with
  | nil => simp
  | cons z zs ih =>
    have h1 := ih (putU acc z)
    have h2 := putU_len acc z
    simp only [List.foldl_cons, List.length_cons]
    omega

end Go.Proofs.Ytjigglnepcabmaa
