/-
  The program's writer of bytes: putSizes; sizes behind blanks.
-/
import Derived.Test.YtmfammgdcdlceaaDoorCallsT
import Derived.Test.YtmfammgdcdlceaaDoorHandT0
namespace Go.Proofs.YtmfammgdcdlceaaDoor
open Go.RowKit
set_option linter.unusedVariables false
set_option linter.unusedSimpArgs false

def sizeL (x : Int) : List UInt8 := 32 :: Lib.itoa x
theorem sizeL_len {x : Int} (h : (Lit.int .i64 x).wf = true) : (sizeL x).length ≤ 21 := by have := itoaL_len h; unfold sizeL; simp; omega
theorem allL_lenC {f : Int → List UInt8} {c : Nat} : ∀ {zs : List Int}, (∀ x ∈ zs, (f x).length ≤ c) → (allL f zs).length ≤ c * zs.length
  | [], _ => by simp [allL]
  | x :: zs, hf => by
    have h1 := hf x (by simp)
    have h2 := allL_lenC (zs := zs) (fun y hy => hf y (by simp [hy]))
    unfold allL at h2 ⊢
    rw [List.flatMap_cons, List.length_append, List.length_cons, Nat.mul_add]; omega
theorem allL_takeC {f : Int → List UInt8} {c : Nat} {zs : List Int} (hf : ∀ x ∈ zs, (f x).length ≤ c) (k : Nat) (hk : k ≤ zs.length) : (allL f (zs.take k)).length ≤ c * k := by
  have := allL_lenC (zs := zs.take k) (fun x hx => hf x (List.mem_of_mem_take hx))
  rw [List.length_take, Nat.min_eq_left hk] at this
  exact this
set_option maxRecDepth 100000 in
set_option maxHeartbeats 2000000 in
theorem putSizes_any (B g b : Nat) (l0 : List UInt8) (v : Value) (zs : List Int) (w : World) (h : BWr w B g l0) (hz : ∀ wx, Below B w wx → StrKept w wx → RdAt .i64 wx v zs b) (hx : l0.length ≤ 100000000) (hl : zs.length ≤ 1048576) (hB : B ≤ w.heap.size) (hP : ∀ wx, Below B w wx → Pow wx) :
    Calls Tryd.prog 50 #[.pointer (some ⟨g, 0, none⟩), v] w fun e w' => e = .returned (.tuple #[]) ∧ BWr w' B g (l0 ++ allL sizeL zs) ∧ Below B w w' := by
  obtain ⟨i0, hi, hz0, hz1, hz2⟩ := info_parts info_u8w
  have Hz := Lib.hid hz
  have HP := Lib.hid hP
  have HF := Lib.hid (fun k hk => allL_takeC (f := sizeL) (zs := zs) (fun x hx => sizeL_len ((hz w (Below.refl _ _) (StrKept.refl _)).wf x hx)) k hk)
  obtain ⟨a, cap, rfl, -, hwf, hcell⟩ := hz w (Below.refl _ _) (StrKept.refl _)
  obtain ⟨n, hn⟩ : ∃ n, n = zs.length := ⟨_, rfl⟩
  have Hn := Lib.hid hn
  rw [← hn] at hl ⊢
  rw [← hn] at Hz
  clear hn hP hz
  have H0 : Hid (BWr w B g (l0 ++ allL sizeL (zs.take 0))) := Lib.hid (by simpa [allL] using h)
  clear h
  go_enter Tryd.func50, Tryd.ntmps50
  go_wp2_with fail
  go_loopw [5, 8] (fun _ i wr => ∃ k : Nat, k ≤ n ∧ i = .int .i64 k ∧ Hid (BWr wr B g (l0 ++ allL sizeL (zs.take k))) ∧ Below B w wr ∧ Hid (StrKept w wr)) (fun _ i _ => n - (intOf i).toNat)
  case atStart => exact ⟨0, Nat.zero_le _, rfl, H0, Below.refl _ _, Lib.hid (StrKept.refl _)⟩
  case round =>
    clear H0
    obtain ⟨k, hk, rfl, hbw, hb2, hsk⟩ := hrel
    by_cases hlt : k < n
    · have hzl : k < zs.length := by rw [← Hn.out]; exact hlt
      rcases hcell with h0 | ⟨off, rfl, hc⟩
      · subst h0; simp at hzl
      obtain ⟨y, hy⟩ : ∃ y, y = zs[k] := ⟨_, rfl⟩
      have hc1 : wr.cell? ⟨b, off + k, none⟩ = some (.int .i64 y) := by
        rcases (Hz.out wr hb2 hsk.out).open with ⟨h00, -⟩ | ⟨-, off2, c2, hv, -, hc2⟩
        · rw [h00] at hzl; simp at hzl
        · have e := (Value.slice.inj hv).1
          have e := Option.some.inj e
          injection e with _ e2 _
          subst e2
          rw [hc2 k hzl, hy]
      have hyw : (Lit.int .i64 y).wf = true := by rw [hy]; exact hwf _ (List.getElem_mem hzl)
      have HT : Hid (l0 ++ allL sizeL (zs.take (k + 1)) = (l0 ++ allL sizeL (zs.take k)) ++ [32] ++ Lib.itoa y) := Lib.hid (by rw [allL_take sizeL zs k hzl, ← hy]; simp [sizeL])
      have hFl : (l0 ++ allL sizeL (zs.take k)).length ≤ 130000000 := by
        have := HF.out k (by omega)
        rw [List.length_append]; omega
      have hYl := itoaL_len hyw
      clear hc hy
      generalize (l0 ++ allL sizeL (zs.take k)) = F at *
      obtain ⟨hBg, v, hg, hown⟩ := hbw.out
      obtain ⟨pv, cv, ev⟩ := own_shape hown
      subst ev
      have k0 := cellsB hg
      have hBr := Nat.le_trans hB hb2.size
      obtain ⟨q, hq⟩ : ∃ q, q = F.length := ⟨_, rfl⟩
      rw [← hq] at hFl
      have Hq := Lib.hid hq
      rw [← hq] at hown k0 hg
      have bA : Below wr.heap.size wr (wr.alloc (.cells #[.int .u8 32] 5)) := (Below.refl _ _).alloc (Nat.le_refl _) _
      have HBW := Lib.hid (And.intro hBg (And.intro hg (And.intro hown (And.intro bA hb2))))
      have HC : Hid (∀ wx, Below B w wx → Calls Tryd.prog 36 #[.int .i64 y] wx fun e w' => e = .returned (.string ⟨(Lib.itoa y).toArray⟩) ∧ Below wx.heap.size wx w') := Lib.hid (fun wx hb => formatInt_any y wx hyw (HP.out wx hb))
      generalize Lib.itoa y = Y at *
      clear hq hbw hg bA hb2 hyw
      go_wp2_with (at_builtin; refine wpList_append_own _ rfl _ _ 65 rfl B 5 i0 (.int .u8 0) 1 1 Tryd.underlying65 hi hz0 hz1 hz2 rfl (by decide) _ _ _ rfl (hown.alloc _) ⟨wr.heap.size, 0, none⟩ 1 1 [.int .u8 32] rfl rfl (one_blank _ _ _) ?c2 ?c3 ?c4 ?c5 ?_)
      case c2 => intro u hu; simp at hu; subst hu; rfl
      case c3 => unfold maxLen; omega
      case c4 => omega
      case c5 => simp; omega
      intro v' w1 hown' hgr _
      obtain ⟨p2, c2, e2⟩ := own_shape hown'
      subst e2
      obtain ⟨hBg, hg, hown0, bA, hb2⟩ := HBW.out
      have hown' : w1.ownsRow B 5 1 (.slice p2 (q + 1) c2) (q + 1) (Lib.byteCells (F ++ [32])) := by rw [Lib.byteCells_append]; exact hown'
      obtain ⟨g1, hbw3, b3, sk3⟩ := BWr.next hBg ((bA.block _ (Array.getElem?_eq_some_iff.1 hg).1).trans hg) (own_below hown0 bA) hown' (by rw [List.length_append, Hq.out]; rfl) hgr (Nat.le_trans hBr bA.size)
      have c1 := cellsB g1
      have x1 := freeB g1 0
      obtain ⟨W2, hW2⟩ : ∃ W, W = w1.setCell ⟨g, 0, none⟩ (.slice p2 (q + 1) c2) := ⟨_, rfl⟩
      rw [← hW2] at hbw3 b3 sk3
      have HSk := Lib.hid ((hsk.out.trans (StrKept.of_below bA)).trans sk3)
      clear hsk sk3
      have B3 := (hb2.trans (bA.mono hBr)).trans b3
      have hBr2 := Nat.le_trans hB B3.size
      have HW2 := Lib.hid hW2
      have HB3 := Lib.hid (And.intro B3 hbw3)
      have HC2 := Lib.hid (HC.out W2 B3)
      clear hown' hgr hown hown0 hg g1 b3 k0 hc1 HBW hb2 bA B3 hbw3 hW2 HC
      go_upto_region 4 with fail
      rw [← HW2.out]
      go_wp2_with fail
      refine HC2.out.mono ?_
      rintro e w4 ⟨rfl, b4⟩
      obtain ⟨B3, hbw3⟩ := HB3.out
      have B4 := B3.trans (b4.mono hBr2)
      have hBr4 := Nat.le_trans hB B4.size
      have bA2 : Below w4.heap.size w4 (w4.alloc (.cells #[.string ⟨Y.toArray⟩] 9)) := (Below.refl _ _).alloc (Nat.le_refl _) _
      have HPt := Lib.hid (putOne_any B g w4.heap.size (F ++ [32]) Y _ ((hbw3.below b4).below bA2) (WordsAt.fresh w4 #[.string ⟨Y.toArray⟩] [Y] rfl) (by rw [List.length_append, ← Hq.out]; simp; omega) (Nat.le_trans hBr4 bA2.size))
      have HB := Lib.hid (And.intro (B4.trans (bA2.mono hBr4)) ((HSk.out.trans (StrKept.of_below b4)).trans (StrKept.of_below bA2)))
      clear B3 hbw3 B4 bA2 b4 HC2 HB3 HSk
      go_wp2_with fail
      refine HPt.out.mono ?_
      rintro e w3 ⟨rfl, hv3, b3, s3⟩
      have B3 := HB.out.1.trans b3
      have S3 := Lib.hid (HB.out.2.trans s3)
      clear s3
      rw [← HT.out] at hv3
      replace hv3 := Lib.hid hv3
      clear b3 HPt HB
      go_wp2_with fail
      go_roundw
      case rel => exact ⟨k + 1, by omega, by go_num, hv3, B3, S3⟩
      case measure => simp [intOf]; omega
    · obtain rfl : k = n := by omega
      have e : zs.take k = zs := List.take_of_length_le (by rw [Hn.out]; exact Nat.le_refl _)
      rw [e] at hbw
      clear e
      go_wp2_with fail
      exact bodyPost_end (v := .tuple #[]) (by first | rfl | simp [results, go_sem]) rfl ⟨rfl, hbw.out, hb2⟩
end Go.Proofs.YtmfammgdcdlceaaDoor
