/-
  ParseHand, both sides.
-/
import Derived.Test.YtcafbnddbddijaaParseCard
import Derived.Test.YtcafbnddbddijaaHandTS
import Derived.Test.YtcafbnddbddijaaJoinL
import Derived.Test.YtcafbnddbddijaaBits
import Derived.Lib.ConvBytes
import Derived.Lib.SmallJoins
import Derived.BigQuiet
namespace Go.Proofs.Ytcafbnddbddijaa
open Go.RowKit
set_option linter.unusedVariables false
set_option linter.unusedSimpArgs false

def pairsL : List UInt8 → List Int
  | [] => []
  | [_] => []
  | x :: y :: r => parseC ⟨#[x, y]⟩ :: pairsL r
theorem parseC_rng (s : ByteArray) : -1 ≤ parseC s ∧ parseC s ≤ 51 := by
  unfold parseC
  split
  · rename_i c e
    have := List.mem_range.1 (List.mem_of_find?_eq_some e)
    omega
  · omega
theorem parseC_txt {s : ByteArray} (h : 0 ≤ parseC s) : cardTxt (parseC s) = s := by
  unfold parseC at h ⊢
  split
  · rename_i c e
    have := List.find?_some e
    simpa using this
  · rename_i e
    rw [e] at h
    simp at h
theorem parseC_wf (s : ByteArray) : (Lit.int .i64 (parseC s)).wf = true := WalkArith.wf_i64 (by have := parseC_rng s; omega)
theorem pair_back {x y : UInt8} (h : 0 ≤ parseC ⟨#[x, y]⟩) : cardL (parseC ⟨#[x, y]⟩) = [x, y] := by
  have hr := parseC_rng ⟨#[x, y]⟩
  unfold cardL
  rw [if_pos ⟨h, hr.2⟩, parseC_txt h]
theorem pairs_len : ∀ L : List UInt8, (pairsL L).length = L.length / 2
  | [] => rfl
  | [_] => by simp [pairsL]
  | x :: y :: r => by
    have := pairs_len r
    simp only [pairsL, List.length_cons, this]; omega
/-- Text of the cards read: all of the text if its length is even; it is shorter otherwise. -/
theorem pairs_back : ∀ L : List UInt8, (∀ c ∈ pairsL L, 0 ≤ c) → L.length % 2 = 0 → allL cardL (pairsL L) = L
  | [], _, _ => rfl
  | [_], _, h => by simp at h
  | x :: y :: r, hc, h => by
    have h1 : 0 ≤ parseC ⟨#[x, y]⟩ := hc _ (by simp [pairsL])
    have := pairs_back r (fun c hcr => hc c (by simp [pairsL, hcr])) (by simp at h; omega)
    unfold allL at this ⊢
    rw [pairsL, List.flatMap_cons, this, pair_back h1]; rfl
theorem pairs_odd (L : List UInt8) (hc : ∀ c ∈ pairsL L, 0 ≤ c) (h : L.length % 2 = 1) : (allL cardL (pairsL L)).length ≠ L.length := by
  have key : ∀ L : List UInt8, (∀ c ∈ pairsL L, 0 ≤ c) → (allL cardL (pairsL L)).length = 2 * (pairsL L).length := by
    intro L
    induction L using pairsL.induct with
    | case1 => intro _; rfl
    | case2 => intro _; rfl
    | case3 x y r ih =>
      intro hc
      have h1 : 0 ≤ parseC ⟨#[x, y]⟩ := hc _ (by simp [pairsL])
      have := ih (fun c hcr => hc c (by simp [pairsL, hcr]))
      unfold allL at this ⊢
      rw [pairsL, List.flatMap_cons, List.length_append, this, pair_back h1]
      simp; omega
  rw [key L hc, pairs_len]; omega
theorem hand_pos {zs : List Int} (h : isHand zs = true) : ∀ c ∈ zs, 0 ≤ c := by
  intro c hc
  obtain ⟨j, hj, rfl⟩ := List.getElem_of_mem hc
  cases hcc : isCard zs[j] with
  | true => exact (of_decide_eq_true hcc).1
  | false =>
    have := isHand_no hj (.inl hcc)
    rw [h] at this; cases this
def hOK (L : List UInt8) : Bool := if L = [45] then true else !L.isEmpty && (L.length % 2 == 0) && isHand (pairsL L)
def hF (L : List UInt8) : List Int := if hOK L = true then (if L = [45] then [] else pairsL L) else []
theorem hF_len (L : List UInt8) : (hF L).length ≤ L.length := by
  unfold hF
  split
  · split
    · simp
    · rw [pairs_len]; omega
  · simp
theorem hF_le (s : ByteArray) (h : s.size ≤ 1048576) : (hF s.data.toList).length ≤ 1099511627776 := by
  have h1 := hF_len s.data.toList
  have h2 : s.data.toList.length = s.size := by simp
  omega
theorem h_dash : hF [45] = [] ∧ hOK [45] = true := ⟨rfl, rfl⟩
theorem h_no {L : List UInt8} (hL : L ≠ [45]) (h : L = [] ∨ L.length % 2 = 1 ∨ isHand (pairsL L) = false) : hF L = [] ∧ hOK L = false := by
  have e : hOK L = false := by
    unfold hOK; rw [if_neg hL]
    rcases h with h | h | h
    · rw [h]; rfl
    · have : (L.length % 2 == 0) = false := by simp; omega
      rw [this]; simp
    · rw [h]; simp
  exact ⟨by unfold hF; rw [if_neg (by rw [e]; decide)], e⟩
theorem h_yes {L : List UInt8} (hL : L ≠ [45]) (h0 : L ≠ []) (h1 : L.length % 2 = 0) (h2 : isHand (pairsL L) = true) : hF L = pairsL L ∧ hOK L = true := by
  have e : hOK L = true := by
    unfold hOK; rw [if_neg hL, h2]
    cases L with
    | nil => exact absurd rfl h0
    | cons a r => simpa using h1
  exact ⟨by unfold hF; rw [if_pos e, if_neg hL], e⟩
/-- How reading goes on. -/
def Pairs (L : List UInt8) (F : List Int) (R : List UInt8) : Prop := pairsL L = F ++ pairsL R ∧ L.length % 2 = R.length % 2
theorem Pairs.start (L : List UInt8) : Pairs L [] L := ⟨rfl, rfl⟩
theorem Pairs.two {L : List UInt8} {F : List Int} {x y : UInt8} {r : List UInt8} (h : Pairs L F (x :: y :: r)) : Pairs L (F ++ [parseC ⟨#[x, y]⟩]) r := by
  obtain ⟨h1, h2⟩ := h
  exact ⟨by rw [h1, pairsL]; simp, by rw [h2, List.length_cons, List.length_cons]; omega⟩
theorem Pairs.nil {L : List UInt8} {F : List Int} (h : Pairs L F []) : pairsL L = F ∧ L.length % 2 = 0 := ⟨by have := h.1; simpa [pairsL] using this, by have := h.2; simpa using this⟩
theorem Pairs.odd {L : List UInt8} {F : List Int} {x : UInt8} (h : Pairs L F [x]) : pairsL L = F ∧ L.length % 2 = 1 := ⟨by have := h.1; simpa [pairsL] using this, by have := h.2; simpa using this⟩
theorem strLen (r : List UInt8) : (⟨r.toArray⟩ : ByteArray).size = r.length := by show r.toArray.size = _; simp
theorem wf_snoc {F : List Int} (h : ∀ n ∈ F, (Lit.int .i64 n).wf = true) {c : Int} (hc : (Lit.int .i64 c).wf = true) : ∀ n ∈ F ++ [c], (Lit.int .i64 n).wf = true := by
  intro n hn
  rcases List.mem_append.1 hn with h1 | h1
  · exact h n h1
  · simp at h1; subst h1; exact hc
theorem ba_cut (L : List UInt8) (k : Nat) {x y : UInt8} {r : List UInt8} (h : L.drop k = x :: y :: r) : (⟨L.toArray⟩ : ByteArray).extract k (k + 2) = ⟨#[x, y]⟩ := by
  have ext : ∀ a b : ByteArray, a.data.toList = b.data.toList → a = b := fun a b h => by
    cases a with | mk a => cases b with | mk b => simp at h; rw [h]
  apply ext
  simp [h]
set_option maxRecDepth 100000 in
set_option maxHeartbeats 2000000 in
theorem sParseHand_any (L : List UInt8) (w : World) (hl : L.length ≤ 1048576) :
    Calls Try.prog 9 #[.string ⟨L.toArray⟩] w fun e w' => ∃ v b, e = .returned (.tuple #[v, .bool (hOK L)]) ∧ w.heap.size ≤ b ∧ WrAt .i64 w' v (hF L) b ∧ Below w.heap.size w w' := by
  obtain ⟨i0, hi, hz0, hz1, hz2⟩ := info_parts info_i64
  have hown0 := World.ownsRow_lit (base := w.heap.size) (e := 3) (size := 1) w #[] 0 (Nat.le_refl _) (Nat.zero_le _) rfl
  have B0 : Below w.heap.size w (w.alloc (.cells #[] 3)) := (Below.refl _ _).alloc (Nat.le_refl _) _
  obtain ⟨n, hn⟩ : ∃ n, n = L.length := ⟨_, rfl⟩
  have Hn := Lib.hid hn
  have hsz : (⟨L.toArray⟩ : ByteArray).size = n := by rw [strLen, hn]
  have hln : n ≤ 1048576 := by omega
  clear hn hl
  go_enter Try.func9, Try.ntmps9
  go_wp2_with fail
  go_loopw [4, 5] (fun o i wr => ∃ (F : List Int) (k : Nat), i = .int .i64 k ∧ k ≤ n ∧ F.length ≤ k ∧ Hid (Pairs L F (L.drop k)) ∧ Hid (∀ n ∈ F, (Lit.int .i64 n).wf = true) ∧ Below w.heap.size w wr ∧ wr.ownsRow w.heap.size 3 1 o F.length (F.map (Value.int .i64))) (fun _ i _ => n - (intOf i).toNat)
  case atStart => exact ⟨[], 0, rfl, Nat.zero_le _, Nat.le_refl _, Lib.hid (Pairs.start L), Lib.hid (by simp), B0, hown0⟩
  case round =>
    clear hown0 B0
    obtain ⟨F, k, rfl, hk, hFk, hrd, hwf, hb2, hown⟩ := hrel
    by_cases hlt : k + 1 < n
    · have hk2 : k + 2 ≤ n := by omega
      have hk3 : ((k : Int) + 2 ≤ (n : Int)) := by omega
      have hlti : ((k : Int) + 1 < (n : Int)) := by omega
      obtain ⟨x, y, r, hxr⟩ : ∃ x y r, L.drop k = x :: y :: r := by
        have h1 := List.drop_eq_getElem_cons (show k < L.length by rw [← Hn.out]; omega)
        have h2 := List.drop_eq_getElem_cons (show k + 1 < L.length by rw [← Hn.out]; omega)
        exact ⟨_, _, _, by rw [h1, h2]⟩
      have hdr2 : L.drop (k + 2) = r := by rw [← List.drop_drop, hxr]; rfl
      have hcut := ba_cut L k hxr
      have hcw := parseC_wf ⟨#[x, y]⟩
      have HM2 : Calls Try.prog 28 #[.string ((⟨L.toArray⟩ : ByteArray).extract k (k + 2))] wr fun e w' => e = .returned (.int .i64 (parseC ⟨#[x, y]⟩)) ∧ Below wr.heap.size wr w' := by rw [hcut]; exact sParseCard_any ⟨#[x, y]⟩ wr
      have HM := Lib.hid HM2
      rw [hxr] at hrd
      have hrd2 : Hid (Pairs L (F ++ [parseC ⟨#[x, y]⟩]) (L.drop (k + 2))) := Lib.hid (by rw [hdr2]; exact hrd.out.two)
      have hwf2 := Lib.hid (wf_snoc hwf.out hcw)
      generalize parseC ⟨#[x, y]⟩ = c at *
      clear hrd hxr hcut hdr2 HM2
      go_wp2_with fail
      refine HM.out.mono ?_
      rintro e w3 ⟨rfl, b3⟩
      have hown := own_below hown b3
      have B3 := hb2.trans (b3.mono hb2.size)
      clear hb2 b3 HM
      have hsz := B3.size
      go_wp2_with (at_builtin; refine wpList_append_own _ rfl _ _ 22 rfl w.heap.size 3 i0 (.int .i64 0) 1 8 Try.underlying22 hi hz0 hz1 hz2 rfl (by decide) _ _ _ rfl (hown.alloc _) ⟨w3.heap.size, 0, none⟩ 1 1 [.int .i64 (c)] rfl rfl (cell_one_new _ _ _) (one_cell _ _) ?c3 ?c4 ?c5 ?_)
      case c3 => unfold maxLen; omega
      case c4 => omega
      case c5 => simp; omega
      intro v' w5 hown' hgrow _
      have B5 : Below w.heap.size w w5 := (B3.alloc (Nat.le_trans (by omega) hsz) _).grown hgrow (by simp; omega) (own_block hown)
      have hown2 := own_snoc hown'
      clear hown' hgrow hown B3
      go_wp2_with fail
      go_roundw
      case rel => exact ⟨F ++ [c], k + 2, by go_num, by omega, by simp; omega, hrd2, hwf2, B5, hown2⟩
      case measure => simp [intOf]; omega
    · have hlti : ¬ ((k : Int) + 1 < (n : Int)) := by omega
      have hlti2 : decide ((k : Int) + 1 < (n : Int)) = false := by simp; omega
      have hpF : pairsL L = F := by
        rcases e : L.drop k with _ | ⟨x, _ | ⟨y, r⟩⟩
        · rw [e] at hrd; exact hrd.out.nil.1
        · rw [e] at hrd; exact hrd.out.odd.1
        · have := congrArg List.length e
          rw [List.length_drop, ← Hn.out] at this
          simp at this; omega
      obtain ⟨b, hb, hw⟩ := own_wr hown hwf.out
      obtain ⟨pv, cv, ev⟩ := own_shape hown
      subst ev
      have HI := sIsHand_any _ F b wr hw.rd (by omega)
      cases hh : isHand F with
      | false =>
        rw [hh] at HI
        have HI := Lib.hid HI
        by_cases hd : L = [45]
        · subst hd
          have : F = [] := by rw [← hpF]; rfl
          subst this
          cases hh
        · have HR := Lib.hid (h_no hd (.inr (.inr (by rw [hpF]; exact hh))))
          have HB := Lib.hid hb2
          clear hown hrd hpF hw hh
          generalize F.length = nf at *
          go_wp2_with fail
          refine HI.out.mono ?_
          rintro e w1 ⟨rfl, b1⟩
          have B1 := HB.out.trans (b1.mono HB.out.size)
          have hO := World.ownsRow_lit (base := w.heap.size) (e := 3) (size := 1) w1 #[] 0 B1.size (Nat.zero_le _) rfl
          have HO := Lib.hid (own_wr (k := .i64) (zs := []) hO (by simp))
          have B4 := B1.alloc B1.size (.cells #[] 3)
          clear hO HI b1 B1
          go_wp2_with fail
          go_ret2
          obtain ⟨b, hb, hw⟩ := HO.out
          first
          | exact ⟨_, b, by rw [HR.out.2]; rfl, hb, by rw [HR.out.1]; exact hw, B4⟩
          | exact ⟨_, by rw [HR.out.2]; rfl, b, hb, by rw [HR.out.1]; exact hw, B4⟩
          | exact ⟨_, by rw [HR.out.2]; rfl, ⟨b, hb, by rw [HR.out.1]; exact hw⟩, B4⟩
      | true =>
        rw [hh] at HI
        have HI := Lib.hid HI
        have hpos := hand_pos hh
        obtain ⟨TT, hTT, hTe⟩ : ∃ T : List UInt8, handTxt F = ⟨T.toArray⟩ ∧ ((T = L) ↔ hOK L = true) := by
          by_cases hF : F = []
          · refine ⟨[45], by rw [hF]; rfl, ?_⟩
            constructor
            · intro e; rw [← e]; rfl
            · intro e
              by_cases hd : L = [45]
              · exact hd.symm
              · have : L = [] ∨ L.length % 2 = 1 := by
                  have h1 := pairs_len L
                  rw [hpF, hF] at h1
                  have h1 : L.length / 2 = 0 := h1.symm
                  by_cases h0 : L = []
                  · exact .inl h0
                  · have := List.length_pos_iff.2 h0; right; omega
                have h2 := (h_no hd (by rcases this with h | h; exact .inl h; exact .inr (.inl h))).2
                rw [e] at h2; cases h2
          · refine ⟨allL cardL F, by unfold handTxt; rw [dashed_some _ _ (List.length_pos_iff.2 hF)], ?_⟩
            have hd : L ≠ [45] := fun e => hF (by rw [← hpF, e]; rfl)
            have h0 : L ≠ [] := fun e => hF (by rw [← hpF, e]; rfl)
            have hpos2 : ∀ c ∈ pairsL L, 0 ≤ c := by rw [hpF]; exact hpos
            constructor
            · intro e
              by_cases h1 : L.length % 2 = 0
              · exact (h_yes hd h0 h1 (by rw [hpF]; exact hh)).2
              · have := pairs_odd L hpos2 (by omega)
                rw [hpF, e] at this; exact absurd rfl this
            · intro e
              by_cases h1 : L.length % 2 = 0
              · rw [← hpF]; exact pairs_back L hpos2 h1
              · have := (h_no hd (.inr (.inl (show L.length % 2 = 1 by omega)))).2
                rw [e] at this; cases this
        have hFh : hOK L = true → hF L = F := by
          intro e
          unfold hF
          rw [if_pos e]
          split
          · rename_i hd
            rw [← hpF, hd]; rfl
          · exact hpF
        have hFn : hOK L = false → hF L = [] := by
          intro e; unfold hF; rw [if_neg (by rw [e]; decide)]
        have HTx := Lib.hid (fun wx (hb9 : Below wr.heap.size wr wx) => by
          have := sHandText_any _ F b wx (hw.rd.below hb9) (by omega)
          rw [hTT] at this
          exact this)
        have HB := Lib.hid hb2
        have Hw := Lib.hid hw
        have HFh := Lib.hid (And.intro hFh hFn)
        cases hok : hOK L with
        | true =>
          have hTL : TT = L := hTe.2 hok
          have HR := Lib.hid (And.intro (hFh hok) hok)
          subst hTL
          clear hown hrd hpF hw hh hTT hTe hFh hFn hpos hok
          generalize F.length = nf at *
          go_wp2_with fail
          refine HI.out.mono ?_
          rintro e w1 ⟨rfl, b1⟩
          go_wp2_with fail
          refine (HTx.out w1 b1).mono ?_
          rintro e w4 ⟨rfl, b4⟩
          have B4 := HB.out.trans ((b1.trans (b4.mono b1.size)).mono HB.out.size)
          have Hw4 := Lib.hid (Hw.out.below (b1.trans (b4.mono b1.size)))
          clear b4 b1
          go_wp2_with fail
          go_ret2
          exact ⟨_, b, by rw [HR.out.2]; rfl, hb, by rw [HR.out.1]; exact Hw4.out, B4⟩
        | false =>
          have hTL : TT ≠ L := fun e => by have := hTe.1 e; rw [hok] at this; cases this
          have hTL2 : (TT == L) = false := by simpa using hTL
          have HR := Lib.hid (And.intro (hFn hok) hok)
          clear hown hrd hpF hw hh hTT hTe hFh hFn hpos hok hTL
          generalize F.length = nf at *
          go_wp2_with fail
          refine HI.out.mono ?_
          rintro e w1 ⟨rfl, b1⟩
          go_wp2_with fail
          refine (HTx.out w1 b1).mono ?_
          rintro e w4 ⟨rfl, b4⟩
          have B4 := HB.out.trans ((b1.trans (b4.mono b1.size)).mono HB.out.size)
          have Hw4 := Lib.hid (Hw.out.below (b1.trans (b4.mono b1.size)))
          clear b4 b1
          have hO := World.ownsRow_lit (base := w.heap.size) (e := 3) (size := 1) w4 #[] 0 B4.size (Nat.zero_le _) rfl
          have HO := Lib.hid (own_wr (k := .i64) (zs := []) hO (by simp))
          have B5 := B4.alloc B4.size (.cells #[] 3)
          clear hO
          go_wp2_with fail
          go_ret2
          obtain ⟨b, hb, hw⟩ := HO.out
          exact ⟨_, b, by rw [HR.out.2]; rfl, hb, by rw [HR.out.1]; exact hw, B5⟩
set_option maxRecDepth 100000 in
theorem restFrom_any (blk k m c : Nat) (w : World) (hm : 2 ≤ m) (hc : m ≤ c) (hcm : c ≤ maxLen) :
    Calls Try.prog 31 #[.slice (some ⟨blk, k, none⟩) m c, .int .i64 2] w fun e w' => (∃ a, e = .returned (.slice a (m - 2) (m - 2)) ∧ (m - 2 ≠ 0 → a = some ⟨blk, k + 2, none⟩)) ∧ w = w' := by
  have h1 : (2 : Int) ≤ (m : Int) := by omega
  have h2 : (m : Int) ≤ (c : Int) := by omega
  have hc2 : c ≤ 9223372036854775807 := by unfold maxLen at hcm; omega
  obtain ⟨d, hd⟩ : ∃ d, d = m - 2 := ⟨_, rfl⟩
  obtain rfl : m = d + 2 := by omega
  clear hd
  by_cases h0 : d = 0
  · subst h0
    go_enter Try.func31, Try.ntmps31
    go_wp2_with fail
    go_ret
    exact ⟨⟨_, rfl, fun h => absurd rfl h⟩, rfl⟩
  · have h0i : ¬ ((d : Int) = 0) := by omega
    have h0n : 0 < d := by omega
    go_enter Try.func31, Try.ntmps31
    go_wp2_with fail
    go_ret
    exact ⟨⟨_, by rfl, fun _ => rfl⟩, rfl⟩
def sliceN (v : Value) : Nat := match v with | .slice _ m _ => m | _ => 0
set_option maxRecDepth 100000 in
set_option maxHeartbeats 2000000 in
theorem parseHand_any (L : List UInt8) (w : World) (hl : L.length ≤ 1048576) :
    Calls Try.prog 10 #[.string ⟨L.toArray⟩] w fun e w' => ∃ v b, e = .returned (.tuple #[v, .bool (hOK L)]) ∧ w.heap.size ≤ b ∧ WrAt .i64 w' v (hF L) b ∧ Below w.heap.size w w' := by
  obtain ⟨i0, hi, hz0, hz1, hz2⟩ := info_parts info_i64
  have hown0 := World.ownsRow_lit (base := w.heap.size) (e := 3) (size := 1) w #[] 0 (Nat.le_refl _) (Nat.zero_le _) rfl
  have B0 : Below w.heap.size w (w.alloc (.cells #[] 3)) := (Below.refl _ _).alloc (Nat.le_refl _) _
  by_cases hd : L = [45]
  · subst hd
    have HR := Lib.hid h_dash
    have HO := Lib.hid (own_wr (k := .i64) (zs := []) hown0 (by simp))
    clear hown0
    go_enter Try.func10, Try.ntmps10
    go_wp2_with fail
    go_ret2
    obtain ⟨b, hb, hw⟩ := HO.out
    exact ⟨_, b, by rw [HR.out.2]; rfl, hb, by rw [HR.out.1]; exact hw, B0⟩
  · have hne : (L == [45]) = false := by simpa using hd
    have HD := Lib.hid hd
    obtain ⟨n, hn⟩ : ∃ n, n = L.length := ⟨_, rfl⟩
    have Hn := Lib.hid hn
    have hsz : (⟨L.toArray⟩ : ByteArray).size = n := by rw [strLen, hn]
    have hln : n ≤ 1048576 := by omega
    obtain ⟨W1, hW1⟩ : ∃ W, W = w.alloc (.cells #[] 3) := ⟨_, rfl⟩
    obtain ⟨W2, hW2⟩ : ∃ W, W = Lib.bytesWorld W1 5 ⟨L.toArray⟩ := ⟨_, rfl⟩
    obtain ⟨C, hC⟩ : ∃ C, C = grownCap W1 n 0 5 := ⟨_, rfl⟩
    have hnC : n ≤ C := by rw [hC]; exact grownCap_ge _ _ _ _
    have hCm : C ≤ maxLen := by rw [hC]; exact grownCap_le_maxLen _ _ _ _ (by unfold maxLen; omega)
    have hcon := Lib.run_convert_string_bytes (P := Try.prog) W1 9 39 5 ⟨L.toArray⟩ Try.underlying9 Try.underlying39 Try.underlying5
    rw [hsz, ← hC, ← hW2] at hcon
    rw [← hW1] at hown0 B0
    have b2 : Below W1.heap.size W1 W2 := by rw [hW2]; exact Joins.below_bytesWorld _ _ _ _ (Nat.le_refl _)
    have B2 : Below w.heap.size w W2 := B0.trans (b2.mono B0.size)
    obtain ⟨G, hG⟩ : ∃ G, G = W1.heap.size := ⟨_, rfl⟩
    rw [← hG] at hcon
    have hob : W2.heap[G]? = some (.cells (Lib.bytesCells W1 5 ⟨L.toArray⟩) 5 ((Lib.bytesCells W1 5 ⟨L.toArray⟩).size, (Lib.bytesCells W1 5 ⟨L.toArray⟩).size + 1)) := by rw [hG, hW2]; exact Lib.bytesWorld_at_new _ _ _
    have Hcell : Hid (∀ j (hj : j < L.length), (Lib.bytesCells W1 5 ⟨L.toArray⟩)[j]? = some (.int .u8 (L[j].toNat : Int))) := Lib.hid (fun j hj => by
      have h1 := Lib.bytesWorld_cell W1 5 ⟨L.toArray⟩ j (by rw [strLen]; exact hj)
      rw [← hG, ← hW2] at h1
      have h2 : W2.cell? ⟨G, j, none⟩ = (Lib.bytesCells W1 5 ⟨L.toArray⟩)[j]? := by simp [World.cell?, hob]
      rw [← h2, h1]
      simp [List.getD, hj])
    generalize (Lib.bytesCells W1 5 ⟨L.toArray⟩) = bc at hob Hcell
    have hown2 := own_below hown0 b2
    have HW := Lib.hid hW1
    have Hob := Lib.hid hob
    have hGs : w.heap.size ≤ G := by rw [hG]; exact B0.size
    clear hn hl hd hW1 hW2 hC hG hown0 B0 b2 hob
    go_enter Try.func10, Try.ntmps10
    go_upto_region 4 with fail
    rw [← HW.out]
    go_wp2_with fail
    go_loopw [4, 5] (fun o rest wr => ∃ (F : List Int) (k m c : Nat) (a : Option Addr), rest = .slice a m c ∧ k + m = n ∧ m ≤ c ∧ c ≤ maxLen ∧ (m ≠ 0 → a = some ⟨G, k, none⟩) ∧ F.length ≤ k ∧ Hid (Pairs L F (L.drop k)) ∧ Hid (∀ n ∈ F, (Lit.int .i64 n).wf = true) ∧ Hid (wr.heap[G]? = some (.cells bc 5 (bc.size, bc.size + 1))) ∧ Below w.heap.size w wr ∧ wr.ownsRow w.heap.size 3 1 o F.length (F.map (Value.int .i64))) (fun _ rest _ => sliceN rest)
    case atStart => exact ⟨[], 0, n, C, _, rfl, by omega, hnC, hCm, fun _ => rfl, Nat.le_refl _, Lib.hid (Pairs.start L), Lib.hid (by simp), Hob, B2, hown2⟩
    case round =>
      clear hown2 B2 Hob hnC hCm hcon
      obtain ⟨F, k, m, c, a, rfl, hkm, hmc, hcm, ha, hFk, hrd, hwf, hob, hb2, hown⟩ := hrel
      by_cases hlt : 2 ≤ m
      · obtain rfl := ha (by omega)
        have hlti : (2 : Int) ≤ (m : Int) := by omega
        have hmci : (m : Int) ≤ (c : Int) := by omega
        have h2c : (2 : Int) ≤ (c : Int) := by omega
        have h2cn : 2 ≤ c := by omega
        have hc2 : c ≤ 9223372036854775807 := by unfold maxLen at hcm; omega
        obtain ⟨x, y, r, hxr⟩ : ∃ x y r, L.drop k = x :: y :: r := by
          have h1 := List.drop_eq_getElem_cons (show k < L.length by rw [← Hn.out]; omega)
          have h2 := List.drop_eq_getElem_cons (show k + 1 < L.length by rw [← Hn.out]; omega)
          exact ⟨_, _, _, by rw [h1, h2]⟩
        have hxk : L[k]? = some x := by
          have := congrArg (·[0]?) hxr
          simpa using this
        have hyk : L[k + 1]? = some y := by
          have := congrArg (·[1]?) hxr
          simpa using this
        have hdr2 : L.drop (k + 2) = r := by rw [← List.drop_drop, hxr]; rfl
        have hcw := parseC_wf ⟨#[x, y]⟩
        have hkc : ∀ (j : Nat) (z : UInt8), L[j]? = some z → wr.cell? ⟨G, j, none⟩ = some (.int .u8 (z.toNat : Int)) := fun j z hz => by
          obtain ⟨hj, hz2⟩ := List.getElem?_eq_some_iff.1 hz
          have h2 : wr.cell? ⟨G, j, none⟩ = bc[j]? := by simp [World.cell?, hob.out]
          rw [h2, Hcell.out j hj, hz2]
        have hcv : (convert 39 9 (.slice (some ⟨G, k, none⟩) 2 2)).run Try.prog wr = .ok (.string ⟨#[x, y]⟩) wr := by
          refine run_convert_bytes_back wr 39 9 5 ⟨G, k, none⟩ 2 [x, y] Try.underlying39 Try.underlying5 Try.underlying9 fun j hj => ?_
          have : j = 0 ∨ j = 1 := by simp at hj; omega
          rcases this with rfl | rfl
          · have e0 : (⟨G, k, none⟩ : Addr).add 0 = ⟨G, k, none⟩ := by simp [Addr.add]
            rw [e0]; exact hkc k x hxk
          · have e0 : (⟨G, k, none⟩ : Addr).add 1 = ⟨G, k + 1, none⟩ := by simp [Addr.add]
            rw [e0]; exact hkc (k + 1) y hyk
        have HM := Lib.hid (fun wx => parseCard_any ⟨#[x, y]⟩ wx)
        have HRf := Lib.hid (fun wx => restFrom_any G k m c wx hlt hmc hcm)
        rw [hxr] at hrd
        have hrd2 : Hid (Pairs L (F ++ [parseC ⟨#[x, y]⟩]) (L.drop (k + 2))) := Lib.hid (by rw [hdr2]; exact hrd.out.two)
        have hwf2 := Lib.hid (wf_snoc hwf.out hcw)
        have hne2 := Lib.ownBlock_ne hown hob.out (by decide)
        generalize parseC ⟨#[x, y]⟩ = cc at *
        clear hrd hxr hdr2 hkc hxk hyk
        go_wp2_with fail
        refine (HM.out _).mono ?_
        rintro e _w ⟨rfl, rfl⟩
        have hsz := hb2.size
        have hGl := (Array.getElem?_eq_some_iff.1 hob.out).1
        go_wp2_with (at_builtin; refine wpList_append_own _ rfl _ _ 22 rfl w.heap.size 3 i0 (.int .i64 0) 1 8 Try.underlying22 hi hz0 hz1 hz2 rfl (by decide) _ _ _ rfl (hown.alloc _) ⟨wr.heap.size, 0, none⟩ 1 1 [.int .i64 cc] rfl rfl (cell_one_new _ _ _) (one_cell _ _) ?c3 ?c4 ?c5 ?_)
        case c3 => unfold maxLen; omega
        case c4 => omega
        case c5 => simp; omega
        intro v' w5 hown' hgrow _
        have B5 : Below w.heap.size w w5 := (hb2.alloc hsz _).grown hgrow (by simp; omega) (own_block hown)
        have hob5 : Hid (w5.heap[G]? = some (.cells bc 5 (bc.size, bc.size + 1))) := Lib.hid (by
          have h1 : (wr.alloc (.cells #[.int .i64 cc] 3)).heap[G]? = some (.cells bc 5 (bc.size, bc.size + 1)) := (((Below.refl wr.heap.size wr).alloc (Nat.le_refl _) _).block _ hGl).trans hob.out
          exact (hgrow.block _ (Array.getElem?_eq_some_iff.1 h1).1 (fun e => hne2 e.symm)).trans h1)
        have hown2 := own_snoc hown'
        clear hown' hgrow hown hb2 hob hne2 hcv
        go_wp2_with fail
        refine (HRf.out w5).mono ?_
        rintro e _w ⟨⟨a2, rfl, ha2⟩, rfl⟩
        go_wp2_with fail
        go_roundw
        case rel => exact ⟨F ++ [cc], k + 2, m - 2, m - 2, a2, rfl, by omega, Nat.le_refl _, by unfold maxLen at *; omega, ha2, by simp; omega, hrd2, hwf2, hob5, B5, hown2⟩
        case measure => show m - 2 < m; omega
      · have hm2 : m = 0 ∨ m = 1 := by omega
        have hlti : ¬ ((2 : Int) ≤ (m : Int)) := by omega
        have hlen : (L.drop k).length = m := by rw [List.length_drop, ← Hn.out]; omega
        rcases hm2 with rfl | rfl
        · have hdn : L.drop k = [] := List.eq_nil_of_length_eq_zero hlen
          rw [hdn] at hrd
          obtain ⟨hpF, hev⟩ := hrd.out.nil
          by_cases h0 : L = []
          · have hE : L.isEmpty = true := by rw [h0]; rfl
            have HR := Lib.hid (h_no HD.out (.inl h0))
            clear hrd hpF hev h0 hdn hown hob
            have hO := World.ownsRow_lit (base := w.heap.size) (e := 3) (size := 1) wr #[] 0 hb2.size (Nat.zero_le _) rfl
            have HO := Lib.hid (own_wr (k := .i64) (zs := []) hO (by simp))
            have B4 := hb2.alloc hb2.size (.cells #[] 3)
            clear hO
            go_wp2_with fail
            go_ret2
            obtain ⟨b, hb, hw⟩ := HO.out
            first
            | exact ⟨_, b, by rw [HR.out.2]; rfl, hb, by rw [HR.out.1]; exact hw, B4⟩
            | exact ⟨_, by rw [HR.out.2]; rfl, b, hb, by rw [HR.out.1]; exact hw, B4⟩
            | exact ⟨_, by rw [HR.out.2]; rfl, ⟨b, hb, by rw [HR.out.1]; exact hw⟩, B4⟩
          · have hE : L.isEmpty = false := by
              cases L with
              | nil => exact absurd rfl h0
              | cons a r => rfl
            obtain ⟨b, hb, hw⟩ := own_wr hown hwf.out
            obtain ⟨pv, cv, ev⟩ := own_shape hown
            subst ev
            have HI := isHand_any _ F b wr hw.rd (by omega)
            have HB := Lib.hid hb2
            have Hw := Lib.hid hw
            cases hh : isHand F with
            | false =>
              have HR := Lib.hid (h_no HD.out (.inr (.inr (by rw [hpF]; exact hh))))
              rw [hh] at HI
              have HI := Lib.hid HI
              clear hrd hpF hev h0 hdn hown hob hw hh
              generalize F.length = nf at *
              go_wp2_with fail
              refine HI.out.mono ?_
              rintro e w3 ⟨rfl, b3⟩
              have B3 := HB.out.trans (b3.mono HB.out.size)
              have hO := World.ownsRow_lit (base := w.heap.size) (e := 3) (size := 1) w3 #[] 0 B3.size (Nat.zero_le _) rfl
              have HO := Lib.hid (own_wr (k := .i64) (zs := []) hO (by simp))
              have B4 := B3.alloc B3.size (.cells #[] 3)
              clear hO
              go_wp2_with fail
              go_ret2
              obtain ⟨b, hb, hw⟩ := HO.out
              first
              | exact ⟨_, b, by rw [HR.out.2]; rfl, hb, by rw [HR.out.1]; exact hw, B4⟩
              | exact ⟨_, by rw [HR.out.2]; rfl, b, hb, by rw [HR.out.1]; exact hw, B4⟩
              | exact ⟨_, by rw [HR.out.2]; rfl, ⟨b, hb, by rw [HR.out.1]; exact hw⟩, B4⟩
            | true =>
              have HR := Lib.hid (h_yes HD.out h0 hev (by rw [hpF]; exact hh))
              rw [hpF] at HR
              rw [hh] at HI
              have HI := Lib.hid HI
              clear hrd hpF hev h0 hdn hown hob hw hh
              generalize F.length = nf at *
              go_wp2_with fail
              refine HI.out.mono ?_
              rintro e w3 ⟨rfl, b3⟩
              have B3 := HB.out.trans (b3.mono HB.out.size)
              have Hw3 := Lib.hid (Hw.out.below b3)
              clear b3
              go_wp2_with fail
              go_ret2
              exact ⟨_, b, by rw [HR.out.2]; rfl, hb, by rw [HR.out.1]; exact Hw3.out, B3⟩
        · obtain ⟨x, hdn⟩ : ∃ x, L.drop k = [x] := by
            match e : L.drop k, hlen with
            | [x], _ => exact ⟨x, rfl⟩
          rw [hdn] at hrd
          obtain ⟨hpF, hev⟩ := hrd.out.odd
          have hE : L.isEmpty = false := by
            cases L with
            | nil => simp at hdn
            | cons a r => rfl
          have HR := Lib.hid (h_no HD.out (.inr (.inl hev)))
          clear hrd hpF hev hdn hown hob
          have hO := World.ownsRow_lit (base := w.heap.size) (e := 3) (size := 1) wr #[] 0 hb2.size (Nat.zero_le _) rfl
          have HO := Lib.hid (own_wr (k := .i64) (zs := []) hO (by simp))
          have B4 := hb2.alloc hb2.size (.cells #[] 3)
          clear hO
          go_wp2_with fail
          go_ret2
          obtain ⟨b, hb, hw⟩ := HO.out
          first
          | exact ⟨_, b, by rw [HR.out.2]; rfl, hb, by rw [HR.out.1]; exact hw, B4⟩
          | exact ⟨_, by rw [HR.out.2]; rfl, b, hb, by rw [HR.out.1]; exact hw, B4⟩
          | exact ⟨_, by rw [HR.out.2]; rfl, ⟨b, hb, by rw [HR.out.1]; exact hw⟩, B4⟩
theorem parseHand_w (s : ByteArray) (w : World) (hl : s.size ≤ 1048576) :
    Calls Try.prog 10 #[.string s] w fun e w' => ∃ v b, e = .returned (.tuple #[v, .bool (hOK s.data.toList)]) ∧ w.heap.size ≤ b ∧ WrAt .i64 w' v (hF s.data.toList) b ∧ Below w.heap.size w w' := by
  have h := parseHand_any s.data.toList w (by simpa using hl)
  cases s; exact h
theorem sParseHand_w (s : ByteArray) (w : World) (hl : s.size ≤ 1048576) :
    Calls Try.prog 9 #[.string s] w fun e w' => ∃ v b, e = .returned (.tuple #[v, .bool (hOK s.data.toList)]) ∧ w.heap.size ≤ b ∧ WrAt .i64 w' v (hF s.data.toList) b ∧ Below w.heap.size w w' := by
  have h := sParseHand_any s.data.toList w (by simpa using hl)
  cases s; exact h
end Go.Proofs.Ytcafbnddbddijaa
