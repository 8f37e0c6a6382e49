/-
  ParseRecord, both sides.
-/
import Derived.Test.YtmfammgdcdlceaaParseCard
import Derived.Test.YtmfammgdcdlceaaHandTS
import Derived.Test.YtmfammgdcdlceaaMinMax
import Derived.Test.YtmfammgdcdlceaaJoinL
import Derived.BigQuiet
namespace Go.Proofs.Ytmfammgdcdlceaa
open Go.RowKit
set_option linter.unusedVariables false
set_option linter.unusedSimpArgs false

/-- The moves that a text begins with, read to its end; none where it is no record. -/
def parseM : List UInt8 → Option (List Int)
  | [] => some []
  | [x] => if x = 42 then some [-1] else none
  | x :: y :: r => if x = 42 then (parseM (y :: r)).map (fun l => (-1) :: l) else if 0 ≤ parseC ⟨#[x, y]⟩ then (parseM r).map (fun l => parseC ⟨#[x, y]⟩ :: l) else none
theorem parseM_star (r : List UInt8) : parseM (42 :: r) = (parseM r).map (fun l => (-1) :: l) := by
  cases r with
  | nil => rfl
  | cons y r => simp [parseM]
theorem parseM_one {x : UInt8} (h : x ≠ 42) : parseM [x] = none := by simp [parseM, h]
theorem parseM_two {x y : UInt8} {r : List UInt8} (h : x ≠ 42) (hc : 0 ≤ parseC ⟨#[x, y]⟩) : parseM (x :: y :: r) = (parseM r).map (fun l => parseC ⟨#[x, y]⟩ :: l) := by simp [parseM, h, hc]
theorem parseM_bad {x y : UInt8} {r : List UInt8} (h : x ≠ 42) (hc : ¬ 0 ≤ parseC ⟨#[x, y]⟩) : parseM (x :: y :: r) = none := by simp [parseM, h, hc]
theorem parseC_rng (s : ByteArray) : -1 ≤ parseC s ∧ parseC s ≤ 51 := by
  unfold parseC
  split
  · rename_i c e
    have := List.mem_range.1 (List.mem_of_find?_eq_some e)
    omega
  · omega
theorem parseC_txt {s : ByteArray} (h : 0 ≤ parseC s) : cardTxt (parseC s) = s := by
  unfold parseC at h ⊢
  split
  · rename_i c e
    have := List.find?_some e
    simpa using this
  · rename_i e
    rw [e] at h
    simp at h
theorem move_back {x y : UInt8} (h : 0 ≤ parseC ⟨#[x, y]⟩) : moveL (parseC ⟨#[x, y]⟩) = [x, y] := by
  have hr := parseC_rng ⟨#[x, y]⟩
  rw [moveL_card (by omega)]
  unfold cardL
  rw [if_pos ⟨h, hr.2⟩, parseC_txt h]
theorem parse_back : ∀ (L : List UInt8) (F : List Int), parseM L = some F → allL moveL F = L
  | [], F, h => by
    have : F = [] := by simpa [parseM] using h.symm
    subst this; rfl
  | [x], F, h => by
    by_cases hx : x = 42
    · subst hx
      have : F = [-1] := by simpa [parseM] using h.symm
      subst this; rfl
    · rw [parseM_one hx] at h; cases h
  | x :: y :: r, F, h => by
    by_cases hx : x = 42
    · subst hx
      rw [parseM_star] at h
      obtain ⟨G, hG, rfl⟩ := Option.map_eq_some_iff.1 h
      have := parse_back (y :: r) G hG
      unfold allL at this ⊢
      rw [List.flatMap_cons, this]; rfl
    · by_cases hc : 0 ≤ parseC ⟨#[x, y]⟩
      · rw [parseM_two hx hc] at h
        obtain ⟨G, hG, rfl⟩ := Option.map_eq_some_iff.1 h
        have := parse_back r G hG
        unfold allL at this ⊢
        rw [List.flatMap_cons, this, move_back hc]; rfl
      · rw [parseM_bad hx hc] at h; cases h
theorem parse_len2 : ∀ (L : List UInt8) (F : List Int), parseM L = some F → F.length ≤ L.length := fun L F h => by
  have h1 := parse_back L F h
  have : ∀ G : List Int, G.length ≤ (allL moveL G).length := by
    intro G
    induction G with
    | nil => simp [allL]
    | cons c G ih =>
      have := (moveL_len c).1
      unfold allL at ih ⊢
      rw [List.flatMap_cons, List.length_append, List.length_cons]; omega
  rw [← h1]; exact this F
/-- How reading goes on: the numbers read so far ahead of what is still to be read. -/
def Reads (L : List UInt8) (F : List Int) (R : List UInt8) : Prop := parseM L = (parseM R).map (fun l => F ++ l)
theorem Reads.start (L : List UInt8) : Reads L [] L := by unfold Reads; simp
theorem Reads.star {L : List UInt8} {F : List Int} {r : List UInt8} (h : Reads L F (42 :: r)) : Reads L (F ++ [-1]) r := by
  unfold Reads at *
  rw [h, parseM_star, Option.map_map]
  congr 1
  funext l; simp
theorem Reads.two {L : List UInt8} {F : List Int} {x y : UInt8} {r : List UInt8} (h : Reads L F (x :: y :: r)) (hx : x ≠ 42) (hc : 0 ≤ parseC ⟨#[x, y]⟩) : Reads L (F ++ [parseC ⟨#[x, y]⟩]) r := by
  unfold Reads at *
  rw [h, parseM_two hx hc, Option.map_map]
  congr 1
  funext l; simp
theorem Reads.one {L : List UInt8} {F : List Int} {x : UInt8} (h : Reads L F [x]) (hx : x ≠ 42) : parseM L = none := by
  unfold Reads at h; rw [h, parseM_one hx]; rfl
theorem Reads.bad {L : List UInt8} {F : List Int} {x y : UInt8} {r : List UInt8} (h : Reads L F (x :: y :: r)) (hx : x ≠ 42) (hc : ¬ 0 ≤ parseC ⟨#[x, y]⟩) : parseM L = none := by
  unfold Reads at h; rw [h, parseM_bad hx hc]; rfl
theorem Reads.done {L : List UInt8} {F : List Int} (h : Reads L F []) : parseM L = some F := by
  unfold Reads at h; rw [h]; simp [parseM]
def recF (L : List UInt8) : List Int := if L = [45] then [] else (parseM L).getD []
def recOK (L : List UInt8) : Bool := if L = [45] then true else (parseM L).isSome && !L.isEmpty
theorem rec_dash : recF [45] = [] ∧ recOK [45] = true := ⟨rfl, rfl⟩
theorem rec_none {L : List UInt8} (hL : L ≠ [45]) (h : parseM L = none) : recF L = [] ∧ recOK L = false := by
  unfold recF recOK; rw [if_neg hL, if_neg hL, h]; exact ⟨rfl, rfl⟩
theorem rec_some {L : List UInt8} {F : List Int} (hL : L ≠ [45]) (h : parseM L = some F) : recF L = F ∧ recOK L = !L.isEmpty := by
  unfold recF recOK; rw [if_neg hL, if_neg hL, h]; exact ⟨rfl, by simp⟩
theorem recF_len (L : List UInt8) : (recF L).length ≤ L.length := by
  unfold recF; split
  · simp
  · cases h : parseM L with
    | none => simp
    | some F => simpa using parse_len2 L F h
theorem ba_tail (x : UInt8) (r : List UInt8) : (⟨(x :: r).toArray⟩ : ByteArray).extract 1 (r.length + 1) = ⟨r.toArray⟩ := by
  have : ∀ a b : ByteArray, a.data.toList = b.data.toList → a = b := fun a b h => by
    cases a with | mk a => cases b with | mk b => simp at h; rw [h]
  apply this
  simp
set_option maxRecDepth 100000 in
set_option maxHeartbeats 1000000 in
theorem firstMove_star (r : List UInt8) (w : World) (hl : r.length ≤ 1048576) :
    Calls Try.prog 11 #[.string ⟨(42 :: r).toArray⟩] w fun e w' => e = .returned (.tuple #[.int .i64 (-1), .string ⟨r.toArray⟩, .bool true]) ∧ Below w.heap.size w w' := by
  have hE := ba_tail 42 r
  have B : Below w.heap.size w w.drew := (Below.refl _ _).drew
  go_enter Try.func11, Try.ntmps11
  go_wp2_with fail
  go_quiet (fail)
  go_wp2_with fail
  go_ret3
  exact ⟨by first | rfl | simp [hE], by first | exact B | exact below_drewN (Below.refl _ _) _⟩
set_option maxRecDepth 100000 in
set_option maxHeartbeats 1000000 in
theorem firstMove_card (s : ByteArray) (n m : Nat) (w : World) (h0 : 0 < s.size) (hn : s.size = n) (hl : n ≤ 2097152) (hm : m = min 2 n) (hq : (((s[0]'h0).toNat : Int) == 42) = false) :
    Calls Try.prog 11 #[.string s] w fun e w' => e = .returned (.tuple #[.int .i64 (parseC (s.extract 0 m)), .string (s.extract m n), .bool (isCard (parseC (s.extract 0 m)))]) ∧ Below w.heap.size w w' := by
  have HM := Lib.hid (min_any 2 n w)
  have hmi : minI 2 (n : Int) = (m : Int) := by unfold minI; split <;> omega
  rw [hmi] at HM
  have hmn : m ≤ n := by omega
  have hmi2 : (m : Int) ≤ (n : Int) := by omega
  obtain ⟨c, hc⟩ : ∃ c, c = parseC (s.extract 0 m) := ⟨_, rfl⟩
  have HP := Lib.hid (fun wx => parseCard_any (s.extract 0 m) wx)
  rw [← hc] at HP ⊢
  obtain ⟨b, hb⟩ : ∃ b, isCard c = b := ⟨_, rfl⟩
  have HC := Lib.hid (fun wx => isCard_r c wx b hb)
  rw [hb]
  clear hc hb hm hmi
  have hn2 := hn
  subst hn
  have HS := Lib.hid hn2
  clear hn2
  go_enter Try.func11, Try.ntmps11
  go_wp2_with fail
  refine HM.out.mono ?_
  rintro e w1 ⟨rfl, b1⟩
  go_wp2_with fail
  refine (HP.out _).mono ?_
  rintro e _w ⟨rfl, rfl⟩
  go_wp2_with fail
  go_quiet ((first | (go_at_call 16; exact Calls.quiet_of_same (flip_same (HC.out _) rfl))))
  go_wp2_with fail
  go_ret3
  exact ⟨rfl, below_drewN b1 _⟩
theorem wf_snoc {F : List Int} (h : ∀ n ∈ F, (Lit.int .i64 n).wf = true) {c : Int} (hc : (Lit.int .i64 c).wf = true) : ∀ n ∈ F ++ [c], (Lit.int .i64 n).wf = true := by
  intro n hn
  rcases List.mem_append.1 hn with h1 | h1
  · exact h n h1
  · simp at h1; subst h1; exact hc
theorem parseC_wf (s : ByteArray) : (Lit.int .i64 (parseC s)).wf = true := WalkArith.wf_i64 (by have := parseC_rng s; omega)
theorem parseC_card (s : ByteArray) : isCard (parseC s) = decide (0 ≤ parseC s) := by
  have := parseC_rng s
  unfold isCard
  by_cases h : 0 ≤ parseC s
  · rw [decide_eq_true h, decide_eq_true ⟨h, this.2⟩]
  · rw [decide_eq_false h, decide_eq_false (fun e => h e.1)]
theorem ba_two (x y : UInt8) (r : List UInt8) : (⟨(x :: y :: r).toArray⟩ : ByteArray).extract 0 2 = ⟨#[x, y]⟩ := by
  have : ∀ a b : ByteArray, a.data.toList = b.data.toList → a = b := fun a b h => by
    cases a with | mk a => cases b with | mk b => simp at h; rw [h]
  apply this
  simp
theorem ba_rest (x y : UInt8) (r : List UInt8) : (⟨(x :: y :: r).toArray⟩ : ByteArray).extract 2 (r.length + 2) = ⟨r.toArray⟩ := by
  have : ∀ a b : ByteArray, a.data.toList = b.data.toList → a = b := fun a b h => by
    cases a with | mk a => cases b with | mk b => simp at h; rw [h]
  apply this
  simp
theorem strLen (r : List UInt8) : (⟨r.toArray⟩ : ByteArray).size = r.length := by show r.toArray.size = _; simp
def strN (v : Value) : Nat := match v with | .string s => s.size | _ => 0
set_option maxRecDepth 100000 in
set_option maxHeartbeats 2000000 in
theorem parseRecord_any (L : List UInt8) (w : World) (hl : L.length ≤ 1048576) :
    Calls Try.prog 5 #[.string ⟨L.toArray⟩] w fun e w' => ∃ v b, e = .returned (.tuple #[v, .bool (recOK L)]) ∧ w.heap.size ≤ b ∧ WrAt .i64 w' v (recF L) b ∧ Below w.heap.size w w' := by
  obtain ⟨i0, hi, hz0, hz1, hz2⟩ := info_parts info_i64
  have hown0 := World.ownsRow_lit (base := w.heap.size) (e := 3) (size := 1) w #[] 0 (Nat.le_refl _) (Nat.zero_le _) rfl
  have B0 : Below w.heap.size w (w.alloc (.cells #[] 3)) := (Below.refl _ _).alloc (Nat.le_refl _) _
  by_cases hd : L = [45]
  · subst hd
    have HR := Lib.hid rec_dash
    have HO := Lib.hid (own_wr (k := .i64) (zs := []) hown0 (by simp))
    clear hown0
    go_enter Try.func5, Try.ntmps5
    go_wp2_with fail
    go_ret2
    obtain ⟨b, hb, hw⟩ := HO.out
    exact ⟨_, b, by rw [HR.out.2]; rfl, hb, by rw [HR.out.1]; exact hw, B0⟩
  · have hne : (L == [45]) = false := by simpa using hd
    have HD := Lib.hid hd
    clear hd
    go_enter Try.func5, Try.ntmps5
    go_wp2_with fail
    go_loopw [4, 5, 6, 7, 8, 16] (fun o rest _ _ _ _ wr => ∃ (F : List Int) (R : List UInt8), rest = .string ⟨R.toArray⟩ ∧ R.length + F.length ≤ L.length ∧ Hid (Reads L F R) ∧ Hid (∀ n ∈ F, (Lit.int .i64 n).wf = true) ∧ Below w.heap.size w wr ∧ wr.ownsRow w.heap.size 3 1 o F.length (F.map (Value.int .i64))) (fun _ rest _ _ _ _ _ => strN rest)
    case atStart => exact ⟨[], L, rfl, by simp, Lib.hid (Reads.start L), Lib.hid (by simp), B0, hown0⟩
    case round =>
      clear hown0 B0
      obtain ⟨F, R, rfl, hFR, hrd, hwf, hb2, hown⟩ := hrel
      match R, hFR, hrd with
      | [], hFR, hrd =>
        have HR := Lib.hid (rec_some HD.out hrd.out.done)
        have HO := Lib.hid (own_wr hown hwf.out)
        clear hown hrd
        go_wp2_with fail
        go_ret2
        obtain ⟨b, hb, hw⟩ := HO.out
        exact ⟨_, b, by rw [HR.out.2]; rfl, hb, by rw [HR.out.1]; exact hw, hb2⟩
      | x :: r, hFR, hrd =>
        have hr1 : r.length + 1 + F.length ≤ L.length := hFR
        clear hFR
        by_cases hx : x = 42
        · subst hx
          have HM := Lib.hid (firstMove_star r wr (by omega))
          have hrd2 := Lib.hid hrd.out.star
          have hwf2 := Lib.hid (wf_snoc hwf.out (c := -1) (by decide))
          clear hrd
          go_wp2_with fail
          refine HM.out.mono ?_
          rintro e w3 ⟨rfl, b3⟩
          have hown := own_below hown b3
          have B3 := hb2.trans (b3.mono hb2.size)
          clear hb2 b3 HM
          have hsz := B3.size
          go_wp2_with (at_builtin; refine wpList_append_own _ rfl _ _ 22 rfl w.heap.size 3 i0 (.int .i64 0) 1 8 Try.underlying22 hi hz0 hz1 hz2 rfl (by decide) _ _ _ rfl (hown.alloc _) ⟨w3.heap.size, 0, none⟩ 1 1 [.int .i64 (-1)] rfl rfl (cell_one_new _ _ _) (one_cell _ _) ?c3 ?c4 ?c5 ?_)
          case c3 => unfold maxLen; omega
          case c4 => omega
          case c5 => simp; omega
          intro v' w5 hown' hgrow _
          have B5 : Below w.heap.size w w5 := (B3.alloc hsz _).grown hgrow (by simp; omega) (own_block hown)
          have hown2 := own_snoc hown'
          clear hown' hgrow hown B3
          go_wp2_with fail
          go_roundw
          case rel => exact ⟨F ++ [-1], r, rfl, by simp; omega, hrd2, hwf2, B5, hown2⟩
          case measure => show (⟨r.toArray⟩ : ByteArray).size < (⟨(42 :: r).toArray⟩ : ByteArray).size; rw [strLen, strLen]; simp
        · match r, hr1, hrd with
          | [], hr1, hrd =>
            have HR := Lib.hid (rec_none HD.out (hrd.out.one hx))
            have hq : ((((⟨[x].toArray⟩ : ByteArray)[0]'(by rw [strLen]; simp)).toNat : Int) == 42) = false := by
              have : x.toNat ≠ 42 := fun e => hx (UInt8.toNat_inj.1 e)
              show (((x.toNat : Nat) : Int) == 42) = false
              simp; omega
            have HM := Lib.hid (firstMove_card ⟨[x].toArray⟩ 1 1 wr (by rw [strLen]; simp) (by rw [strLen]; rfl) (by omega) rfl hq)
            have hm1 : parseC ((⟨[x].toArray⟩ : ByteArray).extract 0 1) = -1 := parse_len _ (by rw [ByteArray.size_extract, strLen]; simp)
            rw [hm1, show isCard (-1) = false from rfl] at HM
            have HB := Lib.hid hb2
            clear hrd hm1 hq
            go_wp2_with fail
            refine HM.out.mono ?_
            rintro e w3 ⟨rfl, b3⟩
            have B3 := HB.out.trans (b3.mono HB.out.size)
            have hO := World.ownsRow_lit (base := w.heap.size) (e := 3) (size := 1) w3 #[] 0 B3.size (Nat.zero_le _) rfl
            have HO := Lib.hid (own_wr (k := .i64) (zs := []) hO (by simp))
            have B4 := B3.alloc B3.size (.cells #[] 3)
            clear hO b3 B3 HM hown
            go_wp2_with fail
            go_ret2
            obtain ⟨b, hb, hw⟩ := HO.out
            exact ⟨_, b, by rw [HR.out.2]; rfl, hb, by rw [HR.out.1]; exact hw, B4⟩
          | y :: r, hr1, hrd =>
            have hr2 : r.length + 2 + F.length ≤ L.length := hr1
            have hq : ((((⟨(x :: y :: r).toArray⟩ : ByteArray)[0]'(by rw [strLen]; simp)).toNat : Int) == 42) = false := by
              have : x.toNat ≠ 42 := fun e => hx (UInt8.toNat_inj.1 e)
              show (((x.toNat : Nat) : Int) == 42) = false
              simp; omega
            have HM := firstMove_card ⟨(x :: y :: r).toArray⟩ (r.length + 2) 2 wr (by rw [strLen]; simp) (by rw [strLen]; rfl) (by omega) (by omega) hq
            rw [ba_two, ba_rest, parseC_card] at HM
            have hcw := parseC_wf ⟨#[x, y]⟩
            by_cases hc : 0 ≤ parseC ⟨#[x, y]⟩
            · have hrd2 := Lib.hid (hrd.out.two hx hc)
              have hwf2 := Lib.hid (wf_snoc hwf.out hcw)
              rw [decide_eq_true hc] at HM
              have HM := Lib.hid HM
              generalize parseC ⟨#[x, y]⟩ = c at *
              clear hrd hq hr1
              go_wp2_with fail
              refine HM.out.mono ?_
              rintro e w3 ⟨rfl, b3⟩
              have hown := own_below hown b3
              have B3 := hb2.trans (b3.mono hb2.size)
              clear hb2 b3 HM
              have hsz := B3.size
              go_wp2_with (at_builtin; refine wpList_append_own _ rfl _ _ 22 rfl w.heap.size 3 i0 (.int .i64 0) 1 8 Try.underlying22 hi hz0 hz1 hz2 rfl (by decide) _ _ _ rfl (hown.alloc _) ⟨w3.heap.size, 0, none⟩ 1 1 [.int .i64 (c)] rfl rfl (cell_one_new _ _ _) (one_cell _ _) ?c3 ?c4 ?c5 ?_)
              case c3 => unfold maxLen; omega
              case c4 => omega
              case c5 => simp; omega
              intro v' w5 hown' hgrow _
              have B5 : Below w.heap.size w w5 := (B3.alloc hsz _).grown hgrow (by simp; omega) (own_block hown)
              have hown2 := own_snoc hown'
              clear hown' hgrow hown B3
              go_wp2_with fail
              go_roundw
              case rel => exact ⟨F ++ [c], r, rfl, by simp; omega, hrd2, hwf2, B5, hown2⟩
              case measure => show (⟨r.toArray⟩ : ByteArray).size < (⟨(x :: y :: r).toArray⟩ : ByteArray).size; rw [strLen, strLen]; simp; omega
            · have HR := Lib.hid (rec_none HD.out (hrd.out.bad hx hc))
              rw [decide_eq_false hc] at HM
              have HM := Lib.hid HM
              have HB := Lib.hid hb2
              generalize parseC ⟨#[x, y]⟩ = c at *
              clear hrd hq hr1
              go_wp2_with fail
              refine HM.out.mono ?_
              rintro e w3 ⟨rfl, b3⟩
              have B3 := HB.out.trans (b3.mono HB.out.size)
              have hO := World.ownsRow_lit (base := w.heap.size) (e := 3) (size := 1) w3 #[] 0 B3.size (Nat.zero_le _) rfl
              have HO := Lib.hid (own_wr (k := .i64) (zs := []) hO (by simp))
              have B4 := B3.alloc B3.size (.cells #[] 3)
              clear hO b3 B3 HM hown
              go_wp2_with fail
              go_ret2
              obtain ⟨b, hb, hw⟩ := HO.out
              exact ⟨_, b, by rw [HR.out.2]; rfl, hb, by rw [HR.out.1]; exact hw, B4⟩
theorem recF_wf (L : List UInt8) : ∀ n ∈ recF L, (Lit.int .i64 n).wf = true := by
  have key : ∀ (L : List UInt8) (F : List Int), parseM L = some F → ∀ n ∈ F, (Lit.int .i64 n).wf = true := by
    intro L
    induction L using parseM.induct with
    | case1 => intro F h; have : F = [] := by simpa [parseM] using h.symm
               subst this; simp
    | case2 => intro F h; have : F = [-1] := by simpa [parseM] using h.symm
               subst this; intro n hn; simp at hn; subst hn; decide
    | case3 x hx => intro F h; rw [parseM_one hx] at h; cases h
    | case4 y r ih =>
      intro F h
      rw [parseM_star] at h
      obtain ⟨G, hG, rfl⟩ := Option.map_eq_some_iff.1 h
      intro n hn
      rcases List.mem_cons.1 hn with rfl | hn
      · decide
      · exact ih G hG n hn
    | case5 x y r hx hc ih =>
      intro F h
      rw [parseM_two hx hc] at h
      obtain ⟨G, hG, rfl⟩ := Option.map_eq_some_iff.1 h
      intro n hn
      rcases List.mem_cons.1 hn with rfl | hn
      · exact parseC_wf _
      · exact ih G hG n hn
    | case6 x y r hx hc => intro F h; rw [parseM_bad hx hc] at h; cases h
  intro n hn
  unfold recF at hn
  split at hn
  · simp at hn
  · cases h : parseM L with
    | none => rw [h] at hn; simp at hn
    | some F => rw [h] at hn; exact key L F h n hn
theorem ba_cut (L : List UInt8) (k : Nat) {x y : UInt8} {r : List UInt8} (h : L.drop k = x :: y :: r) : (⟨L.toArray⟩ : ByteArray).extract k (k + 2) = ⟨#[x, y]⟩ := by
  have ext : ∀ a b : ByteArray, a.data.toList = b.data.toList → a = b := fun a b h => by
    cases a with | mk a => cases b with | mk b => simp at h; rw [h]
  apply ext
  simp [h]
theorem ba_at (L : List UInt8) (k : Nat) {x : UInt8} {r : List UInt8} (h : L.drop k = x :: r) (hk : k < (⟨L.toArray⟩ : ByteArray).size) : (⟨L.toArray⟩ : ByteArray)[k]'hk = x := by
  have hk2 : k < L.length := by rw [strLen] at hk; exact hk
  have e : L[k] = x := by
    have := List.drop_eq_getElem_cons hk2
    rw [h] at this
    exact (List.cons.inj this).1.symm
  rw [← e]
  show (L.toArray[k]'(by simpa using hk2)) = _
  simp
set_option maxRecDepth 100000 in
set_option maxHeartbeats 2000000 in
theorem sParseRecord_any (L : List UInt8) (w : World) (hl : L.length ≤ 1048576) :
    Calls Try.prog 4 #[.string ⟨L.toArray⟩] w fun e w' => ∃ v b, e = .returned (.tuple #[v, .bool (recOK L)]) ∧ w.heap.size ≤ b ∧ WrAt .i64 w' v (recF L) b ∧ Below w.heap.size w w' := by
  obtain ⟨i0, hi, hz0, hz1, hz2⟩ := info_parts info_i64
  have hown0 := World.ownsRow_lit (base := w.heap.size) (e := 3) (size := 1) w #[] 0 (Nat.le_refl _) (Nat.zero_le _) rfl
  have B0 : Below w.heap.size w (w.alloc (.cells #[] 3)) := (Below.refl _ _).alloc (Nat.le_refl _) _
  by_cases hd : L = [45]
  · subst hd
    obtain ⟨W1, hW1⟩ : ∃ W, W = w.alloc (.cells #[] 3) := ⟨_, rfl⟩
    rw [← hW1] at hown0 B0
    have HR := Lib.hid rec_dash
    have HO := Lib.hid (own_wr (k := .i64) (zs := []) hown0 (by simp))
    have HT := Lib.hid (sRecordText_any (.slice (some ⟨w.heap.size, 0, none⟩) 0 0) [] 0 W1 ⟨_, 0, rfl, ⟨Nat.le_refl _, Nat.zero_le _, fun h => by cases h⟩, by simp, .inl rfl⟩ (by simp))
    have e0 : recordTxt [] = ⟨#[45]⟩ := rfl
    rw [e0] at HT
    have HW := Lib.hid hW1
    clear hown0 hW1 e0
    go_enter Try.func4, Try.ntmps4
    go_wp2_with fail
    rw [← HW.out]
    go_loopw [4, 5, 6] (fun o i _ wr => o = .slice (some ⟨w.heap.size, 0, none⟩) 0 0 ∧ i = .int .i64 0 ∧ W1 = wr) (fun _ _ _ _ => 0)
    case atStart => exact ⟨rfl, rfl, rfl⟩
    case round =>
      obtain ⟨rfl, rfl, rfl⟩ := hrel
      go_wp2_with fail
      refine HT.out.mono ?_
      rintro e w3 ⟨rfl, b3⟩
      have B3 := B0.trans (b3.mono B0.size)
      have HO2 : Hid (∃ b, w.heap.size ≤ b ∧ WrAt .i64 w3 (.slice (some ⟨w.heap.size, 0, none⟩) 0 0) [] b) := Lib.hid (by
        obtain ⟨b, hb, hw⟩ := HO.out
        exact ⟨b, hb, hw.below b3⟩)
      clear b3 HT HO
      go_wp2_with fail
      go_ret2
      obtain ⟨b, hb, hw⟩ := HO2.out
      exact ⟨_, b, by rw [HR.out.2]; rfl, hb, by rw [HR.out.1]; exact hw, B3⟩
  · have hne : (L == [45]) = false := by simpa using hd
    have HD := Lib.hid hd
    clear hd
    obtain ⟨n, hn⟩ : ∃ n, n = L.length := ⟨_, rfl⟩
    have Hn := Lib.hid hn
    have hsz : (⟨L.toArray⟩ : ByteArray).size = n := by rw [strLen, hn]
    have hln : n ≤ 1048576 := by omega
    clear hn hl
    go_enter Try.func4, Try.ntmps4
    go_wp2_with fail
    go_loopw [4, 5, 6] (fun o i _ wr => ∃ (F : List Int) (k : Nat), i = .int .i64 k ∧ k ≤ n ∧ F.length ≤ k ∧ Hid (Reads L F (L.drop k)) ∧ Hid (∀ n ∈ F, (Lit.int .i64 n).wf = true) ∧ Below w.heap.size w wr ∧ wr.ownsRow w.heap.size 3 1 o F.length (F.map (Value.int .i64))) (fun _ i _ _ => n - (intOf i).toNat)
    case atStart => exact ⟨[], 0, rfl, Nat.zero_le _, Nat.le_refl _, Lib.hid (Reads.start L), Lib.hid (by simp), B0, hown0⟩
    case round =>
      clear hown0 B0
      obtain ⟨F, k, rfl, hk, hFk, hrd, hwf, hb2, hown⟩ := hrel
      by_cases hlt : k < n
      · obtain ⟨x, r, hxr⟩ : ∃ x r, L.drop k = x :: r := ⟨_, _, List.drop_eq_getElem_cons (by rw [← Hn.out]; exact hlt)⟩
        have hkl : k < (⟨L.toArray⟩ : ByteArray).size := by rw [hsz]; exact hlt
        have hat := ba_at L k hxr hkl
        have hrl : r.length + 1 = n - k := by
          have := congrArg List.length hxr
          rw [List.length_drop, ← Hn.out] at this
          simpa using this.symm
        have hdr : L.drop (k + 1) = r := by rw [← List.drop_drop, hxr]; rfl
        rw [hxr] at hrd
        have Hxr := Lib.hid hxr
        by_cases hx : x = 42
        · subst hx
          have hq : ((((⟨L.toArray⟩ : ByteArray)[k]'hkl).toNat : Int) == 42) = true := by rw [hat]; rfl
          have hrd2 : Hid (Reads L (F ++ [-1]) (L.drop (k + 1))) := Lib.hid (by rw [hdr]; exact hrd.out.star)
          have hwf2 := Lib.hid (wf_snoc hwf.out (c := -1) (by decide))
          clear hrd hat hxr hdr
          have hsz := hb2.size
          go_wp2_with (at_builtin; refine wpList_append_own _ rfl _ _ 22 rfl w.heap.size 3 i0 (.int .i64 0) 1 8 Try.underlying22 hi hz0 hz1 hz2 rfl (by decide) _ _ _ rfl (hown.alloc _) ⟨wr.heap.size, 0, none⟩ 1 1 [.int .i64 (-1)] rfl rfl (cell_one_new _ _ _) (one_cell _ _) ?c3 ?c4 ?c5 ?_)
          case c3 => unfold maxLen; omega
          case c4 => omega
          case c5 => simp; omega
          intro v' w5 hown' hgrow _
          have B5 : Below w.heap.size w w5 := (hb2.alloc hsz _).grown hgrow (by simp; omega) (own_block hown)
          have hown2 := own_snoc hown'
          clear hown' hgrow hown hb2
          go_wp2_with fail
          go_roundw
          case rel => exact ⟨F ++ [-1], k + 1, by go_num, by omega, by simp; omega, hrd2, hwf2, B5, hown2⟩
          case measure => simp [intOf]; omega
        · have hq : ((((⟨L.toArray⟩ : ByteArray)[k]'hkl).toNat : Int) == 42) = false := by
            rw [hat]
            have : x.toNat ≠ 42 := fun e => hx (UInt8.toNat_inj.1 e)
            simp; omega
          clear hat
          match r, hxr, hrl, hdr, hrd, Hxr with
          | [], hxr, hrl, hdr, hrd, Hxr =>
            have HR := Lib.hid (rec_none HD.out (hrd.out.one hx))
            have hk2 : ¬ (k + 2 ≤ n) := by simp at hrl; omega
            have hk3 : ¬ ((k : Int) + 2 ≤ (n : Int)) := by omega
            have hO := World.ownsRow_lit (base := w.heap.size) (e := 3) (size := 1) wr #[] 0 hb2.size (Nat.zero_le _) rfl
            have HO := Lib.hid (own_wr (k := .i64) (zs := []) hO (by simp))
            have B4 := hb2.alloc hb2.size (.cells #[] 3)
            clear hO hown hrd hxr hrl hdr
            go_wp2_with fail
            go_ret2
            obtain ⟨b, hb, hw⟩ := HO.out
            first
            | exact ⟨_, b, by rw [HR.out.2]; rfl, hb, by rw [HR.out.1]; exact hw, B4⟩
            | exact ⟨_, by rw [HR.out.2]; rfl, b, hb, by rw [HR.out.1]; exact hw, B4⟩
            | exact ⟨_, by rw [HR.out.2]; rfl, ⟨b, hb, by rw [HR.out.1]; exact hw⟩, B4⟩
          | y :: r, hxr, hrl, hdr, hrd, Hxr =>
            have hk2 : k + 2 ≤ n := by simp at hrl; omega
            have hk3 : ((k : Int) + 2 ≤ (n : Int)) := by omega
            have hcut := ba_cut L k hxr
            have hdr2 : L.drop (k + 2) = r := by rw [← List.drop_drop, hxr]; rfl
            have hrg := parseC_rng ⟨#[x, y]⟩
            have hcw := parseC_wf ⟨#[x, y]⟩
            have HM := sParseCard_any ⟨#[x, y]⟩ wr
            rw [← hcut] at HM
            rw [hcut] at HM
            have HM2 : Calls Try.prog 9 #[.string ((⟨L.toArray⟩ : ByteArray).extract k (k + 2))] wr fun e w' => e = .returned (.int .i64 (parseC ⟨#[x, y]⟩)) ∧ Below wr.heap.size wr w' := by rw [hcut]; exact HM
            have HM := Lib.hid HM2
            have HB := Lib.hid hb2
            by_cases hc : 0 ≤ parseC ⟨#[x, y]⟩
            · have hrd2 : Hid (Reads L (F ++ [parseC ⟨#[x, y]⟩]) (L.drop (k + 2))) := Lib.hid (by rw [hdr2]; exact hrd.out.two hx hc)
              have hwf2 := Lib.hid (wf_snoc hwf.out hcw)
              generalize parseC ⟨#[x, y]⟩ = c at *
              clear hrd hxr hrl hdr hcut hdr2 HM2
              go_wp2_with fail
              refine HM.out.mono ?_
              rintro e w3 ⟨rfl, b3⟩
              have hown := own_below hown b3
              have B3 := hb2.trans (b3.mono hb2.size)
              clear hb2 b3 HM
              have hsz := B3.size
              go_wp2_with (at_builtin; refine wpList_append_own _ rfl _ _ 22 rfl w.heap.size 3 i0 (.int .i64 0) 1 8 Try.underlying22 hi hz0 hz1 hz2 rfl (by decide) _ _ _ rfl (hown.alloc _) ⟨w3.heap.size, 0, none⟩ 1 1 [.int .i64 (c)] rfl rfl (cell_one_new _ _ _) (one_cell _ _) ?c3 ?c4 ?c5 ?_)
              case c3 => unfold maxLen; omega
              case c4 => omega
              case c5 => simp; omega
              intro v' w5 hown' hgrow _
              have B5 : Below w.heap.size w w5 := (B3.alloc hsz _).grown hgrow (by simp; omega) (own_block hown)
              have hown2 := own_snoc hown'
              clear hown' hgrow hown B3
              go_wp2_with fail
              go_roundw
              case rel => exact ⟨F ++ [c], k + 2, by go_num, by omega, by simp; omega, hrd2, hwf2, B5, hown2⟩
              case measure => simp [intOf]; omega
            · have HR := Lib.hid (rec_none HD.out (hrd.out.bad hx hc))
              generalize parseC ⟨#[x, y]⟩ = c at *
              clear hrd hxr hrl hdr hcut hdr2 HM2
              go_wp2_with fail
              refine HM.out.mono ?_
              rintro e w3 ⟨rfl, b3⟩
              have B3 := HB.out.trans (b3.mono HB.out.size)
              have hO := World.ownsRow_lit (base := w.heap.size) (e := 3) (size := 1) w3 #[] 0 B3.size (Nat.zero_le _) rfl
              have HO := Lib.hid (own_wr (k := .i64) (zs := []) hO (by simp))
              have B4 := B3.alloc B3.size (.cells #[] 3)
              clear hO b3 B3 HM hown
              go_wp2_with fail
              go_ret2
              obtain ⟨b, hb, hw⟩ := HO.out
              exact ⟨_, b, by rw [HR.out.2]; rfl, hb, by rw [HR.out.1]; exact hw, B4⟩
      · obtain rfl : k = n := by omega
        have hdn : L.drop k = [] := List.drop_eq_nil_of_le (by rw [Hn.out]; exact Nat.le_refl _)
        rw [hdn] at hrd
        have hps := hrd.out.done
        have HR := Lib.hid (rec_some HD.out hps)
        have hbk := parse_back L F hps
        obtain ⟨b, hb, hw⟩ := own_wr hown hwf.out
        have HTx := sRecordText_any _ F b wr hw.rd (by omega)
        obtain ⟨pv, cv, ev⟩ := own_shape hown
        subst ev
        by_cases hF : F = []
        · subst hF
          have hL : L = [] := by rw [← hbk]; rfl
          subst hL
          rw [show recordTxt [] = ⟨#[45]⟩ from rfl] at HTx
          have HTx := Lib.hid HTx
          have HB := Lib.hid hb2
          clear hown hrd hps hbk hw hdn
          go_wp2_with fail
          refine HTx.out.mono ?_
          rintro e w3 ⟨rfl, b3⟩
          have B3 := HB.out.trans (b3.mono HB.out.size)
          have hO := World.ownsRow_lit (base := w.heap.size) (e := 3) (size := 1) w3 #[] 0 B3.size (Nat.zero_le _) rfl
          have HO := Lib.hid (own_wr (k := .i64) (zs := []) hO (by simp))
          have B4 := B3.alloc B3.size (.cells #[] 3)
          clear hO b3 B3 HTx
          go_wp2_with fail
          go_ret2
          obtain ⟨b, hb, hw⟩ := HO.out
          exact ⟨_, b, by rw [HR.out.2]; rfl, hb, by rw [HR.out.1]; exact hw, B4⟩
        · have hrt : recordTxt F = ⟨L.toArray⟩ := by
            unfold recordTxt
            rw [dashed_some _ _ (List.length_pos_iff.2 hF), hbk]
          have hLe : L.isEmpty = false := by
            cases L with
            | nil => exact absurd (by simpa [parseM] using hps.symm) hF
            | cons a l => rfl
          rw [hrt] at HTx
          rw [hLe] at HR
          have HTx := Lib.hid HTx
          have HB := Lib.hid hb2
          have Hw := Lib.hid hw
          clear hown hrd hps hbk hw hdn hrt
          generalize F.length = nf at *
          go_wp2_with fail
          refine HTx.out.mono ?_
          rintro e w3 ⟨rfl, b3⟩
          have B3 := HB.out.trans (b3.mono HB.out.size)
          have Hw3 := Lib.hid (Hw.out.below b3)
          clear b3 HTx
          go_wp2_with fail
          go_ret2
          exact ⟨_, b, by rw [HR.out.2]; rfl, hb, by rw [HR.out.1]; exact Hw3.out, B3⟩
theorem recF_le (s : ByteArray) (h : s.size ≤ 1048576) : (recF s.data.toList).length ≤ 1099511627776 := by
  have h1 := recF_len s.data.toList
  have h2 : s.data.toList.length = s.size := by simp
  omega
theorem parseRec_w (s : ByteArray) (w : World) (hl : s.size ≤ 1048576) :
    Calls Try.prog 5 #[.string s] w fun e w' => ∃ v b, e = .returned (.tuple #[v, .bool (recOK s.data.toList)]) ∧ w.heap.size ≤ b ∧ WrAt .i64 w' v (recF s.data.toList) b ∧ Below w.heap.size w w' := by
  have h := parseRecord_any s.data.toList w (by simpa using hl)
  cases s; exact h
theorem sParseRec_w (s : ByteArray) (w : World) (hl : s.size ≤ 1048576) :
    Calls Try.prog 4 #[.string s] w fun e w' => ∃ v b, e = .returned (.tuple #[v, .bool (recOK s.data.toList)]) ∧ w.heap.size ≤ b ∧ WrAt .i64 w' v (recF s.data.toList) b ∧ Below w.heap.size w w' := by
  have h := sParseRecord_any s.data.toList w (by simpa using hl)
  cases s; exact h
end Go.Proofs.Ytmfammgdcdlceaa
