/-
  The program's writer of bytes: put, putWords, its text.
-/
import Derived.Test.YtmfammgdcdlceaaDoorJoinL
import Derived.Lib.AppendStr
import Derived.Lib.UnsafeStr
import Derived.Lib.Builder
import Derived.Laws.Rows
import Derived.Deep.Cut
namespace Go.Proofs.YtmfammgdcdlceaaDoor
open Go.RowKit
set_option linter.unusedVariables false
set_option linter.unusedSimpArgs false

theorem info_u8w : (Tryd.prog.info? 5).map (fun i => (i.zero, i.size, i.bytes)) = some (some (.int .u8 0), 1, 1) := by kernel_rfl
theorem cellsB {w : World} {g : Nat} {v : Value} {t : TypeId} {fr : Nat × Nat} (h : w.heap[g]? = some (.cells #[v] t fr)) : w.cell? ⟨g, 0, none⟩ = some v := by simp [World.cell?, h]
theorem freeB {w : World} {g : Nat} {v : Value} {t : TypeId} (h : w.heap[g]? = some (.cells #[v] t (0, 0))) (i : Nat) : w.frozen? ⟨g, i, none⟩ = false := by simp [World.frozen?, h]
theorem setB {w : World} {g : Nat} {v : Value} {t : TypeId} {fr : Nat × Nat} (h : w.heap[g]? = some (.cells #[v] t fr)) (v' : Value) : (w.setCell ⟨g, 0, none⟩ v').heap[g]? = some (.cells #[v'] t fr) := by
  simp [World.setCell, Array.getElem?_modify, h]
theorem own_keepB {w w' : World} {B : Nat} {E : TypeId} {size n : Nat} {v : Value} {xs : List Value} (h : w.ownsRow B E size v n xs) (hk : ∀ q, v.ownBlock = some q → w'.heap[q]? = w.heap[q]?) : w'.ownsRow B E size v n xs := by
  obtain ⟨hl, h⟩ := h
  refine ⟨hl, h.imp id ?_⟩
  rintro ⟨g', cap', cur, e', hg, hh, r⟩
  refine ⟨g', cap', cur, e', hg, ?_, r⟩
  rw [hk g' (by rw [e']; rfl)]; exact hh
/-- The writer in block g has written these bytes; what it owns lies from B on. -/
def BWr (w : World) (B g : Nat) (l : List UInt8) : Prop :=
  B ≤ g ∧ ∃ v, w.heap[g]? = some (.cells #[v] 67 (0, 0)) ∧ w.ownsRow B 5 1 v l.length (Lib.byteCells l)
theorem BWr.below {w w' : World} {B g : Nat} {l : List UInt8} (h : BWr w B g l) (b : Below w.heap.size w w') : BWr w' B g l := by
  obtain ⟨hB, v, h1, h2⟩ := h
  exact ⟨hB, v, (b.block _ (Array.getElem?_eq_some_iff.1 h1).1).trans h1, own_below h2 b⟩
theorem BWr.fresh {w : World} {B : Nat} (hB : B ≤ w.heap.size) : BWr (w.alloc (.cells #[.slice none 0 0] 67)) B w.heap.size [] :=
  ⟨hB, _, heap_alloc_new _ _, World.ownsRow_nil _ _ _ _⟩
/-- Rows of words and rows of numbers stand as they stood. -/
def StrKept (w w' : World) : Prop := ∀ (i : Nat) (cs : Array Value) (fr : Nat × Nat) (t : TypeId), (t = 9 ∨ t = 3) → w.heap[i]? = some (.cells cs t fr) → w'.heap[i]? = some (.cells cs t fr)
theorem StrKept.refl (w : World) : StrKept w w := fun _ _ _ _ _ h => h
theorem StrKept.trans {a b c : World} (h : StrKept a b) (k : StrKept b c) : StrKept a c := fun i cs fr t ht e => k i cs fr t ht (h i cs fr t ht e)
theorem StrKept.of_below {w w' : World} (b : Below w.heap.size w w') : StrKept w w' := fun i cs fr t ht e => (b.block _ (Array.getElem?_eq_some_iff.1 e).1).trans e
/-- These words lie in block b. -/
def WordsAt (w : World) (b : Nat) (ls : List (List UInt8)) : Prop := ∃ cs : Array Value, w.heap[b]? = some (.cells cs 9 (0, 0)) ∧ cs.toList.take ls.length = ls.map strV
theorem WordsAt.kept {w w' : World} {b : Nat} {ls : List (List UInt8)} (h : WordsAt w b ls) (k : StrKept w w') : WordsAt w' b ls := by
  obtain ⟨cs, h1, h2⟩ := h
  exact ⟨cs, k _ _ _ _ (.inl rfl) h1, h2⟩
theorem WordsAt.at {w : World} {b : Nat} {ls : List (List UInt8)} (h : WordsAt w b ls) {j : Nat} (hj : j < ls.length) : w.cell? ⟨b, j, none⟩ = some (.string ⟨(ls[j]).toArray⟩) := by
  obtain ⟨cs, h1, h2⟩ := h
  have e : (cs.toList.take ls.length)[j]? = (ls.map strV)[j]? := by rw [h2]
  rw [List.getElem?_take, if_pos hj] at e
  have hb : w.cell? ⟨b, j, none⟩ = cs[j]? := by simp [World.cell?, h1]
  rw [hb, ← Array.getElem?_toList, e]
  simp [hj]
  rfl
theorem WordsAt.fresh (w : World) (cs : Array Value) (ls : List (List UInt8)) (h : cs.toList = ls.map strV) : WordsAt (w.alloc (.cells cs 9)) w.heap.size ls := by
  refine ⟨cs, heap_alloc_new _ _, ?_⟩
  rw [h, List.take_of_length_le (by simp)]
theorem own_words {w : World} {B : Nat} {v : Value} {ls : List (List UInt8)} (h : w.ownsRow B 9 1 v ls.length (ls.map strV)) (hz : ls ≠ []) : ∃ b cap, v = .slice (some ⟨b, 0, none⟩) ls.length cap ∧ WordsAt w b ls ∧ cap ≤ maxLen ∧ ls.length ≤ cap := by
  obtain ⟨hl, h2⟩ := h
  rcases h2 with ⟨-, h0⟩ | ⟨q, cap, cur, rfl, hq, hh, hnc, hcm, hcs, ht⟩
  · exact absurd (List.eq_nil_of_length_eq_zero h0) hz
  · exact ⟨q, cap, rfl, ⟨cur, hh, by simpa using ht⟩, hcm, hnc⟩
theorem bytes_cat (a b : List UInt8) : Lib.byteCells a ++ Lib.strCells ⟨b.toArray⟩ = Lib.byteCells (a ++ b) := by
  rw [Lib.strCells_eq, Lib.byteCells_append]
/-- What the writer's own row becomes: the law behind put and putWords. -/
theorem BWr.next {w w1 : World} {B g n m : Nat} {l r : List UInt8} {v : Value} {pv : Option Addr} {cv : Nat} (hBg : B ≤ g) (hg : w.heap[g]? = some (.cells #[v] 67 (0, 0))) (hown : w.ownsRow B 5 1 v n (Lib.byteCells l))
    (hown' : w1.ownsRow B 5 1 (.slice pv m cv) m (Lib.byteCells r)) (hr : r.length = m) (hgr : w.grownBy w1 v.ownBlock) (hB : B ≤ w.heap.size) :
    w1.heap[g]? = some (.cells #[v] 67 (0, 0)) ∧ BWr (w1.setCell ⟨g, 0, none⟩ (.slice pv m cv)) B g r ∧ Below B w (w1.setCell ⟨g, 0, none⟩ (.slice pv m cv)) ∧ StrKept w (w1.setCell ⟨g, 0, none⟩ (.slice pv m cv)) := by
  have hne := Lib.ownBlock_ne hown hg (by decide)
  have hlt := (Array.getElem?_eq_some_iff.1 hg).1
  have g1 : w1.heap[g]? = some (.cells #[v] 67 (0, 0)) := (hgr.block _ hlt (fun e => hne e.symm)).trans hg
  have hne2 := Lib.ownBlock_ne hown' g1 (by decide)
  subst hr
  refine ⟨g1, ⟨hBg, _, setB g1 _, own_keepB hown' (fun q hq => Below.heap_setCell _ _ _ _ (fun e => hne2 (by rw [hq, e])))⟩, ((Below.refl B w).grown hgr hB (own_block hown)).setCell (show B ≤ g from hBg) _, fun i cs fr t ht hi => ?_⟩
  have hig : i ≠ g := by
    intro e; rw [e, hg] at hi
    have e2 := (Obj.cells.inj (Option.some.inj hi)).2.1
    rcases ht with rfl | rfl <;> exact absurd e2 (by decide)
  have hio := Lib.ownBlock_ne hown hi (by rcases ht with rfl | rfl <;> decide)
  rw [Below.heap_setCell _ _ _ _ hig, hgr.block _ (Array.getElem?_eq_some_iff.1 hi).1 (fun e => hio e.symm)]
  exact hi
set_option maxRecDepth 100000 in
set_option maxHeartbeats 1000000 in
theorem putB_any (B g b cap : Nat) (l0 : List UInt8) (ls : List (List UInt8)) (w : World) (h : BWr w B g l0) (hw : WordsAt w b ls) (hn : ls.length ≤ 1099511627776) (hl : l0.length + Lib.lens ls ≤ 1099511627776) (hB : B ≤ w.heap.size) :
    Calls Tryd.prog 48 #[.pointer (some ⟨g, 0, none⟩), .slice (some ⟨b, 0, none⟩) ls.length cap] w fun e w' => e = .returned (.tuple #[]) ∧ BWr w' B g (l0 ++ ls.flatten) ∧ Below B w w' ∧ StrKept w w' := by
  obtain ⟨i0, hi, hz0, hz1, hz2⟩ := info_parts info_u8w
  obtain ⟨n, hN⟩ : ∃ n, n = ls.length := ⟨_, rfl⟩
  have Hn := Lib.hid hN
  rw [← hN] at hn ⊢
  have Hl := Lib.hid hl
  have H0 : Hid (BWr w B g (l0 ++ (ls.take 0).flatten)) := Lib.hid (by simpa using h)
  have Hw := Lib.hid hw
  clear hN hl h hw
  go_enter Tryd.func48, Tryd.ntmps48
  go_wp2_with fail
  go_loopw [5, 8] (fun _ i wr => ∃ k : Nat, k ≤ n ∧ i = .int .i64 k ∧ Hid (BWr wr B g (l0 ++ (ls.take k).flatten)) ∧ Below B w wr ∧ Hid (StrKept w wr)) (fun _ i _ => n - (intOf i).toNat)
  case atStart => exact ⟨0, Nat.zero_le _, rfl, H0, Below.refl _ _, Lib.hid (StrKept.refl _)⟩
  case round =>
    clear H0
    obtain ⟨k, hk, rfl, hbw, hb2, hsk⟩ := hrel
    by_cases hlt : k < n
    · have hzl : k < ls.length := by rw [← Hn.out]; exact hlt
      have hc1 := (Hw.out.kept hsk.out).at hzl
      obtain ⟨y, hy⟩ : ∃ y, y = ls[k]'hzl := ⟨_, rfl⟩
      have HT : Hid ((l0 ++ (ls.take (k + 1)).flatten) = (l0 ++ (ls.take k).flatten) ++ y) := Lib.hid (by rw [hy, List.take_succ_eq_append_getElem hzl, List.flatten_append, List.flatten_singleton, List.append_assoc])
      have hFl : (l0 ++ (ls.take (k + 1)).flatten).length ≤ 1099511627776 := by
        have h1 := Lib.lens_take_le ls (k + 1)
        have h2 : (ls.take (k + 1)).flatten.length = Lib.lens (ls.take (k + 1)) := by simp [Lib.lens, List.length_flatten]
        have := Hl.out
        rw [List.length_append, h2]; omega
      rw [← hy] at hc1
      rw [HT.out] at hFl
      clear hy
      generalize (l0 ++ (ls.take k).flatten) = F at *
      obtain ⟨hBg, v, hg, hown⟩ := hbw.out
      obtain ⟨pv, cv, ev⟩ := own_shape hown
      subst ev
      have k0 := cellsB hg
      have hBr := Nat.le_trans hB hb2.size
      obtain ⟨q, hq⟩ : ∃ q, q = F.length := ⟨_, rfl⟩
      rw [List.length_append, ← hq] at hFl
      have Hq := Lib.hid hq
      rw [← hq] at hown k0 hg
      have hq2 : (⟨y.toArray⟩ : ByteArray).size = y.length := by show y.toArray.size = _; simp
      have Hq2 := Lib.hid hq2
      have HBW := Lib.hid (And.intro hBg (And.intro hg (And.intro hown hBr)))
      clear hq hbw hq2
      go_wp2_with (at_builtin; refine Lib.wpList_append_own_string _ rfl _ _ 65 9 rfl B 5 i0 Tryd.underlying65 Tryd.underlying9 hi hz0 hz1 hz2 _ _ _ rfl hown ⟨y.toArray⟩ rfl ?c3 ?c4 hBr ?_)
      case c3 => rw [Hq2.out]; unfold maxLen; omega
      case c4 => rw [Hq2.out]; omega
      intro v' w1 hown' hgr _
      obtain ⟨p2, c2, e2⟩ := own_shape hown'
      subst e2
      rw [bytes_cat] at hown'
      (try rw [Hq2.out] at hown' ⊢)
      obtain ⟨hBg, hg, hown, hBr⟩ := HBW.out
      obtain ⟨g1, hbw3, b3, s3⟩ := BWr.next hBg hg hown hown' (by rw [List.length_append, Hq.out]) hgr hBr
      have c1 := cellsB g1
      have x1 := freeB g1 0
      have B3 := hb2.trans b3
      rw [← HT.out] at hbw3
      have S3 := Lib.hid (hsk.out.trans s3)
      have hbw3 := Lib.hid hbw3
      clear hown' hgr hown hg g1 b3 s3 k0 hc1 HBW hsk
      go_wp2_with fail
      go_roundw
      case rel => exact ⟨k + 1, by omega, by go_num, hbw3, B3, S3⟩
      case measure => simp [intOf]; omega
    · obtain rfl : k = n := by omega
      have e : ls.take k = ls := List.take_of_length_le (by rw [Hn.out]; exact Nat.le_refl _)
      rw [e] at hbw
      clear e
      go_wp2_with fail
      exact bodyPost_end (v := .tuple #[]) (by first | rfl | simp [results, go_sem]) rfl ⟨rfl, hbw.out, hb2, hsk.out⟩
theorem lens_flat (ls : List (List UInt8)) : ls.flatten.length = Lib.lens ls := by simp [Lib.lens, List.length_flatten]
theorem putOne_any (B g b : Nat) (l0 y : List UInt8) (w : World) (h : BWr w B g l0) (hw : WordsAt w b [y]) (hl : l0.length + y.length ≤ 1099511627776) (hB : B ≤ w.heap.size) :
    Calls Tryd.prog 48 #[.pointer (some ⟨g, 0, none⟩), .slice (some ⟨b, 0, none⟩) 1 1] w fun e w' => e = .returned (.tuple #[]) ∧ BWr w' B g (l0 ++ y) ∧ Below B w w' ∧ StrKept w w' := by
  have := putB_any B g b 1 l0 [y] w h hw (by simp) (by simpa [Lib.lens] using hl) hB
  simpa using this
theorem one_blank (w : World) (x : Int) (t : TypeId) : ∀ (j : Nat) (u : Value), [Value.int .u8 x][j]? = some u → (w.alloc (.cells #[.int .u8 x] t)).cell? ((⟨w.heap.size, 0, none⟩ : Addr).add j) = some u := by
  intro j u hj
  have : j = 0 := by have := (List.getElem?_eq_some_iff.1 hj).1; simpa using this
  subst this
  simp at hj
  subst hj
  have e0 : (⟨w.heap.size, 0, none⟩ : Addr).add 0 = ⟨w.heap.size, 0, none⟩ := by simp [Addr.add]
  rw [e0, World.cell?_alloc_new]
  rfl
--if (*impl.byteWriter).putWords
set_option maxRecDepth 100000 in
set_option maxHeartbeats 2000000 in
theorem putWords_any (B g b cap : Nat) (l0 : List UInt8) (ls : List (List UInt8)) (w : World) (h : BWr w B g l0) (hw : WordsAt w b ls) (hn : ls.length ≤ 1099511627776) (hl : l0.length + jlen [32] ls ≤ 1099511627776) (hB : B ≤ w.heap.size) :
    Calls Tryd.prog 38 #[.pointer (some ⟨g, 0, none⟩), .slice (some ⟨b, 0, none⟩) ls.length cap] w fun e w' => e = .returned (.tuple #[]) ∧ BWr w' B g (l0 ++ jl [32] ls) ∧ Below B w w' ∧ StrKept w w' := by
  obtain ⟨i0, hi, hz0, hz1, hz2⟩ := info_parts info_u8w
  obtain ⟨n, hN⟩ : ∃ n, n = ls.length := ⟨_, rfl⟩
  have Hn := Lib.hid hN
  rw [← hN] at hn ⊢
  have Hl := Lib.hid hl
  have H0 : Hid (BWr w B g (l0 ++ jl [32] (ls.take 0))) := Lib.hid (by simpa [jl, Lib.join_nil] using h)
  have Hw := Lib.hid hw
  clear hN hl h hw
  go_enter Tryd.func38, Tryd.ntmps38
  go_wp2_with fail
  go_loopw [4, 5, 8] (fun _ _ i wr => ∃ k : Nat, k ≤ n ∧ i = .int .i64 k ∧ Hid (BWr wr B g (l0 ++ jl [32] (ls.take k))) ∧ Below B w wr ∧ Hid (StrKept w wr)) (fun _ _ i _ => n - (intOf i).toNat)
  case atStart => exact ⟨0, Nat.zero_le _, rfl, H0, Below.refl _ _, Lib.hid (StrKept.refl _)⟩
  case round =>
    clear H0
    obtain ⟨k, hk, rfl, hbw, hb2, hsk⟩ := hrel
    by_cases hlt : k < n
    · have hzl : k < ls.length := by rw [← Hn.out]; exact hlt
      have hc1 := (Hw.out.kept hsk.out).at hzl
      have hT := jl_take [32] ls k hzl
      have hFl := Nat.le_trans (Nat.add_le_add_left (jl_take_len [32] ls (k + 1)) l0.length) Hl.out
      obtain ⟨y, hy⟩ : ∃ y, y = ls[k]'hzl := ⟨_, rfl⟩
      rw [← hy] at hc1 hT
      have hBr := Nat.le_trans hB hb2.size
      clear hy
      by_cases hk0 : k = 0
      · subst hk0
        rw [if_pos rfl] at hT
        rw [hT] at hFl
        have e0 : l0 ++ jl [32] (ls.take 0) = l0 := by simp [jl, Lib.join_nil]
        rw [e0] at hbw
        have HT := Lib.hid hT
        have bA : Below wr.heap.size wr (wr.alloc (.cells #[.string ⟨y.toArray⟩] 9)) := (Below.refl _ _).alloc (Nat.le_refl _) _
        have HP := Lib.hid (putOne_any B g wr.heap.size l0 y _ (hbw.out.below bA) (WordsAt.fresh wr #[.string ⟨y.toArray⟩] [y] rfl) (by omega) (Nat.le_trans hBr bA.size))
        have HB := Lib.hid (And.intro (hb2.trans (bA.mono hBr)) (hsk.out.trans (StrKept.of_below bA)))
        clear hT hFl hbw hb2 hsk bA e0
        go_wp2_with fail
        refine HP.out.mono ?_
        rintro e w3 ⟨rfl, hv3, b3, s3⟩
        have B3 := HB.out.1.trans b3
        have S3 := Lib.hid (HB.out.2.trans s3)
        have hv3 := Lib.hid hv3
        clear b3 HP HB s3
        go_wp2_with fail
        go_roundw
        case rel => exact ⟨1, by omega, by go_num, by rw [show jl [32] (ls.take 1) = y from HT.out]; exact hv3, B3, S3⟩
        case measure => simp [intOf]; omega
      · rw [if_neg hk0] at hT
        rw [hT] at hFl
        have HT : Hid (l0 ++ jl [32] (ls.take (k + 1)) = (l0 ++ jl [32] (ls.take k) ++ [32]) ++ y) := Lib.hid (by rw [hT]; simp)
        have hFl2 : (l0 ++ jl [32] (ls.take k)).length + 1 + y.length ≤ 1099511627776 := by
          simp only [List.length_append, List.length_singleton] at hFl ⊢; omega
        have hq0 : (0 : Int) < (k : Int) := by omega
        clear hT hFl
        generalize (l0 ++ jl [32] (ls.take k)) = F at *
        obtain ⟨hBg, v, hg, hown⟩ := hbw.out
        obtain ⟨pv, cv, ev⟩ := own_shape hown
        subst ev
        have k0 := cellsB hg
        obtain ⟨q, hq⟩ : ∃ q, q = F.length := ⟨_, rfl⟩
        rw [← hq] at hFl2
        have Hq := Lib.hid hq
        rw [← hq] at hown k0 hg
        have bA : Below wr.heap.size wr (wr.alloc (.cells #[.int .u8 32] 5)) := (Below.refl _ _).alloc (Nat.le_refl _) _
        have HBW := Lib.hid (And.intro hBg (And.intro hg (And.intro hown (And.intro bA (And.intro hb2 hsk.out)))))
        clear hq hbw hg bA hb2 hsk
        go_wp2_with (at_builtin; refine wpList_append_own _ rfl _ _ 65 rfl B 5 i0 (.int .u8 0) 1 1 Tryd.underlying65 hi hz0 hz1 hz2 rfl (by decide) _ _ _ rfl (hown.alloc _) ⟨wr.heap.size, 0, none⟩ 1 1 [.int .u8 32] rfl rfl (one_blank _ _ _) ?c2 ?c3 ?c4 ?c5 ?_)
        case c2 => intro u hu; simp at hu; subst hu; rfl
        case c3 => unfold maxLen; omega
        case c4 => omega
        case c5 => simp; omega
        intro v' w1 hown' hgr _
        obtain ⟨p2, c2, e2⟩ := own_shape hown'
        subst e2
        obtain ⟨hBg, hg, hown0, bA, hb2, hsk⟩ := HBW.out
        have hown' : w1.ownsRow B 5 1 (.slice p2 (q + 1) c2) (q + 1) (Lib.byteCells (F ++ [32])) := by rw [Lib.byteCells_append]; exact hown'
        obtain ⟨g1, hbw3, b3, s3⟩ := BWr.next hBg ((bA.block _ (Array.getElem?_eq_some_iff.1 hg).1).trans hg) (own_below hown0 bA) hown' (by rw [List.length_append, Hq.out]; rfl) hgr (Nat.le_trans hBr bA.size)
        have c1 := cellsB g1
        have x1 := freeB g1 0
        obtain ⟨W2, hW2⟩ : ∃ W, W = w1.setCell ⟨g, 0, none⟩ (.slice p2 (q + 1) c2) := ⟨_, rfl⟩
        rw [← hW2] at hbw3 b3 s3
        have B3 := (hb2.trans (bA.mono hBr)).trans b3
        have S3 := (hsk.trans (StrKept.of_below bA)).trans s3
        have hBr2 := Nat.le_trans hB B3.size
        have bA2 : Below W2.heap.size W2 (W2.alloc (.cells #[.string ⟨y.toArray⟩] 9)) := (Below.refl _ _).alloc (Nat.le_refl _) _
        have HP := Lib.hid (putOne_any B g W2.heap.size (F ++ [32]) y _ (hbw3.below bA2) (WordsAt.fresh W2 #[.string ⟨y.toArray⟩] [y] rfl) (by rw [List.length_append, ← Hq.out]; simp; omega) (Nat.le_trans hBr2 bA2.size))
        have HB := Lib.hid (And.intro (B3.trans (bA2.mono hBr2)) (S3.trans (StrKept.of_below bA2)))
        have HW2 := Lib.hid hW2
        clear hown' hgr hown hown0 hg g1 b3 s3 k0 hc1 HBW hsk hb2 bA bA2 B3 S3 hbw3 hW2
        go_upto_region 5 with fail
        rw [← HW2.out]
        go_wp2_with fail
        refine HP.out.mono ?_
        rintro e w3 ⟨rfl, hv3, b3, s3⟩
        have B3 := HB.out.1.trans b3
        have S3 := Lib.hid (HB.out.2.trans s3)
        have hv3 := Lib.hid hv3
        clear b3 HP HB s3
        go_wp2_with fail
        go_roundw
        case rel => exact ⟨k + 1, by omega, by go_num, by rw [HT.out]; exact hv3, B3, S3⟩
        case measure => simp [intOf]; omega
    · obtain rfl : k = n := by omega
      have e : ls.take k = ls := List.take_of_length_le (by rw [Hn.out]; exact Nat.le_refl _)
      rw [e] at hbw
      clear e
      go_wp2_with fail
      exact bodyPost_end (v := .tuple #[]) (by first | rfl | simp [results, go_sem]) rfl ⟨rfl, hbw.out, hb2, hsk.out⟩
--fi
end Go.Proofs.YtmfammgdcdlceaaDoor
