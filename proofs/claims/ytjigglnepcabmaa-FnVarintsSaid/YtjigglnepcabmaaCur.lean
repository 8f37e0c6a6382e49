/-
  The cursor of the draws of the laws: what each step of it gives and leaves.
-/
import Derived.Test.YtjigglnepcabmaaRows
import Derived.WalkKit
import Derived.WalkLawsBesides
import Derived.WalkSpells
import Derived.OpenShut
import Derived.WalkSmall
import Derived.LoopTactic
import Derived.Deep.QuietTactic
import Derived.BigQuiet
import Derived.Lib.Hide
namespace Go.Proofs.Ytjigglnepcabmaa
open Go.RowKit Go.Extern.Stop Go.Stop Go.Extern

/-- A slice of bytes whose elements can be read. -/
def Bytes (w : World) (a : Option Addr) (len : Nat) : Prop :=
  len = 0 ∨ ∃ blk off, a = some ⟨blk, off, none⟩ ∧ ∀ j, j < len → ∃ v : Int, 0 ≤ v ∧ v ≤ 255 ∧ w.cell? ⟨blk, off + j, none⟩ = some (.int .u8 v)
/-- .. and lie below block number B. -/
def BytesB (B : Nat) (w : World) (a : Option Addr) (len : Nat) : Prop :=
  len = 0 ∨ ∃ blk off, blk < B ∧ a = some ⟨blk, off, none⟩ ∧ ∀ j, j < len → ∃ v : Int, 0 ≤ v ∧ v ≤ 255 ∧ w.cell? ⟨blk, off + j, none⟩ = some (.int .u8 v)
theorem BytesB.below {B : Nat} {w w' : World} {a : Option Addr} {len : Nat} (h : BytesB B w a len) (hb : Below B w w') : BytesB B w' a len := by
  rcases h with h | ⟨blk, off, h1, h2, h3⟩
  · exact .inl h
  · refine .inr ⟨blk, off, h1, h2, fun j hj => ?_⟩
    obtain ⟨v, a1, a2, a3⟩ := h3 j hj
    exact ⟨v, a1, a2, by rw [hb.cell (p := ⟨blk, off + j, none⟩) h1]; exact a3⟩

theorem BytesB.mono {B B' : Nat} {w : World} {a : Option Addr} {len : Nat} (h : BytesB B w a len) (hB : B ≤ B') : BytesB B' w a len := by
  rcases h with h | ⟨blk, off, h1, h2⟩
  · exact .inl h
  · exact .inr ⟨blk, off, by omega, h2⟩

/-- The cursor of a draw: block b holds its struct; what it reads lies below B. -/
def Cur (B b : Nat) (w : World) : Prop :=
  B ≤ b ∧ ∃ (a : Option Addr) (len cap : Nat) (i : Nat) (h : Int), w.heap[b]? = some (.cells #[.slice a len cap, .int .i64 i, .int .i64 h] 88 (0, 0)) ∧
    i ≤ len ∧ len ≤ 1048576 ∧ (Lit.int .i64 h).wf = true ∧ BytesB B w a len

theorem cell_of_block {w : World} {b : Nat} {c : Array Value} {t : TypeId} {fr : Nat × Nat} (h : w.heap[b]? = some (.cells c t fr)) (i : Nat) : w.cell? ⟨b, i, none⟩ = c[i]? := by
  simp [World.cell?, h]

theorem i64_and255 (n : Int) : bits .and .i64 n 255 = n % 256 := by
  have h255 : (BitVec.ofInt 64 255).toNat = 2 ^ 8 - 1 := by decide
  have key : (BitVec.ofInt 64 n &&& BitVec.ofInt 64 255).toNat = (n % ((2 ^ 64 : Nat) : Int)).toNat % 2 ^ 8 := by
    rw [BitVec.toNat_and, BitVec.toNat_ofInt, h255, Nat.and_two_pow_sub_one_eq_mod]
  show IntKind.i64.wrap ((BitVec.ofInt 64 n &&& BitVec.ofInt 64 255).toNat : Nat) = n % 256
  rw [key, IntKind.wrap_i64]
  omega

theorem set2 {w : World} {b : Nat} {x y z : Value} {t : TypeId} {fr : Nat × Nat} (h : w.heap[b]? = some (.cells #[x, y, z] t fr)) (v : Value) : (w.setCell ⟨b, 2, none⟩ v).heap[b]? = some (.cells #[x, y, v] t fr) := by
  simp [World.setCell, Array.getElem?_modify, h]
theorem set1 {w : World} {b : Nat} {x y z : Value} {t : TypeId} {fr : Nat × Nat} (h : w.heap[b]? = some (.cells #[x, y, z] t fr)) (v : Value) : (w.setCell ⟨b, 1, none⟩ v).heap[b]? = some (.cells #[x, v, z] t fr) := by
  simp [World.setCell, Array.getElem?_modify, h]
theorem grown_set {w0 w : World} {b : Nat} (h : w0.grownBy w (some b)) (i : Nat) (v : Value) : w0.grownBy (w.setCell ⟨b, i, none⟩ v) (some b) :=
  ⟨h.os, h.tape, h.output, by simp [World.setCell]; exact h.size, fun k hk hne => by rw [Below.heap_setCell _ _ _ _ (fun e => hne (by rw [e]))]; exact h.block k hk hne⟩
theorem grown_drewN {w0 w : World} {r : Option Nat} (h : w0.grownBy w r) (n : Nat) : w0.grownBy (w.drewN n) r := ⟨h.os, h.tape, h.output, h.size, h.block⟩
theorem grown_refl (w : World) (r : Option Nat) : w.grownBy w r := ⟨rfl, rfl, rfl, Nat.le_refl _, fun _ _ _ => rfl⟩
theorem grown_trans {a b c : World} {r : Option Nat} (h : a.grownBy b r) (k : b.grownBy c r) : a.grownBy c r :=
  ⟨k.os.trans h.os, k.tape.trans h.tape, k.output.trans h.output, Nat.le_trans h.size k.size, fun i hi hn => (k.block i (Nat.lt_of_lt_of_le hi h.size) hn).trans (h.block i hi hn)⟩
/-- What touches block b alone leaves all below B. -/
theorem grown_below {w w' : World} {B b : Nat} (h : w.grownBy w' (some b)) (hB : B ≤ b) (hs : B ≤ w.heap.size) : Below B w w' :=
  ⟨h.os, h.tape, h.output, h.size, fun k hk => h.block k (by omega) (fun e => by have := Option.some.inj e; omega)⟩

theorem Cur.turned {B b : Nat} {w : World} {a : Option Addr} {len cap i : Nat} {h : Int} (hB : B ≤ b) (hb : w.heap[b]? = some (.cells #[.slice a len cap, .int .i64 i, .int .i64 h] 88 (0, 0))) (hi : i ≤ len) (hl : len ≤ 1048576) (hy : BytesB B w a len) (E : Int) (n : Nat) :
    Cur B b ((w.setCell ⟨b, 2, none⟩ (.int .i64 (wrap64 E))).drewN n) ∧ w.grownBy ((w.setCell ⟨b, 2, none⟩ (.int .i64 (wrap64 E))).drewN n) (some b) := by
  have g : w.grownBy ((w.setCell ⟨b, 2, none⟩ (.int .i64 (wrap64 E))).drewN n) (some b) := grown_drewN (grown_set (grown_refl _ _) _ _) _
  have hs : b < w.heap.size := (Array.getElem?_eq_some_iff.1 hb).1
  exact ⟨⟨hB, a, len, cap, i, wrap64 E, set2 hb _, hi, hl, wrap64_wf E, hy.below (grown_below g hB (by omega))⟩, g⟩
theorem Cur.moved {B b : Nat} {w : World} {a : Option Addr} {len cap i : Nat} {h : Int} (hB : B ≤ b) (hb : w.heap[b]? = some (.cells #[.slice a len cap, .int .i64 i, .int .i64 h] 88 (0, 0))) (hi : i < len) (hl : len ≤ 1048576) (hy : BytesB B w a len) (E : Int) (n : Nat) :
    Cur B b (((w.setCell ⟨b, 2, none⟩ (.int .i64 (wrap64 E))).drewN n).setCell ⟨b, 1, none⟩ (.int .i64 ((i : Int) + 1))) ∧ w.grownBy (((w.setCell ⟨b, 2, none⟩ (.int .i64 (wrap64 E))).drewN n).setCell ⟨b, 1, none⟩ (.int .i64 ((i : Int) + 1))) (some b) := by
  have g : w.grownBy (((w.setCell ⟨b, 2, none⟩ (.int .i64 (wrap64 E))).drewN n).setCell ⟨b, 1, none⟩ (.int .i64 ((i : Int) + 1))) (some b) := grown_set (grown_drewN (grown_set (grown_refl _ _) _ _) _) _ _
  have hs : b < w.heap.size := (Array.getElem?_eq_some_iff.1 hb).1
  exact ⟨⟨hB, a, len, cap, i + 1, wrap64 E, set1 (w := (w.setCell ⟨b, 2, none⟩ (.int .i64 (wrap64 E))).drewN n) (set2 hb _) _, by omega, hl, wrap64_wf E, hy.below (grown_below g hB (by omega))⟩, g⟩

set_option maxRecDepth 100000 in
theorem l1Byte_any (B b : Nat) (w : World) (hC : Cur B b w) :
    Calls Try.prog 101 #[.pointer (some ⟨b, 0, none⟩)] w fun e w' => (∃ x : Int, 0 ≤ x ∧ x ≤ 255 ∧ e = .returned (.int .i64 x)) ∧ Cur B b w' ∧ w.grownBy w' (some b) := by
  obtain ⟨hB, a, len, cap, i, h, hb, hi, hlen, hw, hbytes⟩ := hC
  have c0 : w.cell? ⟨b, 0, none⟩ = some (.slice a len cap) := by rw [cell_of_block hb]; rfl
  have c1 : w.cell? ⟨b, 1, none⟩ = some (.int .i64 i) := by rw [cell_of_block hb]; rfl
  have c2 : w.cell? ⟨b, 2, none⟩ = some (.int .i64 h) := by rw [cell_of_block hb]; rfl
  have f1 : w.frozen? ⟨b, 1, none⟩ = false := by simp [World.frozen?, hb]
  have f2 : w.frozen? ⟨b, 2, none⟩ = false := by simp [World.frozen?, hb]
  have hH := Lib.hid hb
  have hand := i64_and255
  clear hb
  by_cases hlt : i < len
  · rcases hbytes with h0 | ⟨blk, off, hblk, rfl, hv⟩
    · omega
    obtain ⟨v, v0, v1, v2⟩ := hv i hlt
    go_enter Try.func101, Try.ntmps101
    go_wp2_with fail
    go_quiet (fail)
    go_wp2_with fail
    go_quiet (fail)
    go_wp2_with fail
    go_quiet (fail)
    go_wp2_with fail
    go_ret
    exact ⟨⟨_, by omega, by omega, rfl⟩, Cur.moved hB hH.out hlt hlen (.inr ⟨blk, off, hblk, rfl, hv⟩) _ _⟩
  · go_enter Try.func101, Try.ntmps101
    go_wp2_with fail
    go_quiet (fail)
    go_wp2_with fail
    go_quiet (fail)
    go_wp2_with fail
    go_ret
    refine ⟨⟨_, by omega, by omega, rfl⟩, ?_⟩
    rw [World.drewN_drewN]
    exact Cur.turned hB hH.out hi hlen hbytes _ _

theorem l1Below_any (B b : Nat) (n : Int) (w : World) (hC : Cur B b w) (hn : n ≤ 16777216) :
    Calls Try.prog 62 #[.pointer (some ⟨b, 0, none⟩), .int .i64 n] w fun e w' => (∃ x : Int, 0 ≤ x ∧ (x < n ∨ x = 0) ∧ x ≤ 16777215 ∧ e = .returned (.int .i64 x)) ∧ Cur B b w' ∧ w.grownBy w' (some b) := by
  by_cases h0 : n ≤ 0
  · go_enter Try.func62, Try.ntmps62
    go_wp2
    go_ret
    exact ⟨⟨0, by omega, .inr rfl, by omega, rfl⟩, hC, grown_refl _ _⟩
  · by_cases h1 : n ≤ 256
    · go_enter Try.func62, Try.ntmps62
      go_wp2_with fail
      refine (l1Byte_any B b _ hC).mono ?_
      rintro e w1 ⟨⟨x, x0, x1, rfl⟩, hC1, g1⟩
      have m0 := Int.emod_nonneg x (show n ≠ 0 by omega)
      have m1 := Int.emod_lt_of_pos x (show 0 < n by omega)
      go_wp2_with fail
      go_ret
      exact ⟨⟨x % n, by omega, by omega, by omega, rfl⟩, hC1, g1⟩
    · go_enter Try.func62, Try.ntmps62
      go_wp2_with fail
      refine (l1Byte_any B b _ hC).mono ?_
      rintro e w1 ⟨⟨x, x0, x1, rfl⟩, hC1, g1⟩
      go_wp2_with fail
      refine (l1Byte_any B b _ hC1).mono ?_
      rintro e w2 ⟨⟨y, y0, y1, rfl⟩, hC2, g2⟩
      go_wp2_with fail
      refine (l1Byte_any B b _ hC2).mono ?_
      rintro e w3 ⟨⟨z, z0, z1, rfl⟩, hC3, g3⟩
      have m0 := Int.emod_nonneg (x * 65536 + y * 256 + z) (show n ≠ 0 by omega)
      have m1 := Int.emod_lt_of_pos (x * 65536 + y * 256 + z) (show 0 < n by omega)
      go_wp2_with fail
      go_ret
      exact ⟨⟨(x * 65536 + y * 256 + z) % n, by omega, by omega, by omega, rfl⟩, hC3, grown_trans (grown_trans g1 g2) g3⟩

theorem l1Once_any (B b : Nat) (n : Int) (w : World) (hC : Cur B b w) (hn : n ≤ 16777216) :
    Calls Try.prog 67 #[.pointer (some ⟨b, 0, none⟩), .int .i64 n] w fun e w' => (∃ x : Bool, e = .returned (.bool x)) ∧ Cur B b w' ∧ w.grownBy w' (some b) := by
  go_enter Try.func67, Try.ntmps67
  go_wp2_with fail
  refine (l1Below_any B b _ _ hC hn).mono ?_
  rintro e w1 ⟨⟨x, x0, x1, x2, rfl⟩, hC1, g1⟩
  go_wp2_with fail
  go_ret
  exact ⟨⟨_, rfl⟩, hC1, g1⟩

theorem l1Int_any (B b : Nat) (k off len cap : Nat) (zs : List Int) (w : World) (hC : Cur B b w) (hk : k ≠ b) (hks : k < w.heap.size) (hl : 1 ≤ len) (hl2 : len ≤ 16777216) (hz : zs.length = len) (hc : ∀ j (hj : j < zs.length), w.cell? ⟨k, off + j, none⟩ = some (.int .i64 zs[j])) :
    Calls Try.prog 70 #[.pointer (some ⟨b, 0, none⟩), .slice (some ⟨k, off, none⟩) len cap] w fun e w' => (∃ x : Int, x ∈ zs ∧ e = .returned (.int .i64 x)) ∧ Cur B b w' ∧ w.grownBy w' (some b) := by
  go_enter Try.func70, Try.ntmps70
  go_wp2_with fail
  refine (l1Below_any B b _ _ hC (by omega)).mono ?_
  rintro e w1 ⟨⟨x, x0, x1, x2, rfl⟩, hC1, g1⟩
  obtain ⟨m, rfl⟩ := Int.eq_ofNat_of_zero_le x0
  have hm : m < zs.length := by omega
  have hcell : w1.cell? ⟨k, off + m, none⟩ = some (.int .i64 zs[m]) := by
    rw [World.cell?_of_block (w := w) (a := ⟨k, off + m, none⟩) (g1.block k hks (fun e => hk (Option.some.inj e)))]
    exact hc m hm
  have hmem : Hid (zs[m] ∈ zs) := Lib.hid (List.getElem_mem hm)
  have hml : m < len := by omega
  obtain ⟨y, hy⟩ : ∃ y, Hid (y = zs[m]) := ⟨_, Lib.hid rfl⟩
  rw [← hy.out] at hcell hmem
  clear hc hy hz hm
  go_wp2
  go_ret
  exact ⟨⟨y, hmem.out, rfl⟩, hC1, g1⟩

theorem l1Str_any (B b : Nat) (k off len cap : Nat) (zs : List ByteArray) (w : World) (hC : Cur B b w) (hk : k ≠ b) (hks : k < w.heap.size) (hl : 1 ≤ len) (hl2 : len ≤ 16777216) (hz : zs.length = len) (hc : ∀ j (hj : j < zs.length), w.cell? ⟨k, off + j, none⟩ = some (.string zs[j])) :
    Calls Try.prog 80 #[.pointer (some ⟨b, 0, none⟩), .slice (some ⟨k, off, none⟩) len cap] w fun e w' => (∃ x : ByteArray, x ∈ zs ∧ e = .returned (.string x)) ∧ Cur B b w' ∧ w.grownBy w' (some b) := by
  go_enter Try.func80, Try.ntmps80
  go_wp2_with fail
  refine (l1Below_any B b _ _ hC (by omega)).mono ?_
  rintro e w1 ⟨⟨x, x0, x1, x2, rfl⟩, hC1, g1⟩
  obtain ⟨m, rfl⟩ := Int.eq_ofNat_of_zero_le x0
  have hm : m < zs.length := by omega
  have hcell : w1.cell? ⟨k, off + m, none⟩ = some (.string zs[m]) := by
    rw [World.cell?_of_block (w := w) (a := ⟨k, off + m, none⟩) (g1.block k hks (fun e => hk (Option.some.inj e)))]
    exact hc m hm
  have hmem : Hid (zs[m] ∈ zs) := Lib.hid (List.getElem_mem hm)
  have hml : m < len := by omega
  obtain ⟨y, hy⟩ : ∃ y, Hid (y = zs[m]) := ⟨_, Lib.hid rfl⟩
  rw [← hy.out] at hcell hmem
  clear hc hy hz hm
  go_wp2
  go_ret
  exact ⟨⟨y, hmem.out, rfl⟩, hC1, g1⟩

theorem i64_and30 (n : Int) : bits .and .i64 n 1073741823 = n % 1073741824 := by
  have h30 : (BitVec.ofInt 64 1073741823).toNat = 2 ^ 30 - 1 := by decide
  have key : (BitVec.ofInt 64 n &&& BitVec.ofInt 64 1073741823).toNat = (n % ((2 ^ 64 : Nat) : Int)).toNat % 2 ^ 30 := by
    rw [BitVec.toNat_and, BitVec.toNat_ofInt, h30, Nat.and_two_pow_sub_one_eq_mod]
  show IntKind.i64.wrap ((BitVec.ofInt 64 n &&& BitVec.ofInt 64 1073741823).toNat : Nat) = n % 1073741824
  rw [key, IntKind.wrap_i64]
  omega

theorem Cur.made {B : Nat} {a : Option Addr} {len cap : Nat} {w : World} (hB : B ≤ w.heap.size) (hl : len ≤ 1048576) (hy : BytesB B w a len) {z : Int} (z0 : 0 ≤ z) (z1 : z ≤ 1073741823) :
    Cur B w.heap.size (w.alloc (.cells #[.slice a len cap, .int .i64 0, .int .i64 z] 88)) ∧ Below w.heap.size w (w.alloc (.cells #[.slice a len cap, .int .i64 0, .int .i64 z] 88)) ∧ (w.alloc (.cells #[.slice a len cap, .int .i64 0, .int .i64 z] 88)).heap.size = w.heap.size + 1 := by
  have hb : Below w.heap.size w (w.alloc (.cells #[.slice a len cap, .int .i64 0, .int .i64 z] 88)) := (Below.refl _ _).alloc (Nat.le_refl _) _
  refine ⟨⟨hB, a, len, cap, 0, z, ?_, Nat.zero_le _, hl, WalkArith.wf_i64 (by omega), hy.below (hb.mono hB)⟩, hb, by simp⟩
  show (w.heap.push _)[w.heap.size]? = _
  simp

theorem Cur.lt {B b : Nat} {w : World} (h : Cur B b w) : b < w.heap.size := by
  obtain ⟨_, a, len, cap, i, hh, hb, _⟩ := h
  exact (Array.getElem?_eq_some_iff.1 hb).1
theorem Cur.le {B b : Nat} {w : World} (h : Cur B b w) : B ≤ b := h.1
/-- A cursor whose block is as it was, what lies below B with it, is a cursor still. -/
theorem Cur.keep {B b : Nat} {w w' : World} (h : Cur B b w) (hb : w'.heap[b]? = w.heap[b]?) (hB : Below B w w') : Cur B b w' := by
  obtain ⟨h1, a, len, cap, i, hh, h2, h3, h4, h5, h6⟩ := h
  exact ⟨h1, a, len, cap, i, hh, by rw [hb]; exact h2, h3, h4, h5, h6.below hB⟩
theorem Cur.alloc {B b : Nat} {w : World} (h : Cur B b w) (o : Obj) : Cur B b (w.alloc o) :=
  h.keep (Below.heap_alloc w o b h.lt) ((Below.refl _ _).alloc (Nat.le_trans h.le (Nat.le_of_lt h.lt)) _)
theorem Cur.below {B b : Nat} {w w' : World} (h : Cur B b w) (hB : Below w.heap.size w w') : Cur B b w' :=
  h.keep (hB.block b h.lt) (hB.mono (Nat.le_trans h.le (Nat.le_of_lt h.lt)))
theorem grown_alloc {w0 w : World} {r : Option Nat} (h : w0.grownBy w r) (o : Obj) : w0.grownBy (w.alloc o) r := grown_trans h (World.grownBy_alloc w o r)
theorem grown_of_below {w w' : World} {r : Option Nat} (h : Below w.heap.size w w') : w.grownBy w' r := ⟨h.os, h.tape, h.output, h.size, fun k hk _ => h.block k hk⟩

set_option maxRecDepth 100000 in
theorem l1New_any (B : Nat) (a : Option Addr) (len cap : Nat) (w : World) (hl : len ≤ 1048576) (hB : B ≤ w.heap.size) (hy : BytesB B w a len) :
    Calls Try.prog 60 #[.slice a len cap] w fun e w' => e = .returned (.pointer (some ⟨w.heap.size, 0, none⟩)) ∧ Cur B w.heap.size w' ∧ Below w.heap.size w w' ∧ w'.heap.size = w.heap.size + 1 := by
  have hand := i64_and30
  go_enter Try.func60, Try.ntmps60
  go_wp2_with fail
  go_loop [3, 4] (fun h i => ∃ (k : Nat) (z : Int), k ≤ len ∧ i = .int .i64 k ∧ h = .int .i64 z ∧ 0 ≤ z ∧ z ≤ 1073741823) (fun _ i => len - (intOf i).toNat)
  case atStart => exact ⟨0, _, Nat.zero_le _, rfl, rfl, by omega, by omega⟩
  case round =>
    obtain ⟨k, z, hk, rfl, rfl, z0, z1⟩ := hrel
    by_cases hlt : k < len
    · by_cases h4 : k < 4000
      · rcases hy with h0 | ⟨blk, off, hblk, rfl, hv⟩
        · omega
        obtain ⟨v, v0, v1, v2⟩ := hv k hlt
        clear hv
        go_wp2_with fail
        go_round
        case rel => exact ⟨k + 1, _, by omega, by go_num, rfl, by omega, by omega⟩
        case measure => simp [intOf]; omega
      · have h5 : decide ((k : Int) < 4000) = false := by simp; omega
        go_wp2_with fail

        go_ret
        exact ⟨rfl, Cur.made hB hl hy z0 z1⟩
    · have h5 : decide ((k : Int) < (len : Int)) = false := by simp; omega
      go_wp2_with fail

      go_ret
      exact ⟨rfl, Cur.made hB hl hy z0 z1⟩

theorem cells_lit (w : World) (cs : Array Value) (t : TypeId) {α : Type} (zs : List α) (f : α → Value) (h : cs = (zs.map f).toArray) : ∀ j (hj : j < zs.length), (w.alloc (.cells cs t)).cell? ⟨w.heap.size, 0 + j, none⟩ = some (f zs[j]) := by
  intro j hj
  rw [World.cell?_alloc_new, h]
  simp [hj]

end Go.Proofs.Ytjigglnepcabmaa
