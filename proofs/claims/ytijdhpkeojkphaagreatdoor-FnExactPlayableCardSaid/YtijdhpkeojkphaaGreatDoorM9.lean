/-
  Several texts in one: Contracts of the library, of the kit, at this dump: slices_Sort_int, slices_Sort_int_none. Sorted, the program's, by the library's contract. A whole struct stored into its box: the cells one by one. Rules made ready, the program's side. Missing (the model's), FullDeck (both sides). Cards that match a pattern: the program's side. IsRed by contract, both sides; a card that may lie on another.
-/
import Derived.Shelf.Small.Bits
import Derived.Shelf.Small.Wraps
import Derived.Shelf.Strconv.Itoa0
import Derived.Shelf.Sort.Plain
import Derived.Ground.Names2Prog
import Derived.Shelf.Slices.SearchI
import Derived.Shelf.Slices.In.SortNone
import Derived.Test.YtijdhpkeojkphaaGreatDoorProg
import Derived.Test.YtijdhpkeojkphaaGreatDoorM8
import Derived.Sort.OwnSortedInts
import Derived.Lib.OwnBridge
import Derived.Test.YtijdhpkeojkphaaGreatDoorM4
import Derived.Laws.Rows
import Derived.Test.YtijdhpkeojkphaaGreatDoorM7
import Derived.ArgAppend
namespace Go.Proofs
open Go.Shelf
def Tryz.lays189_ren : Go.Shelf.Ren := ⟨fun | 189 => 85 | 125 => 101 | 257 => 100 | 128 => 119 | 129 => 120 | 294 => 110 | 295 => 111 | 296 => 112 | 297 => 113 | 298 => 114 | 299 => 115 | 216 => 116 | 300 => 117 | 301 => 118 | 328 => 141 | 329 => 142 | 330 => 143 | 331 => 144 | 332 => 145 | 215 => 146 | 343 => 150 | n => n, fun | 28 => 22 | 3 => 3 | 46 => 115 | 0 => 0 | 51 => 125 | 53 => 127 | 4 => 4 | 183 => 118 | 182 => 117 | 131 => 122 | 5 => 5 | 9 => 9 | 218 => 141 | 222 => 145 | 228 => 149 | 229 => 150 | n => n, fun | n => n⟩
theorem Tryz.lays189 : Go.Proofs.Lays.n189 Tryz.prog Tryz.lays189_ren := {
  mixed := by kernel_rfl
  f125 := Tryz.func101.trans (congrArg some (by kernel_rfl))
  f128 := Tryz.func119.trans (congrArg some (by kernel_rfl))
  f129 := Tryz.func120.trans (congrArg some (by kernel_rfl))
  f189 := Tryz.func85.trans (congrArg some (by kernel_rfl))
  f215 := Tryz.func146.trans (congrArg some (by kernel_rfl))
  f216 := Tryz.func116.trans (congrArg some (by kernel_rfl))
  f257 := Tryz.func100.trans (congrArg some (by kernel_rfl))
  f294 := Tryz.func110.trans (congrArg some (by kernel_rfl))
  f295 := Tryz.func111.trans (congrArg some (by kernel_rfl))
  f296 := Tryz.func112.trans (congrArg some (by kernel_rfl))
  f297 := Tryz.func113.trans (congrArg some (by kernel_rfl))
  f298 := Tryz.func114.trans (congrArg some (by kernel_rfl))
  f299 := Tryz.func115.trans (congrArg some (by kernel_rfl))
  f300 := Tryz.func117.trans (congrArg some (by kernel_rfl))
  f301 := Tryz.func118.trans (congrArg some (by kernel_rfl))
  f328 := Tryz.func141.trans (congrArg some (by kernel_rfl))
  f329 := Tryz.func142.trans (congrArg some (by kernel_rfl))
  f330 := Tryz.func143.trans (congrArg some (by kernel_rfl))
  f331 := Tryz.func144.trans (congrArg some (by kernel_rfl))
  f332 := Tryz.func145.trans (congrArg some (by kernel_rfl))
  f343 := Tryz.func150.trans (congrArg some (by kernel_rfl))
  t0 := Tryz.underlying0
  a0 := Tryz.isAgg0
  z0 := Tryz.sizeOf0
  v0 := Tryz.zeroValue0
  t3 := Tryz.underlying3
  a3 := Tryz.isAgg3
  z3 := Tryz.sizeOf3
  v3 := Tryz.zeroValue3
  t4 := Tryz.underlying4
  a4 := Tryz.isAgg4
  z4 := Tryz.sizeOf4
  v4 := Tryz.zeroValue4
  t5 := Tryz.underlying5
  a5 := Tryz.isAgg5
  z5 := Tryz.sizeOf5
  v5 := Tryz.zeroValue5
  t9 := Tryz.underlying9
  a9 := Tryz.isAgg9
  z9 := Tryz.sizeOf9
  v9 := Tryz.zeroValue9
  t28 := Tryz.underlying22
  a28 := Tryz.isAgg22
  z28 := Tryz.sizeOf22
  v28 := Tryz.zeroValue22
  t46 := Tryz.underlying115
  a46 := Tryz.isAgg115
  z46 := Tryz.sizeOf115
  v46 := Tryz.zeroValue115
  t51 := Tryz.underlying125
  a51 := Tryz.isAgg125
  z51 := Tryz.sizeOf125
  v51 := Tryz.zeroValue125
  t53 := Tryz.underlying127
  a53 := Tryz.isAgg127
  z53 := Tryz.sizeOf127
  v53 := Tryz.zeroValue127
  t131 := Tryz.underlying122
  a131 := Tryz.isAgg122
  z131 := Tryz.sizeOf122
  v131 := Tryz.zeroValue122
  t182 := Tryz.underlying117
  a182 := Tryz.isAgg117
  z182 := Tryz.sizeOf117
  v182 := Tryz.zeroValue117
  t183 := Tryz.underlying118
  a183 := Tryz.isAgg118
  z183 := Tryz.sizeOf118
  v183 := Tryz.zeroValue118
  t218 := Tryz.underlying141
  a218 := Tryz.isAgg141
  z218 := Tryz.sizeOf141
  v218 := Tryz.zeroValue141
  t222 := Tryz.underlying145
  a222 := Tryz.isAgg145
  z222 := Tryz.sizeOf145
  v222 := Tryz.zeroValue145
  t228 := Tryz.underlying149
  a228 := Tryz.isAgg149
  z228 := Tryz.sizeOf149
  v228 := Tryz.zeroValue149
  t229 := Tryz.underlying150
  a229 := Tryz.isAgg150
  z229 := Tryz.sizeOf150
  v229 := Tryz.zeroValue150 }
open Go.Sort Go.RowKit in
theorem Tryz.slices_Sort_int (blk off cap : Nat) (zs : List Int) (w : World) (hH : Holds (Value.int .i64) w blk off zs.toArray) (hblk : blk < w.heap.size) (hsz : zs.length < 4611686018427387904) :
    Calls Tryz.prog 85 #[.slice (some ⟨blk, off, none⟩) zs.length cap] w fun e w' =>
      e = .returned (.tuple #[]) ∧ ∃ n os, w' = grow (putRow (Value.int .i64) (Sort.ahead w n) blk off (zs.mergeSort fun x y => decide (x ≤ y)).toArray) os := Any.slices_Sort_int Tryz.lays189 blk off cap zs w hH hblk hsz
open Go.RowKit Go.Sort in
theorem Tryz.slices_Sort_int_none (p : Option Addr) (cap : Nat) (w : World) :
    Calls Tryz.prog 85 #[.slice p 0 cap] w fun e w' => e = .returned (.tuple #[]) ∧ w' = w := Any.slices_Sort_int_none Tryz.lays189 p cap w
end Go.Proofs
namespace Go.Proofs.YtijdhpkeojkphaaGreatDoor
open Go.RowKit Go.Sort

def sortI (zs : List Int) : List Int := zs.mergeSort fun x y => decide (x ≤ y)
theorem sortI_len (zs : List Int) : (sortI zs).length = zs.length := List.length_mergeSort zs
theorem sortI_perm (zs : List Int) : (sortI zs).Perm zs := List.mergeSort_perm zs _
theorem sortI_wf {k : IntKind} (zs : List Int) (h : ∀ x ∈ zs, (Lit.int k x).wf = true) : ∀ x ∈ sortI zs, (Lit.int k x).wf = true := fun x hx => h x ((sortI_perm zs).mem_iff.1 hx)
theorem sortI_sorted (zs : List Int) : (sortI zs).Pairwise (fun a b => a ≤ b) := by
  have := List.pairwise_mergeSort (le := fun x y : Int => decide (x ≤ y)) (fun _ _ _ h1 h2 => by simp at *; omega) (fun _ _ => by simp; omega) zs
  exact this.imp (fun h => by simpa using h)
theorem sortI_unique {zs S : List Int} (hp : S.Perm zs) (hs : S.Pairwise (fun a b => a ≤ b)) : S = sortI zs :=
  List.Perm.eq_of_pairwise (fun _ _ _ _ h1 h2 => Int.le_antisymm h1 h2) hs (sortI_sorted zs) (hp.trans (sortI_perm zs).symm)

theorem sort_own (B : Nat) (v : Value) (zs : List Int) (w : World) (hown : w.ownsRow B 3 1 v zs.length (zs.map (Value.int .i64))) (hB : B ≤ w.heap.size) (hl : zs.length ≤ 1099511627776) :
    Calls Tryz.prog 85 #[v] w fun e w' => e = .returned (.tuple #[]) ∧ w'.ownsRow B 3 1 v zs.length ((sortI zs).map (Value.int .i64)) ∧ Below B w w' := by
  by_cases hnn : v = .slice none 0 0
  · subst hnn
    have h0 : zs.length = 0 := by
      rcases hown.2 with ⟨_, h0⟩ | ⟨g, cap, cur, hv, _⟩
      · exact h0
      · cases hv
    have hz : zs = [] := List.length_eq_zero_iff.1 h0
    subst hz
    refine (Tryz.slices_Sort_int_none none 0 w).mono ?_
    rintro e w' ⟨rfl, rfl⟩
    exact ⟨rfl, by have e : sortI [] = [] := by simp [sortI]
                   rw [e]; exact hown, Below.refl _ _⟩
  · obtain ⟨g0, cap0, hv, hbg, hgl, hncap, hcm, hlen, hH⟩ := Lib.holds_of_ownsRow hown hnn
    rcases hown.2 with ⟨h0, _⟩ | ⟨g', cap', cur, hv', hbase, hb, h1, h2, h3, h4⟩
    · exact absurd h0 hnn
    subst hv
    simp only [Value.slice.injEq, Option.some.injEq, Addr.mk.injEq, and_true, true_and] at hv'
    obtain ⟨rfl, rfl⟩ := hv'
    refine (Tryz.slices_Sort_int g0 0 cap0 zs w hH hgl (by omega)).mono ?_
    rintro e w' ⟨rfl, nn, os, rfl⟩
    exact ⟨rfl, ownsRow_sortedI (n := nn) (os := os) (ts := sortI zs) (sortI_len zs) hbase hb h1 h2 h3, (Below.refl _ _).grown (grownBy_sortedI _) hB (fun j hj => by cases hj; exact hbase)⟩
set_option maxRecDepth 100000 in
theorem sorted_own (v : Value) (zs : List Int) (b : Nat) (w : World) (h : RdAt .i64 w v zs b) (hl : zs.length ≤ 1099511627776) :
    Calls Tryz.prog 66 #[v] w fun e w' => ∃ v', e = .returned v' ∧ w'.ownsRow w.heap.size 3 1 v' (sortI zs).length ((sortI zs).map (Value.int .i64)) ∧ Below w.heap.size w w' := by
  have HL := Lib.hid (sortI_len zs)
  go_enter Tryz.func66, Tryz.ntmps66
  go_wp2_with fail
  refine (copyInts_own v zs b w h hl).mono ?_
  rintro e w1 ⟨v1, rfl, hown, hb1⟩
  go_wp2_with fail
  refine (sort_own w.heap.size v1 zs w1 hown hb1.size hl).mono ?_
  rintro e w2 ⟨rfl, hown2, hb2⟩
  have hb3 := hb1.trans hb2
  clear hown hb1 hb2
  go_wp2_with fail
  go_ret
  exact ⟨_, rfl, by rw [HL.out]; exact hown2, hb3⟩
theorem sorted_any (v : Value) (zs : List Int) (b : Nat) (w : World) (h : RdAt .i64 w v zs b) (hl : zs.length ≤ 1099511627776) :
    Calls Tryz.prog 66 #[v] w fun e w' => ∃ v' b', e = .returned v' ∧ w.heap.size ≤ b' ∧ WrAt .i64 w' v' (sortI zs) b' ∧ Below w.heap.size w w' := by
  refine (sorted_own v zs b w h hl).mono ?_
  rintro e w' ⟨v', rfl, hown, hb⟩
  obtain ⟨b', hb', hw'⟩ := own_wr hown (sortI_wf zs h.wf)
  exact ⟨v', b', rfl, hb', hw', hb⟩
end Go.Proofs.YtijdhpkeojkphaaGreatDoor
namespace Go.Proofs.YtijdhpkeojkphaaGreatDoor
open Go.RowKit

/-- The world behind the stores of the values, one cell after the other. -/
def setAll (w : World) (g : Nat) (i : Nat) : List Value → World
  | [] => w
  | v :: vs => setAll (w.setCell ⟨g, i, none⟩ v) g (i + 1) vs
theorem setAll_size (g : Nat) (vs : List Value) : ∀ (w : World) (i : Nat), (setAll w g i vs).heap.size = w.heap.size := by
  induction vs with
  | nil => intro w i; rfl
  | cons v vs ih => intro w i; show (setAll _ g (i + 1) vs).heap.size = _; rw [ih]; simp [World.setCell]
theorem setAll_other (g : Nat) (vs : List Value) (k : Nat) (hk : k ≠ g) : ∀ (w : World) (i : Nat), (setAll w g i vs).heap[k]? = w.heap[k]? := by
  induction vs with
  | nil => intro w i; rfl
  | cons v vs ih => intro w i; show (setAll _ g (i + 1) vs).heap[k]? = _; rw [ih, Below.heap_setCell _ _ _ _ hk]
theorem setAll_below {B g : Nat} {w0 : World} (hg : B ≤ g) (vs : List Value) : ∀ (w : World) (i : Nat), Below B w0 w → Below B w0 (setAll w g i vs) := by
  induction vs with
  | nil => intro w i h; exact h
  | cons v vs ih => intro w i h; exact ih _ _ (h.setCell hg v)
theorem setAll_heap (g : Nat) (vs : List Value) : ∀ (w : World) (i : Nat) (cs : List Value) (t : TypeId) (fr : Nat × Nat), w.heap[g]? = some (.cells ⟨cs⟩ t fr) → i + vs.length = cs.length → (setAll w g i vs).heap[g]? = some (.cells ⟨cs.take i ++ vs⟩ t fr) := by
  induction vs with
  | nil => intro w i cs t fr h hl; simp at hl; subst hl; simpa [setAll] using h
  | cons v vs ih =>
    intro w i cs t fr h hl
    simp at hl
    have h2 : (w.setCell ⟨g, i, none⟩ v).heap[g]? = some (.cells ⟨cs.set i v⟩ t fr) := by simp [World.setCell, Array.getElem?_modify, h]
    have := ih _ (i + 1) (cs.set i v) t fr h2 (by simp; omega)
    show (setAll _ g (i + 1) vs).heap[g]? = _
    rw [this]
    have hi : i < cs.length := by omega
    rw [List.take_succ_eq_append_getElem (by simpa using hi)]
    simp [List.take_set_of_le]
theorem setAll_full {w : World} {g : Nat} {c : Array Value} {t : TypeId} {fr : Nat × Nat} (h : w.heap[g]? = some (.cells c t fr)) (vs : List Value) (hl : vs.length = c.size) : (setAll w g 0 vs).heap[g]? = some (.cells ⟨vs⟩ t fr) := by
  obtain ⟨cs⟩ := c
  have := setAll_heap g vs w 0 cs t fr h (by simpa using hl)
  simpa using this
theorem results_row_tmp {P : Program} {fn : Func} {p u : Tmp} {ty : TypeId} (h : fn.results = #[.cell p ty, .tmp u]) (tmps : Array Value) (w : World) (g : Nat) (t : TypeId) (cs : Array Value) (fr : Nat × Nat) (d : TypeDesc)
    (hp : tmps.getD p undef = .pointer (some ⟨g, 0, none⟩)) (hg : w.heap[g]? = some (.cells cs t fr))
    (hu : P.underlying ty = some d) (hd : (match d with | .struct _ | .array _ _ => true | _ => false) = true) (hi : (P.info? ty).map (·.size) = some cs.size) :
    (results fn tmps).run P w = .ok (.tuple #[.agg cs, tmps.getD u undef]) w := by
  have hp' : tmps[p]?.getD undef = .pointer (some ⟨g, 0, none⟩) := by simpa using hp
  simp [results, h, hp', asAddr, run_loadVar_row w g t ty cs fr d hg hu hd hi]
theorem two_boxesR {w w1 : World} {o1 o2 : Obj} (bb : Below ((w.alloc o1).alloc o2).heap.size ((w.alloc o1).alloc o2) w1) : Below w.heap.size w w1 ∧ w1.heap[w.heap.size]? = some o1 ∧ w1.heap[w.heap.size + 1]? = some o2 := by
  refine ⟨(((Below.refl w.heap.size w).alloc (Nat.le_refl _) o1).alloc (by simp) o2).trans (bb.mono (by simp; omega)), (bb.block _ (by simp; omega)).trans ?_, (bb.block _ (by simp)).trans ?_⟩
  · show ((w.heap.push o1).push o2)[w.heap.size]? = _
    rw [Array.getElem?_push, if_neg (by simp)]; simp
  · show ((w.heap.push o1).push o2)[w.heap.size + 1]? = _
    rw [Array.getElem?_push, if_pos (by simp)]
theorem one_boxR {w w1 : World} {o1 : Obj} (bb : Below (w.alloc o1).heap.size (w.alloc o1) w1) : Below w.heap.size w w1 ∧ w1.heap[w.heap.size]? = some o1 := by
  refine ⟨((Below.refl w.heap.size w).alloc (Nat.le_refl _) o1).trans (bb.mono (by simp)), (bb.block _ (by simp)).trans ?_⟩
  show (w.heap.push o1)[w.heap.size]? = _
  rw [Array.getElem?_push, if_pos (by simp)]

end Go.Proofs.YtijdhpkeojkphaaGreatDoor
namespace Go.Proofs.YtijdhpkeojkphaaGreatDoor
open Go.RowKit
set_option linter.unusedVariables false
set_option linter.unusedSimpArgs false

/-- The value of the rules made ready. -/
def readyV (D : MRules) (v4 v5 f g : Value) : Bool → Value
  | true => .agg #[.int .i64 D.players, .int .i64 D.each, .bool D.sameSuit, .bool D.sameRank, v4, v5, .int .i64 D.take, .int .i64 D.limit, f, g]
  | false => .agg #[.int .i64 0, .int .i64 0, .bool false, .bool false, .slice none 0 0, .slice none 0 0, .int .i64 0, .int .i64 0, .nilFunc, .nilFunc]
def ReadyAt (L : Nat) (w : World) (D : MRules) (v4 v5 f g : Value) : Prop := (∃ b4, RdAt .i64 w v4 D.wild b4) ∧ (∃ b5, RdAt .i64 w v5 D.skip b5) ∧ Means L w f (orF0 D.wild) ∧ Means L w g (orF0 D.skip)
set_option maxRecDepth 100000 in
set_option maxHeartbeats 4000000 in
theorem readyFrom_own (v : Value) (D : MRules) (w : World) (h : RdRules w v D) (hf : D.Few) (hG : Grps w) (r : Bool) (hr : rulesB D = r) :
    Calls Tryz.prog 79 #[v] w fun e w' => (∃ v4 v5 f g, e = .returned (.tuple #[readyV D v4 v5 f g r, .bool r]) ∧ Hid (v = .agg #[.int .i64 D.players, .int .i64 D.each, .bool D.sameSuit, .bool D.sameRank, v4, v5, .int .i64 D.take, .int .i64 D.limit]) ∧ (r = true → ReadyAt w.heap.size w' D v4 v5 f g)) ∧ Below w.heap.size w w' := by
  rw [rulesB_eq] at hr
  have HN := Lib.hid (fun vx wx (hx : RdRules wx vx D) => hasNums_any vx D wx hx _ rfl)
  obtain ⟨pl, ea, ss, sr, wi, sk, ta, li⟩ := D
  have Hh := Lib.hid h
  obtain ⟨v4, v5, b4, b5, rfl, h4, h5, wf0, wf1, wf6, wf7⟩ := h
  obtain ⟨f4, f5⟩ := hf
  unfold ReadyAt
  dsimp only at *
  have HW := Lib.hid (fun wx (hb : Below w.heap.size w wx) => matcherOrNone_any _ wi _ wx (h4.below hb) (by omega) (hG.below hb) _ rfl)
  have HK := Lib.hid (fun wx (hb : Below w.heap.size w wx) => matcherOrNone_any _ sk _ wx (h5.below hb) (by omega) (hG.below hb) _ rfl)
  have H45 := Lib.hid (fun wx (hb : Below w.heap.size w wx) => And.intro (h4.below hb) (h5.below hb))
  have HD := Lib.hid (fun wx (hb : Below w.heap.size w wx) => Hh.out.below hb)
  obtain ⟨p4, c4, e4, -⟩ := id h4
  obtain ⟨p5, c5, e5, -⟩ := id h5
  subst e4 e5
  have B0 : ∀ o1 o2, Below w.heap.size w ((w.alloc o1).alloc o2) := fun o1 o2 => ((Below.refl w.heap.size w).alloc (Nat.le_refl _) o1).alloc (by simp) o2
  obtain ⟨q2, hq2⟩ : ∃ q, q = patOr wi := ⟨_, rfl⟩
  obtain ⟨q3, hq3⟩ : ∃ q, q = patOr sk := ⟨_, rfl⟩
  obtain ⟨q4, hq4⟩ : ∃ q, q = numsB ⟨pl, ea, ss, sr, wi, sk, ta, li⟩ := ⟨_, rfl⟩
  rw [← hq2] at hr HW
  rw [← hq3] at hr HK
  rw [← hq4] at hr HN
  have HR := Lib.hid hr
  clear hr hq2 hq3 hq4 h4 h5 f4 f5 hG Hh
  have H2 := Lib.hid (fun w1 o1 o2 bb => two_boxesR (w := w) (w1 := w1) (o1 := o1) (o2 := o2) bb)
  go_enter Tryz.func79, Tryz.ntmps79
  go_wp2_with fail
  refine (HW.out _ (B0 _ _)).mono ?_
  rintro e w1 ⟨⟨f, rfl, hm⟩, B1⟩
  obtain ⟨Bw1, G1, G2⟩ := H2.out _ _ _ B1
  have hm0 : q2 = true → Means (w.heap.size + 2) w1 f (orF0 wi) := fun e => (hm e).weaken (by simp)
  have hz1 : w.heap.size + 2 ≤ w1.heap.size := by have := B1.size; simp at this; omega
  clear hm B1
  obtain ⟨k0, k1, k2, k3, k4, k5, k6, k7⟩ := SRules_cells G1
  go_wp2_with fail
  refine (HK.out _ Bw1).mono ?_
  rintro e w2 ⟨⟨g, rfl, hm'⟩, B2⟩
  have G1' := (B2.block _ (by omega)).trans G1
  have G2' := (B2.block _ (by omega)).trans G2
  have Bw2 := Bw1.trans (B2.mono Bw1.size)
  have hz2 : w.heap.size + 2 ≤ w2.heap.size := Nat.le_trans hz1 B2.size
  have hmw : q2 = true → Means (w.heap.size + 2) w2 f (orF0 wi) := fun e => (hm0 e).below B2
  have hmk : q3 = true → Means (w.heap.size + 2) w2 g (orF0 sk) := fun e => (hm' e).weaken hz1
  clear k0 k1 k2 k3 k4 k5 k6 k7 hm0 hm' B2 G1 G2
  obtain ⟨k0, k1, k2, k3, k4, k5, k6, k7⟩ := SRules_cells G1'
  have r0 := SRules_cell G2'
  have r1 := SRules_free G2'
  cases q2 with
  | false =>
    obtain rfl : false = r := HR.out
    have N := setAll_full G2' [.int .i64 0, .int .i64 0, .bool false, .bool false, .slice none 0 0, .slice none 0 0, .int .i64 0, .int .i64 0, .nilFunc, .nilFunc] rfl
    have NB := setAll_below (Nat.le_succ w.heap.size) [.int .i64 0, .int .i64 0, .bool false, .bool false, .slice none 0 0, .slice none 0 0, .int .i64 0, .int .i64 0, .nilFunc, .nilFunc] w2 0 Bw2
    have HN2 := Lib.hid (And.intro N NB)
    clear N NB
    go_wp2_with fail
    exact bodyPost_ret (results_row_tmp rfl _ _ (w.heap.size + 1) _ _ _ _ rfl HN2.out.1 Tryz.underlying55 rfl (by kernel_rfl)) rfl ⟨⟨_, _, .nilFunc, .nilFunc, rfl, Lib.hid rfl, fun h => by cases h⟩, HN2.out.2⟩
  | true =>
    cases q3 with
    | false =>
      obtain rfl : false = r := HR.out
      have N := setAll_full G2' [.int .i64 0, .int .i64 0, .bool false, .bool false, .slice none 0 0, .slice none 0 0, .int .i64 0, .int .i64 0, .nilFunc, .nilFunc] rfl
      have NB := setAll_below (Nat.le_succ w.heap.size) [.int .i64 0, .int .i64 0, .bool false, .bool false, .slice none 0 0, .slice none 0 0, .int .i64 0, .int .i64 0, .nilFunc, .nilFunc] w2 0 Bw2
      have HN2 := Lib.hid (And.intro N NB)
      clear N NB
      go_wp2_with fail
      exact bodyPost_ret (results_row_tmp rfl _ _ (w.heap.size + 1) _ _ _ _ rfl HN2.out.1 Tryz.underlying55 rfl (by kernel_rfl)) rfl ⟨⟨_, _, .nilFunc, .nilFunc, rfl, Lib.hid rfl, fun h => by cases h⟩, HN2.out.2⟩
    | true =>
      have HN1 := Lib.hid (HN.out _ w2 (HD.out w2 Bw2))
      go_wp2_with fail
      refine HN1.out.mono ?_
      rintro e w3 ⟨rfl, B3⟩
      have G3 := (B3.block _ (by omega)).trans G1'
      have G3b := (B3.block _ (by omega)).trans G2'
      have Bw3 := Bw2.trans (B3.mono Bw2.size)
      have hmw3 := (hmw (by trivial)).below B3
      have hmk3 := (hmk (by trivial)).below B3
      clear k0 k1 k2 k3 k4 k5 k6 k7 r0 r1 hmw hmk B3 G1' G2'
      obtain ⟨k0, k1, k2, k3, k4, k5, k6, k7⟩ := SRules_cells G3
      have r0 := SRules_cell G3b
      have r1 := SRules_free G3b
      cases q4 with
      | false =>
        obtain rfl : false = r := HR.out
        have N := setAll_full G3b [.int .i64 0, .int .i64 0, .bool false, .bool false, .slice none 0 0, .slice none 0 0, .int .i64 0, .int .i64 0, .nilFunc, .nilFunc] rfl
        have NB := setAll_below (Nat.le_succ w.heap.size) [.int .i64 0, .int .i64 0, .bool false, .bool false, .slice none 0 0, .slice none 0 0, .int .i64 0, .int .i64 0, .nilFunc, .nilFunc] w3 0 Bw3
        have HN2 := Lib.hid (And.intro N NB)
        clear N NB
        go_wp2_with fail
        exact bodyPost_ret (results_row_tmp rfl _ _ (w.heap.size + 1) _ _ _ _ rfl HN2.out.1 Tryz.underlying55 rfl (by kernel_rfl)) rfl ⟨⟨_, _, .nilFunc, .nilFunc, rfl, Lib.hid rfl, fun h => by cases h⟩, HN2.out.2⟩
      | true =>
        cases ss with
        | true =>
          obtain rfl : true = r := HR.out
          have N := setAll_full G3b [.int .i64 pl, .int .i64 ea, .bool true, .bool sr, .slice p4 wi.length c4, .slice p5 sk.length c5, .int .i64 ta, .int .i64 li, f, g] rfl
          have NB := setAll_below (Nat.le_succ w.heap.size) [.int .i64 pl, .int .i64 ea, .bool true, .bool sr, .slice p4 wi.length c4, .slice p5 sk.length c5, .int .i64 ta, .int .i64 li, f, g] w3 0 Bw3
          have H45' := H45.out _ NB
          have hK : Keeps (w.heap.size + 2) w3 (setAll w3 (w.heap.size + 1) 0 [.int .i64 pl, .int .i64 ea, .bool true, .bool sr, .slice p4 wi.length c4, .slice p5 sk.length c5, .int .i64 ta, .int .i64 li, f, g]) := ⟨by rw [setAll_size]; exact Nat.le_refl _, fun k h1 h2 => setAll_other _ _ k (by omega) _ _⟩
          have HMm := Lib.hid (And.intro ((hmw3.keep hK).weaken (Nat.le_add_right w.heap.size 2)) ((hmk3.keep hK).weaken (Nat.le_add_right w.heap.size 2)))
          have HN2 := Lib.hid (And.intro N (And.intro NB H45'))
          clear N NB H45' hK
          obtain ⟨nf, cf, ef, -⟩ := id hmw3
          obtain ⟨ng, cg, eg, -⟩ := id hmk3
          subst ef eg
          go_wp2_with fail
          exact bodyPost_ret (results_row_tmp rfl _ _ (w.heap.size + 1) _ _ _ _ rfl HN2.out.1 Tryz.underlying55 rfl (by kernel_rfl)) rfl ⟨⟨_, _, _, _, rfl, Lib.hid ⟨rfl, rfl⟩, ⟨_, HN2.out.2.2.1⟩, ⟨_, HN2.out.2.2.2⟩, HMm.out.1, HMm.out.2⟩, HN2.out.2.1⟩
        | false =>
          cases sr with
          | true =>
            obtain rfl : true = r := HR.out
            have N := setAll_full G3b [.int .i64 pl, .int .i64 ea, .bool false, .bool true, .slice p4 wi.length c4, .slice p5 sk.length c5, .int .i64 ta, .int .i64 li, f, g] rfl
            have NB := setAll_below (Nat.le_succ w.heap.size) [.int .i64 pl, .int .i64 ea, .bool false, .bool true, .slice p4 wi.length c4, .slice p5 sk.length c5, .int .i64 ta, .int .i64 li, f, g] w3 0 Bw3
            have H45' := H45.out _ NB
            have hK : Keeps (w.heap.size + 2) w3 (setAll w3 (w.heap.size + 1) 0 [.int .i64 pl, .int .i64 ea, .bool false, .bool true, .slice p4 wi.length c4, .slice p5 sk.length c5, .int .i64 ta, .int .i64 li, f, g]) := ⟨by rw [setAll_size]; exact Nat.le_refl _, fun k h1 h2 => setAll_other _ _ k (by omega) _ _⟩
            have HMm := Lib.hid (And.intro ((hmw3.keep hK).weaken (Nat.le_add_right w.heap.size 2)) ((hmk3.keep hK).weaken (Nat.le_add_right w.heap.size 2)))
            have HN2 := Lib.hid (And.intro N (And.intro NB H45'))
            clear N NB H45' hK
            obtain ⟨nf, cf, ef, -⟩ := id hmw3
            obtain ⟨ng, cg, eg, -⟩ := id hmk3
            subst ef eg
            go_wp2_with fail
            exact bodyPost_ret (results_row_tmp rfl _ _ (w.heap.size + 1) _ _ _ _ rfl HN2.out.1 Tryz.underlying55 rfl (by kernel_rfl)) rfl ⟨⟨_, _, _, _, rfl, Lib.hid ⟨rfl, rfl⟩, ⟨_, HN2.out.2.2.1⟩, ⟨_, HN2.out.2.2.2⟩, HMm.out.1, HMm.out.2⟩, HN2.out.2.1⟩
          | false =>
            obtain rfl : false = r := HR.out
            have N := setAll_full G3b [.int .i64 0, .int .i64 0, .bool false, .bool false, .slice none 0 0, .slice none 0 0, .int .i64 0, .int .i64 0, .nilFunc, .nilFunc] rfl
            have NB := setAll_below (Nat.le_succ w.heap.size) [.int .i64 0, .int .i64 0, .bool false, .bool false, .slice none 0 0, .slice none 0 0, .int .i64 0, .int .i64 0, .nilFunc, .nilFunc] w3 0 Bw3
            have HN2 := Lib.hid (And.intro N NB)
            clear N NB
            go_wp2_with fail
            exact bodyPost_ret (results_row_tmp rfl _ _ (w.heap.size + 1) _ _ _ _ rfl HN2.out.1 Tryz.underlying55 rfl (by kernel_rfl)) rfl ⟨⟨_, _, .nilFunc, .nilFunc, rfl, Lib.hid rfl, fun h => by cases h⟩, HN2.out.2⟩
theorem readyFrom_any (v : Value) (D : MRules) (w : World) (h : RdRules w v D) (hf : D.Few) (hG : Grps w) (r : Bool) (hr : rulesB D = r) :
    Calls Tryz.prog 79 #[v] w fun e w' => (∃ v4 v5 f g, e = .returned (.tuple #[readyV D v4 v5 f g r, .bool r]) ∧ (r = true → ReadyAt w.heap.size w' D v4 v5 f g)) ∧ Below w.heap.size w w' :=
  (readyFrom_own v D w h hf hG r hr).mono (by rintro e w' ⟨⟨v4, v5, f, g, h1, -, h2⟩, hb⟩; exact ⟨⟨v4, v5, f, g, h1, h2⟩, hb⟩)

end Go.Proofs.YtijdhpkeojkphaaGreatDoor
namespace Go.Proofs.YtijdhpkeojkphaaGreatDoor
open Go.RowKit

def missI (zs : List Int) (k : Nat) : List Int := ((List.range k).map fun (i : Nat) => (i : Int)).filter fun c => !hasI zs c
theorem miss_step (zs : List Int) (k : Nat) : missI zs (k + 1) = missI zs k ++ if hasI zs k then [] else [(k : Int)] := by
  unfold missI
  rw [List.range_succ, List.map_append, List.filter_append]
  congr 1
  cases h : hasI zs k <;> simp [h]
theorem miss_len (zs : List Int) (k : Nat) : (missI zs k).length ≤ k := by
  unfold missI
  refine Nat.le_trans (List.length_filter_le _ _) ?_
  simp
theorem miss_wf (zs : List Int) (k : Nat) (hk : k ≤ 52) : ∀ x ∈ missI zs k, (Lit.int .i64 x).wf = true := by
  intro x hx
  have := (List.mem_filter.1 hx).1
  simp only [List.mem_map, List.mem_range] at this
  obtain ⟨i, hi, rfl⟩ := this
  exact WalkArith.wf_i64 (by omega)

def deck : List Int := marksI 0 52
theorem miss_nil : missI [] 52 = deck := by decide +kernel
end Go.Proofs.YtijdhpkeojkphaaGreatDoor
namespace Go.Proofs.YtijdhpkeojkphaaGreatDoor
open Go.RowKit
set_option linter.unusedVariables false
set_option linter.unusedSimpArgs false

/-- Whether a card matches. -/
def matchB (p : List Int) (c : Int) : Bool := isPat p && (isCard c && patF p c)
def matchL (p l : List Int) : List Int := l.filter (matchB p)
def cntM (p l : List Int) : Int := (matchL p l).length
def matchSet (p : List Int) : List Int := matchL p deck
theorem matchL_len (p l : List Int) : (matchL p l).length ≤ l.length := List.length_filter_le _ _
theorem matchSet_len (p : List Int) : (matchSet p).length ≤ 52 := by have := matchL_len p deck; rw [show deck.length = 52 from by show (marksI 0 52).length = 52; rw [marksI_length]] at this; exact this
theorem matchL_take (p l : List Int) (k : Nat) (h : k < l.length) : matchL p (l.take (k + 1)) = matchL p (l.take k) ++ if matchB p (l.getD k 0) = true then [l.getD k 0] else [] := by
  unfold matchL
  rw [List.take_succ_eq_append_getElem h, List.filter_append]
  congr 1
  have : l.getD k 0 = l[k] := by simp [List.getD, h]
  rw [this]
  by_cases e : matchB p l[k] = true <;> simp [e]
theorem matchL_none {p : List Int} (h : isPat p = false) (l : List Int) : matchL p l = [] := by
  unfold matchL
  rw [List.filter_eq_nil_iff]
  intro x hx
  unfold matchB; rw [h]; simp
theorem own_baseM {w : World} {B B' : Nat} {E : TypeId} {size n : Nat} {v : Value} {xs : List Value} (h : w.ownsRow B E size v n xs) (hb : B' ≤ B) : w.ownsRow B' E size v n xs := by
  obtain ⟨h1, h2⟩ := h
  refine ⟨h1, h2.imp id ?_⟩
  rintro ⟨g, cap, cur, e, hg, r⟩
  exact ⟨g, cap, cur, e, Nat.le_trans hb hg, r⟩
/-- The row of the cards that match: empty as it was laid, or laid since. -/
def RowM (w0 w1 : Nat) (wr : World) (o : Value) (xs : List Int) : Prop :=
  (o = .slice (some ⟨w0, 0, none⟩) 0 0 ∧ xs = [] ∧ wr.ownsRow w0 3 1 o 0 []) ∨ wr.ownsRow w1 3 1 o xs.length (xs.map (Value.int .i64))
theorem RowM.below {w0 w1 : Nat} {wr wx : World} {o : Value} {xs : List Int} (h : RowM w0 w1 wr o xs) (b : Below wr.heap.size wr wx) : RowM w0 w1 wx o xs := by
  rcases h with ⟨h1, h2, h3⟩ | h
  · exact .inl ⟨h1, h2, own_below h3 b⟩
  · exact .inr (own_below h b)
theorem RowM.wr {w0 w1 : Nat} {wr : World} {o : Value} {xs : List Int} (h : RowM w0 w1 wr o xs) (h01 : w0 ≤ w1) (hw : ∀ n ∈ xs, (Lit.int .i64 n).wf = true) : ∃ b', w0 ≤ b' ∧ WrAt .i64 wr o xs b' := by
  rcases h with ⟨h1, rfl, h3⟩ | h
  · exact own_wr (zs := []) h3 (fun n hn => by simp at hn)
  · obtain ⟨b', hb, hr⟩ := own_wr h hw
    exact ⟨b', by omega, hr⟩
end Go.Proofs.YtijdhpkeojkphaaGreatDoor
namespace Go.Proofs.YtijdhpkeojkphaaGreatDoor
open Go.RowKit

def redB (c : Int) : Bool := decide (suitOf c = 1 ∨ suitOf c = 2)
theorem red_0 {c : Int} (h : suitOf c = 0) : redB c = false := by unfold redB; rw [h]; decide
theorem red_1 {c : Int} (h : suitOf c = 1) : redB c = true := by unfold redB; rw [h]; decide
theorem red_2 {c : Int} (h : suitOf c = 2) : redB c = true := by unfold redB; rw [h]; decide
theorem red_3 {c : Int} (h : suitOf c = 3) : redB c = false := by unfold redB; rw [h]; decide
theorem red_n {c : Int} (h : suitOf c = -1) : redB c = false := by unfold redB; rw [h]; decide

set_option maxRecDepth 100000 in
theorem sIsRed_r (c : Int) (w : World) (r : Bool) (hr : redB c = r) :
    Calls Tryz.prog 94 #[.int .i64 c] w fun e w' => e = .returned (.bool r) ∧ w = w' := by
  subst hr
  by_cases h0 : 0 ≤ c
  · by_cases h1 : c ≤ 51
    · have e : suitOf c = c / 13 := by exact suit_in (isCard_yes ⟨h0, h1⟩)
      have hc : c / 13 = 0 ∨ c / 13 = 1 ∨ c / 13 = 2 ∨ c / 13 = 3 := by omega
      rcases hc with hc | hc | hc | hc
      · rw [red_0 (e.trans hc)]; clear e
        go_enter Tryz.func94, Tryz.ntmps94
        go_wp2
        go_ret
        exact ⟨rfl, rfl⟩
      · rw [red_1 (e.trans hc)]; clear e
        go_enter Tryz.func94, Tryz.ntmps94
        go_wp2
        go_ret
        exact ⟨rfl, rfl⟩
      · rw [red_2 (e.trans hc)]; clear e
        go_enter Tryz.func94, Tryz.ntmps94
        go_wp2
        go_ret
        exact ⟨rfl, rfl⟩
      · rw [red_3 (e.trans hc)]; clear e
        go_enter Tryz.func94, Tryz.ntmps94
        go_wp2
        go_ret
        exact ⟨rfl, rfl⟩
    · rw [red_n (suit_out (isCard_no (by omega)))]
      have hd : decide (c ≤ 51) = false := by simp; omega
      go_enter Tryz.func94, Tryz.ntmps94
      go_wp2
      go_ret
      exact ⟨rfl, rfl⟩
  · rw [red_n (suit_out (isCard_no (by omega)))]
    go_enter Tryz.func94, Tryz.ntmps94
    go_wp2
    go_ret
    exact ⟨rfl, rfl⟩
/-- b may lie on a. -/
def stepB (a b : Int) : Bool := decide (rankOf a = rankOf b + 1) && (redB a != redB b)
theorem step_r0 {a b : Int} (h : ¬ rankOf a = rankOf b + 1) : stepB a b = false := by unfold stepB; rw [decide_eq_false h]; rfl
theorem step_r1 {a b : Int} (h : rankOf a = rankOf b + 1) : stepB a b = (redB a != redB b) := by unfold stepB; rw [decide_eq_true h]; rfl
theorem rank_bd (c : Int) : -1 ≤ rankOf c ∧ rankOf c ≤ 12 := by
  unfold rankOf
  split <;> omega

end Go.Proofs.YtijdhpkeojkphaaGreatDoor
