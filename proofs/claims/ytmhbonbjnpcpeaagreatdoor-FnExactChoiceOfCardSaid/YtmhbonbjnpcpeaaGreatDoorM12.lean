/-
  Several texts in one: The model's Sorted. Playable, the model's side. Games, the program's side: firstWithoutCards, isAtEnd, rulesOfGame, IsGame, Winner, IsEnded, MovesLeft, IsDrawn.
-/
import Derived.Test.YtmhbonbjnpcpeaaGreatDoorM7
import Derived.Deep.RegionLaw
import Derived.Test.YtmhbonbjnpcpeaaGreatDoorM10
import Derived.Test.YtmhbonbjnpcpeaaGreatDoorM11
import Derived.IntWalk
import Derived.Deep.Cut
namespace Go.Proofs.YtmhbonbjnpcpeaaGreatDoor
open Go.RowKit

theorem ins_sorted {S : List Int} {x : Int} {j : Nat} (hs : S.Pairwise (fun a b => a ≤ b)) (hj : j ≤ S.length) (hgt : ∀ m (hm : m < S.length), j ≤ m → x < S[m]) (hle : j = 0 ∨ ∃ h : j - 1 < S.length, S[j - 1] ≤ x) : (S.take j ++ [x] ++ S.drop j).Pairwise (fun a b => a ≤ b) := by
  have hax : ∀ a ∈ S.take j, a ≤ x := by
    intro a ha
    obtain ⟨i, hi, rfl⟩ := List.getElem_of_mem ha
    rw [List.length_take] at hi
    rw [List.getElem_take]
    rcases hle with h | ⟨h1, h2⟩
    · omega
    · by_cases e : i = j - 1
      · subst e; exact h2
      · exact Int.le_trans ((List.pairwise_iff_getElem.1 hs) i (j - 1) (by omega) h1 (by omega)) h2
  have hxb : ∀ b ∈ S.drop j, x < b := by
    intro b hb
    obtain ⟨i, hi, rfl⟩ := List.getElem_of_mem hb
    rw [List.length_drop] at hi
    rw [List.getElem_drop]
    exact hgt (j + i) (by omega) (by omega)
  rw [List.append_assoc, List.pairwise_append]
  refine ⟨hs.sublist (List.take_sublist _ _), ?_, fun a ha b hb => ?_⟩
  · rw [List.singleton_append, List.pairwise_cons]
    exact ⟨fun b hb => Int.le_of_lt (hxb b hb), hs.sublist (List.drop_sublist _ _)⟩
  · rcases List.mem_append.1 hb with hb | hb
    · simp at hb; subst hb; exact hax a ha
    · exact Int.le_of_lt (Int.lt_of_le_of_lt (hax a ha) (hxb b hb))
theorem ins_perm {S T : List Int} {x : Int} (j : Nat) (h : S.Perm T) : (S.take j ++ [x] ++ S.drop j).Perm (T ++ [x]) := by
  have h1 : (S.take j ++ [x] ++ S.drop j).Perm (x :: (S.take j ++ S.drop j)) := by
    rw [List.append_assoc]; exact List.perm_middle
  rw [List.take_append_drop] at h1
  exact (h1.trans (h.cons x)).trans (List.perm_append_singleton x T).symm

theorem own_base {w : World} {B B' : Nat} {E : TypeId} {size n : Nat} {v : Value} {xs : List Value} (h : w.ownsRow B' E size v n xs) (hB : B ≤ B') : w.ownsRow B E size v n xs := by
  refine ⟨h.1, ?_⟩
  rcases h.2 with h0 | ⟨g, cap, cur, hv, hg, r⟩
  · exact .inl h0
  · exact .inr ⟨g, cap, cur, hv, by omega, r⟩
theorem own_some {w : World} {B : Nat} {E : TypeId} {n : Nat} {v : Value} {xs : List Value} (h : w.ownsRow B E 1 v (n + 1) xs) : ∃ g cap, v = .slice (some ⟨g, 0, none⟩) (n + 1) cap ∧ B ≤ g ∧ g < w.heap.size ∧ n + 1 ≤ cap ∧ cap ≤ maxLen := by
  rcases h.2 with ⟨_, h0⟩ | ⟨g, cap, cur, rfl, hg, hh, hn, hm, _⟩
  · omega
  · exact ⟨g, cap, rfl, hg, (Array.getElem?_eq_some_iff.1 hh).1, hn, hm⟩
/-- append to what the call owns, as one step of a region that draws its order. -/
theorem step_append_own {P : Program} {ops : Array Oper} {o : Oper} {a : Act} {w : World} {K : Act → World → Prop} {Q : Exit → Act → World → Prop} {E : Prop}
    (hg : o.guard = none) (s x : Operand) (t : TypeId) (hop : o.op = Op.call { callee := Callee.builtin Builtin.append, args := #[s, x], argTypes := #[t, t] })
    (base : Nat) (e : TypeId) (i : TypeInfo) (z : Value) (size bytes : Nat) (h1 : P.underlying t = some (.slice e)) (h2 : P.info? e = some i) (h3 : i.zero = some z) (h4 : i.size = size) (h5 : i.bytes = bytes) (h6 : z.cells.size = size) (h7 : 0 < size)
    (v : Value) (n : Nat) (xs : List Value) (hs : a.eval s = v) (hown : w.ownsRow base e size v n xs)
    (ad : Addr) (m c : Nat) (news : List Value) (hx : a.eval x = .slice (some ad) m c) (hn : news.length = m * size) (hc : ∀ j u, news[j]? = some u → w.cell? (ad.add j) = some u) (h1c : ∀ u ∈ news, u.oneCell' = true)
    (b1 : n + m ≤ maxLen) (b2 : (n + m) * bytes ≤ 140737488355328) (hbase : base ≤ w.heap.size)
    (hK : ∀ v' w', w'.ownsRow base e size v' (n + m) (xs ++ news) → w.grownBy w' v.ownBlock → K (a.put o.dst v') w') :
    if Region.wanted o (yielded ops a.tmps) = true then Oper.wp P o a w K Q else E := by
  have hw : Region.wanted o (yielded ops a.tmps) = true := by simp [Region.wanted, hg]
  rw [if_pos hw]
  obtain ⟨v', w', hrun, r1, r2, _⟩ := run_append_own (P := P) w base t o.type e i z size bytes h1 h2 h3 h4 h5 h6 h7 v n xs hown ad m c news hn hc h1c b1 b2 hbase
  unfold Oper.wp
  simp [execOp, hop, resolve, invoke, builtin, hs, hx, hrun, Result.andThen]
  exact hK v' w' r1 r2
theorem take_cells {B ocap : Nat} {W0 W : World} {b1 k j : Nat} {S : List Int} {E : TypeId} (hB : Below W0.heap.size W0 W) (hb : b1 < W0.heap.size) (f2 : W0.ownsRow B E 1 (.slice (some ⟨b1, 0, none⟩) k ocap) k (S.map (Value.int .i64))) (hS : S.length = k) (hj : j ≤ k) :
    ∀ idx u, ((S.take j).map (Value.int .i64))[idx]? = some u → W.cell? ((⟨b1, 0, none⟩ : Addr).add idx) = some u := by
  intro idx u hu
  have e2 : (⟨b1, 0, none⟩ : Addr).add idx = ⟨b1, idx, none⟩ := by
    by_cases h : idx = 0
    · subst h; simp [Addr.add]
    · simp [Addr.add]; omega
  have hi := (List.getElem?_eq_some_iff.1 hu).1
  simp only [List.length_map, List.length_take] at hi
  rw [e2, hB.cell (p := ⟨b1, idx, none⟩) hb, f2.cellAt idx (by omega), ← hu]
  simp [show idx < j by omega]
theorem drop_cells {B ocap : Nat} {W0 W : World} {b1 k j : Nat} {S : List Int} {E : TypeId} (hB : Below W0.heap.size W0 W) (hb : b1 < W0.heap.size) (f2 : W0.ownsRow B E 1 (.slice (some ⟨b1, 0, none⟩) k ocap) k (S.map (Value.int .i64))) (hS : S.length = k) :
    ∀ idx u, ((S.drop j).map (Value.int .i64))[idx]? = some u → W.cell? ((⟨b1, j, none⟩ : Addr).add idx) = some u := by
  intro idx u hu
  have e2 : (⟨b1, j, none⟩ : Addr).add idx = ⟨b1, j + idx, none⟩ := by simp [Addr.add]
  have hi := (List.getElem?_eq_some_iff.1 hu).1
  simp only [List.length_map, List.length_drop] at hi
  rw [e2, hB.cell (p := ⟨b1, j + idx, none⟩) hb, f2.cellAt (j + idx) (by omega), ← hu]
  simp [List.getElem?_drop]
theorem take_len {S : List Int} {k j : Nat} (hS : S.length = k) (hj : j ≤ k) : ((S.take j).map (Value.int .i64)).length = j * 1 := by simp; omega
theorem drop_len {S : List Int} {k j : Nat} (hS : S.length = k) : ((S.drop j).map (Value.int .i64)).length = (k - j) * 1 := by simp; omega
theorem lit_late (W : World) (o : Obj) (E : TypeId) : ((W.alloc o).alloc (.cells #[] E)).ownsRow W.heap.size E 1 (.slice (some ⟨W.heap.size + 1, 0, none⟩) 0 0) 0 [] := by
  have h := World.ownsRow_lit (base := W.heap.size) (e := E) (size := 1) (W.alloc o) #[] 0 (by simp) (Nat.zero_le _) rfl
  have e : (W.alloc o).heap.size = W.heap.size + 1 := by simp
  rw [e] at h
  exact h
theorem late_cell2 {W0 W : World} {E : TypeId} {c : Array Value} {x : Int} (h : ((W0.alloc (.cells c E)).alloc (.cells #[.int .i64 x] E)).drew.grownBy W (some W0.heap.size)) : ∀ idx u, [Value.int .i64 x][idx]? = some u → W.cell? ((⟨W0.heap.size + 1, 0, none⟩ : Addr).add idx) = some u := by
  intro idx u hu
  have hi : idx = 0 := by have := (List.getElem?_eq_some_iff.1 hu).1; simpa using this
  subst hi
  have hb : W.heap[W0.heap.size + 1]? = ((W0.alloc (.cells c E)).alloc (.cells #[.int .i64 x] E)).heap[W0.heap.size + 1]? := h.block _ (by show _ < ((W0.heap.push _).push _).size; simp) (fun e => by have := Option.some.inj e; omega)
  have e0 : (⟨W0.heap.size + 1, 0, none⟩ : Addr).add 0 = ⟨W0.heap.size + 1, 0, none⟩ := by simp [Addr.add]
  have e : (W0.alloc (.cells c E)).heap.size = W0.heap.size + 1 := by simp
  rw [e0, World.cell?_of_block (w := (W0.alloc (.cells c E)).alloc (.cells #[.int .i64 x] E)) (a := ⟨W0.heap.size + 1, 0, none⟩) hb, ← e, World.cell?_alloc_new]
  simpa using hu
theorem late_cell3 {W0 W : World} {E : TypeId} {c : Array Value} {x : Int} (h : ((W0.alloc (.cells #[.int .i64 x] E)).alloc (.cells c E)).drew.grownBy W (some (W0.heap.size + 1))) : ∀ idx u, [Value.int .i64 x][idx]? = some u → W.cell? ((⟨W0.heap.size, 0, none⟩ : Addr).add idx) = some u := by
  intro idx u hu
  have hi : idx = 0 := by have := (List.getElem?_eq_some_iff.1 hu).1; simpa using this
  subst hi
  have hb : W.heap[W0.heap.size]? = ((W0.alloc (.cells #[.int .i64 x] E)).alloc (.cells c E)).heap[W0.heap.size]? := h.block _ (by show _ < ((W0.heap.push _).push _).size; simp; omega) (fun e => by have := Option.some.inj e; omega)
  have e0 : (⟨W0.heap.size, 0, none⟩ : Addr).add 0 = ⟨W0.heap.size, 0, none⟩ := by simp [Addr.add]
  rw [e0, World.cell?_of_block (w := (W0.alloc (.cells #[.int .i64 x] E)).alloc (.cells c E)) (a := ⟨W0.heap.size, 0, none⟩) hb, World.cell?_alloc_past _ _ _ (by simp), World.cell?_alloc_new]
  simpa using hu
theorem one_c (k : IntKind) (y : Int) : ∀ u ∈ [Value.int k y], u.oneCell' = true := by
  intro u hu; simp at hu; subst hu; rfl
theorem one_cells (l : List Int) : ∀ u ∈ l.map (Value.int .i64), u.oneCell' = true := by
  intro u hu; simp at hu; obtain ⟨y, _, rfl⟩ := hu; rfl

set_option maxRecDepth 100000 in
set_option maxHeartbeats 4000000 in
theorem sSorted_any (v : Value) (zs : List Int) (b : Nat) (w : World) (h : RdAt .i64 w v zs b) (hl : zs.length ≤ 1048576) :
    Calls Tryz.prog 27 #[v] w fun e w' => ∃ v' b', e = .returned v' ∧ w.heap.size ≤ b' ∧ WrAt .i64 w' v' (sortI zs) b' ∧ Below w.heap.size w w' := by
  obtain ⟨i0, hi, hz0, hz1, hz2⟩ := info_parts info_i64
  have hwf := h.wf
  obtain ⟨a, cap, rfl, -, -, hcell⟩ := h
  obtain ⟨n, hn⟩ : ∃ n, n = zs.length := ⟨_, rfl⟩
  have Hn := Lib.hid hn
  rw [← hn] at hl ⊢
  clear hn
  go_enter Tryz.func27, Tryz.ntmps27
  go_wp2_with fail
  have hown0 := World.ownsRow_lit (base := w.heap.size) (e := 3) (size := 1) w #[] 0 (Nat.le_refl _) (Nat.zero_le _) rfl
  go_loopw [3, 4] (fun o i wr => ∃ (k : Nat) (S : List Int) (b1 ocap : Nat), k ≤ n ∧ i = .int .i64 k ∧ Hid (S.length = k ∧ S.Perm (zs.take k) ∧ S.Pairwise (fun a b => a ≤ b)) ∧ Below w.heap.size w wr ∧ o = .slice (some ⟨b1, 0, none⟩) k ocap ∧ w.heap.size ≤ b1 ∧ b1 < wr.heap.size ∧ k ≤ ocap ∧ ocap ≤ 9223372036854775807 ∧ wr.ownsRow w.heap.size 3 1 (.slice (some ⟨b1, 0, none⟩) k ocap) k (S.map (Value.int .i64))) (fun _ i _ => n - (intOf i).toNat)
  case atStart => exact ⟨0, [], w.heap.size, 0, Nat.zero_le _, rfl, Lib.hid ⟨rfl, by simp, by simp⟩, (Below.refl _ _).alloc (Nat.le_refl _) _, rfl, Nat.le_refl _, by simp, Nat.le_refl _, by omega, hown0⟩
  case round =>
    clear hown0
    obtain ⟨k, S, b1, ocap, hk, rfl, hS, hb2, rfl, hbb, hblt, hko, hom, hown⟩ := hrel
    by_cases hlt : k < n
    · have hzl : k < zs.length := by rw [← Hn.out]; exact hlt
      rcases hcell with hz | ⟨off, rfl, hc⟩
      · subst hz; simp at hzl
      obtain ⟨x, hx⟩ : ∃ x, Hid (x = zs[k]) := ⟨_, Lib.hid rfl⟩
      have hbl := World.block_lt_of_cell? _ _ (hc k hzl)
      have hc1 : wr.cell? ⟨b, off + k, none⟩ = some (.int .i64 x) := by
        rw [hb2.cell hbl, hc k hzl, hx.out]
      clear hc
      have HW : Hid (∀ W : World, (∃ q, W = wr.drewN q) → W.cell? ⟨b, off + k, none⟩ = some (.int .i64 x) ∧ W.ownsRow w.heap.size 3 1 (.slice (some ⟨b1, 0, none⟩) k ocap) k (S.map (Value.int .i64)) ∧ Below w.heap.size w W ∧ W.heap.size = wr.heap.size) := Lib.hid (fun W hW => by
        obtain ⟨q, rfl⟩ := hW
        exact ⟨hc1, hown, ⟨hb2.os, hb2.tape, hb2.output, hb2.size, hb2.block⟩, rfl⟩)
      clear hown hc1
      go_wp2_with fail
      go_loopw [5] (fun kk wx => ∃ (j : Nat), j ≤ k ∧ kk = .int .i64 j ∧ (∃ q, wx = wr.drewN q) ∧ Hid (∀ m (hm : m < S.length), j ≤ m → x < S[m])) (fun kk _ => (intOf kk).toNat)
      case atStart => exact ⟨k, Nat.le_refl _, rfl, ⟨0, rfl⟩, Lib.hid (fun m hm h => by have := hS.out.1; omega)⟩
      case round =>
        obtain ⟨j, hj, rfl, hq, hgt⟩ := hrel
        have Hq := Lib.hid hq
        clear hq
        cases j with
        | zero =>
          go_wp2_with fail
          go_quiet (fail)
          go_wp2_with fail
          obtain ⟨W0, hW0⟩ : ∃ W0, W0 = wr.drewN nq := ⟨_, rfl⟩
          rw [← hW0]
          obtain ⟨f1, f2, f3, f4⟩ := HW.out W0 (by obtain ⟨q, e⟩ := Hq.out; subst e; exact ⟨_, hW0.trans (World.drewN_drewN _ _ _)⟩)
          have HW0 := Lib.hid hW0
          clear hW0
          have hS1 := hS.out.1
          have hb1W : b1 < W0.heap.size := by rw [f4]; exact hblt
          have hS1k : 0 ≤ k := by omega
          have HT : Hid (∀ W : World, Below W0.heap.size W0 W → ∀ idx u, ((S.take (0)).map (Value.int .i64))[idx]? = some u → W.cell? ((⟨b1, 0, none⟩ : Addr).add idx) = some u) := Lib.hid (fun W hB => take_cells hB hb1W f2 hS1 hS1k)
          have HD : Hid (∀ W : World, Below W0.heap.size W0 W → ∀ idx u, ((S.drop (0)).map (Value.int .i64))[idx]? = some u → W.cell? ((⟨b1, 0, none⟩ : Addr).add idx) = some u) := Lib.hid (fun W hB => drop_cells hB hb1W f2 hS1)
          have HTL : Hid (((S.take (0)).map (Value.int .i64)).length = (0) * 1) := Lib.hid (take_len hS1 hS1k)
          have HDL : Hid (((S.drop (0)).map (Value.int .i64)).length = (k - (0)) * 1) := Lib.hid ((drop_len hS1).trans (by omega))
          have O1 : Hid ((W0.alloc (.cells #[] 3)).drew.ownsRow W0.heap.size 3 1 (.slice (some ⟨W0.heap.size, 0, none⟩) 0 0) 0 []) := Lib.hid (World.ownsRow_lit (base := W0.heap.size) (e := 3) (size := 1) W0 #[] 0 (Nat.le_refl _) (Nat.zero_le _) rfl)
          have O2 : Hid (((W0.alloc (.cells #[] 3)).alloc (.cells #[.int .i64 x] 3)).drew.ownsRow W0.heap.size 3 1 (.slice (some ⟨W0.heap.size, 0, none⟩) 0 0) 0 []) := Lib.hid ((World.ownsRow_lit (base := W0.heap.size) (e := 3) (size := 1) W0 #[] 0 (Nat.le_refl _) (Nat.zero_le _) rfl).alloc _)
          have O3 : Hid (((W0.alloc (.cells #[.int .i64 x] 3)).alloc (.cells #[] 3)).drew.ownsRow W0.heap.size 3 1 (.slice (some ⟨W0.heap.size + 1, 0, none⟩) 0 0) 0 []) := Lib.hid (lit_late _ _ _)
          have B1 : Hid (Below W0.heap.size W0 (W0.alloc (.cells #[] 3)).drew) := Lib.hid ((Below.refl _ _).alloc (Nat.le_refl _) _).drew
          have B2 : Hid (Below W0.heap.size W0 ((W0.alloc (.cells #[] 3)).alloc (.cells #[.int .i64 x] 3)).drew) := Lib.hid (((Below.refl _ _).alloc (Nat.le_refl _) _).alloc (by simp) _).drew
          have B3 : Hid (Below W0.heap.size W0 ((W0.alloc (.cells #[.int .i64 x] 3)).alloc (.cells #[] 3)).drew) := Lib.hid (((Below.refl _ _).alloc (Nat.le_refl _) _).alloc (by simp) _).drew
          have fa : (W0.alloc (.cells #[] 3)).drew.cell? ⟨b, off + k, none⟩ = some (.int .i64 x) := by rw [B1.out.cell (World.block_lt_of_cell? _ _ f1)]; exact f1
          have F35 : Hid (∀ W W' : World, ∀ v35 : Value, Below W0.heap.size W0 W → W.ownsRow W0.heap.size 3 1 v35 0 [] → W.grownBy W' v35.ownBlock → Below W0.heap.size W0 W') := Lib.hid (fun W W' v35 h1 h2 h3 => h1.grown h3 h1.size (own_block h2))
          have e35 : 0 + (0) ≤ maxLen := by unfold maxLen; omega
          have g35 : (0 + (0)) * 8 ≤ 140737488355328 := by omega
          have e41 : 0 + (0) + 1 ≤ maxLen := by unfold maxLen; omega
          have g41 : (0 + (0) + 1) * 8 ≤ 140737488355328 := by omega
          have e45 : 0 + (0) + 1 + (k - (0)) ≤ maxLen := by unfold maxLen; omega
          have g45 : (0 + (0) + 1 + (k - (0))) * 8 ≤ 140737488355328 := by omega
          have HBs : Hid (∀ (W : World) o, Below W0.heap.size W0 W → W0.heap.size ≤ (W.alloc o).heap.size) := Lib.hid (fun W o h => by have := h.size; simp; omega)
          have HX : Hid (∀ W : World, Below W0.heap.size W0 W → W.cell? ⟨b, off + k, none⟩ = some (.int .i64 x)) := Lib.hid (fun W h => by rw [h.cell (World.block_lt_of_cell? _ _ f1)]; exact f1)
          have HC2 : Hid (∀ W : World, ((W0.alloc (.cells #[] 3)).alloc (.cells #[.int .i64 x] 3)).drew.grownBy W (some W0.heap.size) → ∀ idx u, [Value.int .i64 x][idx]? = some u → W.cell? ((⟨W0.heap.size + 1, 0, none⟩ : Addr).add idx) = some u) := Lib.hid (fun W h => late_cell2 h)
          have HC3 : Hid (∀ W : World, ((W0.alloc (.cells #[.int .i64 x] 3)).alloc (.cells #[] 3)).drew.grownBy W (some (W0.heap.size + 1)) → ∀ idx u, [Value.int .i64 x][idx]? = some u → W.cell? ((⟨W0.heap.size, 0, none⟩ : Addr).add idx) = some u) := Lib.hid (fun W h => late_cell3 h)
          have hk1 : k + 1 ≤ n := by omega
          have F3 := Lib.hid f3
          have hSn : Hid ((S.take (0) ++ [x] ++ S.drop (0)).length = k + 1 ∧ (S.take (0) ++ [x] ++ S.drop (0)).Perm (zs.take (k + 1)) ∧ (S.take (0) ++ [x] ++ S.drop (0)).Pairwise (fun a b => a ≤ b)) := Lib.hid (by
            refine ⟨by simp; omega, ?_, ins_sorted hS.out.2.2 (by omega) (fun m hm h => hgt.out m hm h) (.inl rfl)⟩
            rw [List.take_succ_eq_append_getElem hzl, ← hx.out]
            exact ins_perm _ hS.out.2.1)
          clear f2 f3 f4 hS1 hS1k hb1W hblt hbb
          go_region_law (first
            | (refine step_append_own rfl (.tmp 31) (.tmp 34) 22 rfl W0.heap.size 3 i0 (.int .i64 0) 1 8 Tryz.underlying22 hi hz0 hz1 hz2 rfl (by decide) (.slice (some ⟨W0.heap.size, 0, none⟩) 0 0) 0 [] rfl O1.out ⟨b1, 0, none⟩ (0) ocap ((S.take (0)).map (Value.int .i64)) rfl HTL.out (HT.out _ B1.out) (one_cells _) e35 g35 B1.out.size ?_; intro v35 w35 hown35 hgr35; have hB35 := F35.out _ _ _ B1.out O1.out hgr35; have hx35 := HX.out w35 hB35)
            | (refine step_append_own rfl (.tmp 31) (.tmp 34) 22 rfl W0.heap.size 3 i0 (.int .i64 0) 1 8 Tryz.underlying22 hi hz0 hz1 hz2 rfl (by decide) (.slice (some ⟨W0.heap.size, 0, none⟩) 0 0) 0 [] rfl O2.out ⟨b1, 0, none⟩ (0) ocap ((S.take (0)).map (Value.int .i64)) rfl HTL.out (HT.out _ B2.out) (one_cells _) e35 g35 B2.out.size ?_; intro v35 w35 hown35 hgr35; have hB35 := F35.out _ _ _ B2.out O2.out hgr35; have hx40 := Lib.hid (HC2.out w35 hgr35))
            | (refine step_append_own rfl (.tmp 31) (.tmp 34) 22 rfl W0.heap.size 3 i0 (.int .i64 0) 1 8 Tryz.underlying22 hi hz0 hz1 hz2 rfl (by decide) (.slice (some ⟨W0.heap.size + 1, 0, none⟩) 0 0) 0 [] rfl O3.out ⟨b1, 0, none⟩ (0) ocap ((S.take (0)).map (Value.int .i64)) rfl HTL.out (HT.out _ B3.out) (one_cells _) e35 g35 B3.out.size ?_; intro v35 w35 hown35 hgr35; have hB35 := F35.out _ _ _ B3.out O3.out hgr35; have hx40 := Lib.hid (HC3.out w35 hgr35))
            | (refine step_append_own rfl (.tmp 35) (.tmp 40) 22 rfl W0.heap.size 3 i0 (.int .i64 0) 1 8 Tryz.underlying22 hi hz0 hz1 hz2 rfl (by decide) v35 (0 + (0)) _ rfl (hown35.alloc _) ⟨w35.heap.size, 0, none⟩ 1 1 [.int .i64 x] rfl rfl (cell_one_new _ _ _) (one_c _ _) e41 g41 (HBs.out w35 _ hB35) ?_; intro v41 w41 hown41 hgr41; have hB41 := (hB35.alloc hB35.size _).grown hgr41 (HBs.out w35 _ hB35) (own_block hown35))
            | (refine step_append_own rfl (.tmp 35) (.tmp 40) 22 rfl W0.heap.size 3 i0 (.int .i64 0) 1 8 Tryz.underlying22 hi hz0 hz1 hz2 rfl (by decide) v35 (0 + (0)) _ rfl hown35 _ 1 1 [.int .i64 x] rfl rfl hx40.out (one_c _ _) e41 g41 hB35.size ?_; intro v41 w41 hown41 hgr41; have hB41 := hB35.grown hgr41 hB35.size (own_block hown35))
            | (refine step_append_own rfl (.tmp 41) (.tmp 44) 22 rfl W0.heap.size 3 i0 (.int .i64 0) 1 8 Tryz.underlying22 hi hz0 hz1 hz2 rfl (by decide) v41 (0 + (0) + 1) _ rfl hown41 ⟨b1, 0, none⟩ (k - (0)) ocap ((S.drop (0)).map (Value.int .i64)) rfl HDL.out (HD.out _ hB41) (one_cells _) e45 g45 hB41.size ?_; intro v45 w45 hown45 hgr45; have hB45 := hB41.grown hgr45 hB41.size (own_block hown41)))
          all_goals
            have hnew : w45.ownsRow w.heap.size 3 1 v45 (k + 1) ((S.take (0) ++ [x] ++ S.drop (0)).map (Value.int .i64)) := own_base (by
              have e : 0 + (0) + 1 + (k - (0)) = k + 1 := by omega
              rw [e] at hown45
              simpa using hown45) F3.out.size
            obtain ⟨g, gcap, rfl, hg1, hg2, hg3, hg4⟩ := own_some hnew
            have hB := F3.out.trans (hB45.mono F3.out.size)
            unfold maxLen at hg4
            clear hown45 hgr45 hB45
            go_wp2_with fail
            go_roundw
            case rel => exact ⟨k + 1, _, g, gcap, hk1, by go_num, hSn, hB, rfl, hg1, hg2, hg3, by omega, hnew⟩
            case measure => simp [intOf]; omega
        | succ j =>
          obtain ⟨f1, f2, f3, f4⟩ := HW.out wr Hq.out
          have hjS : j < S.length := by have := hS.out.1; omega
          obtain ⟨y, hy⟩ : ∃ y, Hid (y = S[j]) := ⟨_, Lib.hid rfl⟩
          have hcy : wr.cell? ⟨b1, j, none⟩ = some (.int .i64 y) := by
            rw [f2.cellAt j (by omega), hy.out]; simp [hjS]
          clear f2 f3 f4
          by_cases hxy : x < y
          · have hgt2 : Hid (∀ m (hm : m < S.length), j ≤ m → x < S[m]) := Lib.hid (fun m hm h => by
              by_cases e : m = j
              · subst e; rw [← hy.out]; exact hxy
              · exact hgt.out m hm (by omega))
            go_wp2_with fail
            go_quiet (fail)
            go_wp2_with fail
            go_roundw
            case rel => exact ⟨j, by omega, by go_num, by obtain ⟨q, e⟩ := Hq.out; subst e; exact ⟨_, World.drewN_drewN _ _ _⟩, hgt2⟩
            case measure => simp [intOf]
          · have hle1 : Hid (S[j] ≤ x) := Lib.hid (by rw [← hy.out]; omega)
            have hxy2 : ¬ x < y := hxy
            have hi1 : (0 : Int) ≤ (j : Int) + 1 := by omega
            have hi2 : (j : Int) + 1 ≤ (ocap : Int) := by omega
            have hi3 : (j : Int) + 1 ≤ (k : Int) := by omega
            by_cases hcj : ocap = j + 1
            · subst hcj
              go_wp2_with fail
              go_quiet (fail)
              go_wp2_with fail
              obtain ⟨W0, hW0⟩ : ∃ W0, W0 = wr.drewN nq := ⟨_, rfl⟩
              rw [← hW0]
              obtain ⟨f1, f2, f3, f4⟩ := HW.out W0 (by obtain ⟨q, e⟩ := Hq.out; subst e; exact ⟨_, hW0.trans (World.drewN_drewN _ _ _)⟩)
              have HW0 := Lib.hid hW0
              clear hW0
              have hS1 := hS.out.1
              have hb1W : b1 < W0.heap.size := by rw [f4]; exact hblt
              have hS1k : j + 1 ≤ k := by omega
              have HT : Hid (∀ W : World, Below W0.heap.size W0 W → ∀ idx u, ((S.take (j + 1)).map (Value.int .i64))[idx]? = some u → W.cell? ((⟨b1, 0, none⟩ : Addr).add idx) = some u) := Lib.hid (fun W hB => take_cells hB hb1W f2 hS1 hS1k)
              have HD : Hid (∀ W : World, Below W0.heap.size W0 W → ∀ idx u, ((S.drop (j + 1)).map (Value.int .i64))[idx]? = some u → W.cell? ((⟨b1, 0, none⟩ : Addr).add idx) = some u) := Lib.hid (fun W hB idx u hu => by have h7 := (List.getElem?_eq_some_iff.1 hu).1; simp at h7; omega)
              have HTL : Hid (((S.take (j + 1)).map (Value.int .i64)).length = (j + 1) * 1) := Lib.hid (take_len hS1 hS1k)
              have HDL : Hid (((S.drop (j + 1)).map (Value.int .i64)).length = 0 * 1) := Lib.hid ((drop_len hS1).trans (by omega))
              have O1 : Hid ((W0.alloc (.cells #[] 3)).drew.ownsRow W0.heap.size 3 1 (.slice (some ⟨W0.heap.size, 0, none⟩) 0 0) 0 []) := Lib.hid (World.ownsRow_lit (base := W0.heap.size) (e := 3) (size := 1) W0 #[] 0 (Nat.le_refl _) (Nat.zero_le _) rfl)
              have O2 : Hid (((W0.alloc (.cells #[] 3)).alloc (.cells #[.int .i64 x] 3)).drew.ownsRow W0.heap.size 3 1 (.slice (some ⟨W0.heap.size, 0, none⟩) 0 0) 0 []) := Lib.hid ((World.ownsRow_lit (base := W0.heap.size) (e := 3) (size := 1) W0 #[] 0 (Nat.le_refl _) (Nat.zero_le _) rfl).alloc _)
              have O3 : Hid (((W0.alloc (.cells #[.int .i64 x] 3)).alloc (.cells #[] 3)).drew.ownsRow W0.heap.size 3 1 (.slice (some ⟨W0.heap.size + 1, 0, none⟩) 0 0) 0 []) := Lib.hid (lit_late _ _ _)
              have B1 : Hid (Below W0.heap.size W0 (W0.alloc (.cells #[] 3)).drew) := Lib.hid ((Below.refl _ _).alloc (Nat.le_refl _) _).drew
              have B2 : Hid (Below W0.heap.size W0 ((W0.alloc (.cells #[] 3)).alloc (.cells #[.int .i64 x] 3)).drew) := Lib.hid (((Below.refl _ _).alloc (Nat.le_refl _) _).alloc (by simp) _).drew
              have B3 : Hid (Below W0.heap.size W0 ((W0.alloc (.cells #[.int .i64 x] 3)).alloc (.cells #[] 3)).drew) := Lib.hid (((Below.refl _ _).alloc (Nat.le_refl _) _).alloc (by simp) _).drew
              have fa : (W0.alloc (.cells #[] 3)).drew.cell? ⟨b, off + k, none⟩ = some (.int .i64 x) := by rw [B1.out.cell (World.block_lt_of_cell? _ _ f1)]; exact f1
              have F35 : Hid (∀ W W' : World, ∀ v35 : Value, Below W0.heap.size W0 W → W.ownsRow W0.heap.size 3 1 v35 0 [] → W.grownBy W' v35.ownBlock → Below W0.heap.size W0 W') := Lib.hid (fun W W' v35 h1 h2 h3 => h1.grown h3 h1.size (own_block h2))
              have e35 : 0 + (j + 1) ≤ maxLen := by unfold maxLen; omega
              have g35 : (0 + (j + 1)) * 8 ≤ 140737488355328 := by omega
              have e41 : 0 + (j + 1) + 1 ≤ maxLen := by unfold maxLen; omega
              have g41 : (0 + (j + 1) + 1) * 8 ≤ 140737488355328 := by omega
              have e45 : 0 + (j + 1) + 1 + 0 ≤ maxLen := by unfold maxLen; omega
              have g45 : (0 + (j + 1) + 1 + 0) * 8 ≤ 140737488355328 := by omega
              have HBs : Hid (∀ (W : World) o, Below W0.heap.size W0 W → W0.heap.size ≤ (W.alloc o).heap.size) := Lib.hid (fun W o h => by have := h.size; simp; omega)
              have HX : Hid (∀ W : World, Below W0.heap.size W0 W → W.cell? ⟨b, off + k, none⟩ = some (.int .i64 x)) := Lib.hid (fun W h => by rw [h.cell (World.block_lt_of_cell? _ _ f1)]; exact f1)
              have HC2 : Hid (∀ W : World, ((W0.alloc (.cells #[] 3)).alloc (.cells #[.int .i64 x] 3)).drew.grownBy W (some W0.heap.size) → ∀ idx u, [Value.int .i64 x][idx]? = some u → W.cell? ((⟨W0.heap.size + 1, 0, none⟩ : Addr).add idx) = some u) := Lib.hid (fun W h => late_cell2 h)
              have HC3 : Hid (∀ W : World, ((W0.alloc (.cells #[.int .i64 x] 3)).alloc (.cells #[] 3)).drew.grownBy W (some (W0.heap.size + 1)) → ∀ idx u, [Value.int .i64 x][idx]? = some u → W.cell? ((⟨W0.heap.size, 0, none⟩ : Addr).add idx) = some u) := Lib.hid (fun W h => late_cell3 h)
              have hk1 : k + 1 ≤ n := by omega
              have F3 := Lib.hid f3
              have hSn : Hid ((S.take (j + 1) ++ [x] ++ S.drop (j + 1)).length = k + 1 ∧ (S.take (j + 1) ++ [x] ++ S.drop (j + 1)).Perm (zs.take (k + 1)) ∧ (S.take (j + 1) ++ [x] ++ S.drop (j + 1)).Pairwise (fun a b => a ≤ b)) := Lib.hid (by
                refine ⟨by simp; omega, ?_, ins_sorted hS.out.2.2 (by omega) (fun m hm h => hgt.out m hm h) (.inr ⟨hjS, hle1.out⟩)⟩
                rw [List.take_succ_eq_append_getElem hzl, ← hx.out]
                exact ins_perm _ hS.out.2.1)
              clear f2 f3 f4 hS1 hS1k hb1W hblt hbb
              go_region_law (first
                | (refine step_append_own rfl (.tmp 31) (.tmp 34) 22 rfl W0.heap.size 3 i0 (.int .i64 0) 1 8 Tryz.underlying22 hi hz0 hz1 hz2 rfl (by decide) (.slice (some ⟨W0.heap.size, 0, none⟩) 0 0) 0 [] rfl O1.out ⟨b1, 0, none⟩ (j + 1) (j + 1) ((S.take (j + 1)).map (Value.int .i64)) rfl HTL.out (HT.out _ B1.out) (one_cells _) e35 g35 B1.out.size ?_; intro v35 w35 hown35 hgr35; have hB35 := F35.out _ _ _ B1.out O1.out hgr35; have hx35 := HX.out w35 hB35)
                | (refine step_append_own rfl (.tmp 31) (.tmp 34) 22 rfl W0.heap.size 3 i0 (.int .i64 0) 1 8 Tryz.underlying22 hi hz0 hz1 hz2 rfl (by decide) (.slice (some ⟨W0.heap.size, 0, none⟩) 0 0) 0 [] rfl O2.out ⟨b1, 0, none⟩ (j + 1) (j + 1) ((S.take (j + 1)).map (Value.int .i64)) rfl HTL.out (HT.out _ B2.out) (one_cells _) e35 g35 B2.out.size ?_; intro v35 w35 hown35 hgr35; have hB35 := F35.out _ _ _ B2.out O2.out hgr35; have hx40 := Lib.hid (HC2.out w35 hgr35))
                | (refine step_append_own rfl (.tmp 31) (.tmp 34) 22 rfl W0.heap.size 3 i0 (.int .i64 0) 1 8 Tryz.underlying22 hi hz0 hz1 hz2 rfl (by decide) (.slice (some ⟨W0.heap.size + 1, 0, none⟩) 0 0) 0 [] rfl O3.out ⟨b1, 0, none⟩ (j + 1) (j + 1) ((S.take (j + 1)).map (Value.int .i64)) rfl HTL.out (HT.out _ B3.out) (one_cells _) e35 g35 B3.out.size ?_; intro v35 w35 hown35 hgr35; have hB35 := F35.out _ _ _ B3.out O3.out hgr35; have hx40 := Lib.hid (HC3.out w35 hgr35))
                | (refine step_append_own rfl (.tmp 35) (.tmp 40) 22 rfl W0.heap.size 3 i0 (.int .i64 0) 1 8 Tryz.underlying22 hi hz0 hz1 hz2 rfl (by decide) v35 (0 + (j + 1)) _ rfl (hown35.alloc _) ⟨w35.heap.size, 0, none⟩ 1 1 [.int .i64 x] rfl rfl (cell_one_new _ _ _) (one_c _ _) e41 g41 (HBs.out w35 _ hB35) ?_; intro v41 w41 hown41 hgr41; have hB41 := (hB35.alloc hB35.size _).grown hgr41 (HBs.out w35 _ hB35) (own_block hown35))
                | (refine step_append_own rfl (.tmp 35) (.tmp 40) 22 rfl W0.heap.size 3 i0 (.int .i64 0) 1 8 Tryz.underlying22 hi hz0 hz1 hz2 rfl (by decide) v35 (0 + (j + 1)) _ rfl hown35 _ 1 1 [.int .i64 x] rfl rfl hx40.out (one_c _ _) e41 g41 hB35.size ?_; intro v41 w41 hown41 hgr41; have hB41 := hB35.grown hgr41 hB35.size (own_block hown35))
                | (refine step_append_own rfl (.tmp 41) (.tmp 44) 22 rfl W0.heap.size 3 i0 (.int .i64 0) 1 8 Tryz.underlying22 hi hz0 hz1 hz2 rfl (by decide) v41 (0 + (j + 1) + 1) _ rfl hown41 ⟨b1, 0, none⟩ 0 0 ((S.drop (j + 1)).map (Value.int .i64)) rfl HDL.out (HD.out _ hB41) (one_cells _) e45 g45 hB41.size ?_; intro v45 w45 hown45 hgr45; have hB45 := hB41.grown hgr45 hB41.size (own_block hown41)))
              all_goals
                have hnew : w45.ownsRow w.heap.size 3 1 v45 (k + 1) ((S.take (j + 1) ++ [x] ++ S.drop (j + 1)).map (Value.int .i64)) := own_base (by
                  have e : 0 + (j + 1) + 1 + 0 = k + 1 := by omega
                  rw [e] at hown45
                  simpa using hown45) F3.out.size
                obtain ⟨g, gcap, rfl, hg1, hg2, hg3, hg4⟩ := own_some hnew
                have hB := F3.out.trans (hB45.mono F3.out.size)
                unfold maxLen at hg4
                clear hown45 hgr45 hB45
                go_wp2_with fail
                go_roundw
                case rel => exact ⟨k + 1, _, g, gcap, hk1, by go_num, hSn, hB, rfl, hg1, hg2, hg3, by omega, hnew⟩
                case measure => simp [intOf]; omega
            · have hcj2 : ¬ (ocap : Int) = (j : Int) + 1 := by omega
              go_wp2_with fail
              go_quiet (fail)
              go_wp2_with fail
              obtain ⟨W0, hW0⟩ : ∃ W0, W0 = wr.drewN nq := ⟨_, rfl⟩
              rw [← hW0]
              obtain ⟨f1, f2, f3, f4⟩ := HW.out W0 (by obtain ⟨q, e⟩ := Hq.out; subst e; exact ⟨_, hW0.trans (World.drewN_drewN _ _ _)⟩)
              have HW0 := Lib.hid hW0
              clear hW0
              have hS1 := hS.out.1
              have hb1W : b1 < W0.heap.size := by rw [f4]; exact hblt
              have hS1k : j + 1 ≤ k := by omega
              have HT : Hid (∀ W : World, Below W0.heap.size W0 W → ∀ idx u, ((S.take (j + 1)).map (Value.int .i64))[idx]? = some u → W.cell? ((⟨b1, 0, none⟩ : Addr).add idx) = some u) := Lib.hid (fun W hB => take_cells hB hb1W f2 hS1 hS1k)
              have HD : Hid (∀ W : World, Below W0.heap.size W0 W → ∀ idx u, ((S.drop (j + 1)).map (Value.int .i64))[idx]? = some u → W.cell? ((⟨b1, j + 1, none⟩ : Addr).add idx) = some u) := Lib.hid (fun W hB => drop_cells hB hb1W f2 hS1)
              have HTL : Hid (((S.take (j + 1)).map (Value.int .i64)).length = (j + 1) * 1) := Lib.hid (take_len hS1 hS1k)
              have HDL : Hid (((S.drop (j + 1)).map (Value.int .i64)).length = (k - (j + 1)) * 1) := Lib.hid ((drop_len hS1).trans (by omega))
              have O1 : Hid ((W0.alloc (.cells #[] 3)).drew.ownsRow W0.heap.size 3 1 (.slice (some ⟨W0.heap.size, 0, none⟩) 0 0) 0 []) := Lib.hid (World.ownsRow_lit (base := W0.heap.size) (e := 3) (size := 1) W0 #[] 0 (Nat.le_refl _) (Nat.zero_le _) rfl)
              have O2 : Hid (((W0.alloc (.cells #[] 3)).alloc (.cells #[.int .i64 x] 3)).drew.ownsRow W0.heap.size 3 1 (.slice (some ⟨W0.heap.size, 0, none⟩) 0 0) 0 []) := Lib.hid ((World.ownsRow_lit (base := W0.heap.size) (e := 3) (size := 1) W0 #[] 0 (Nat.le_refl _) (Nat.zero_le _) rfl).alloc _)
              have O3 : Hid (((W0.alloc (.cells #[.int .i64 x] 3)).alloc (.cells #[] 3)).drew.ownsRow W0.heap.size 3 1 (.slice (some ⟨W0.heap.size + 1, 0, none⟩) 0 0) 0 []) := Lib.hid (lit_late _ _ _)
              have B1 : Hid (Below W0.heap.size W0 (W0.alloc (.cells #[] 3)).drew) := Lib.hid ((Below.refl _ _).alloc (Nat.le_refl _) _).drew
              have B2 : Hid (Below W0.heap.size W0 ((W0.alloc (.cells #[] 3)).alloc (.cells #[.int .i64 x] 3)).drew) := Lib.hid (((Below.refl _ _).alloc (Nat.le_refl _) _).alloc (by simp) _).drew
              have B3 : Hid (Below W0.heap.size W0 ((W0.alloc (.cells #[.int .i64 x] 3)).alloc (.cells #[] 3)).drew) := Lib.hid (((Below.refl _ _).alloc (Nat.le_refl _) _).alloc (by simp) _).drew
              have fa : (W0.alloc (.cells #[] 3)).drew.cell? ⟨b, off + k, none⟩ = some (.int .i64 x) := by rw [B1.out.cell (World.block_lt_of_cell? _ _ f1)]; exact f1
              have F35 : Hid (∀ W W' : World, ∀ v35 : Value, Below W0.heap.size W0 W → W.ownsRow W0.heap.size 3 1 v35 0 [] → W.grownBy W' v35.ownBlock → Below W0.heap.size W0 W') := Lib.hid (fun W W' v35 h1 h2 h3 => h1.grown h3 h1.size (own_block h2))
              have e35 : 0 + (j + 1) ≤ maxLen := by unfold maxLen; omega
              have g35 : (0 + (j + 1)) * 8 ≤ 140737488355328 := by omega
              have e41 : 0 + (j + 1) + 1 ≤ maxLen := by unfold maxLen; omega
              have g41 : (0 + (j + 1) + 1) * 8 ≤ 140737488355328 := by omega
              have e45 : 0 + (j + 1) + 1 + (k - (j + 1)) ≤ maxLen := by unfold maxLen; omega
              have g45 : (0 + (j + 1) + 1 + (k - (j + 1))) * 8 ≤ 140737488355328 := by omega
              have HBs : Hid (∀ (W : World) o, Below W0.heap.size W0 W → W0.heap.size ≤ (W.alloc o).heap.size) := Lib.hid (fun W o h => by have := h.size; simp; omega)
              have HX : Hid (∀ W : World, Below W0.heap.size W0 W → W.cell? ⟨b, off + k, none⟩ = some (.int .i64 x)) := Lib.hid (fun W h => by rw [h.cell (World.block_lt_of_cell? _ _ f1)]; exact f1)
              have HC2 : Hid (∀ W : World, ((W0.alloc (.cells #[] 3)).alloc (.cells #[.int .i64 x] 3)).drew.grownBy W (some W0.heap.size) → ∀ idx u, [Value.int .i64 x][idx]? = some u → W.cell? ((⟨W0.heap.size + 1, 0, none⟩ : Addr).add idx) = some u) := Lib.hid (fun W h => late_cell2 h)
              have HC3 : Hid (∀ W : World, ((W0.alloc (.cells #[.int .i64 x] 3)).alloc (.cells #[] 3)).drew.grownBy W (some (W0.heap.size + 1)) → ∀ idx u, [Value.int .i64 x][idx]? = some u → W.cell? ((⟨W0.heap.size, 0, none⟩ : Addr).add idx) = some u) := Lib.hid (fun W h => late_cell3 h)
              have hk1 : k + 1 ≤ n := by omega
              have F3 := Lib.hid f3
              have hSn : Hid ((S.take (j + 1) ++ [x] ++ S.drop (j + 1)).length = k + 1 ∧ (S.take (j + 1) ++ [x] ++ S.drop (j + 1)).Perm (zs.take (k + 1)) ∧ (S.take (j + 1) ++ [x] ++ S.drop (j + 1)).Pairwise (fun a b => a ≤ b)) := Lib.hid (by
                refine ⟨by simp; omega, ?_, ins_sorted hS.out.2.2 (by omega) (fun m hm h => hgt.out m hm h) (.inr ⟨hjS, hle1.out⟩)⟩
                rw [List.take_succ_eq_append_getElem hzl, ← hx.out]
                exact ins_perm _ hS.out.2.1)
              clear f2 f3 f4 hS1 hS1k hb1W hblt hbb
              go_region_law (first
                | (refine step_append_own rfl (.tmp 31) (.tmp 34) 22 rfl W0.heap.size 3 i0 (.int .i64 0) 1 8 Tryz.underlying22 hi hz0 hz1 hz2 rfl (by decide) (.slice (some ⟨W0.heap.size, 0, none⟩) 0 0) 0 [] rfl O1.out ⟨b1, 0, none⟩ (j + 1) ocap ((S.take (j + 1)).map (Value.int .i64)) rfl HTL.out (HT.out _ B1.out) (one_cells _) e35 g35 B1.out.size ?_; intro v35 w35 hown35 hgr35; have hB35 := F35.out _ _ _ B1.out O1.out hgr35; have hx35 := HX.out w35 hB35)
                | (refine step_append_own rfl (.tmp 31) (.tmp 34) 22 rfl W0.heap.size 3 i0 (.int .i64 0) 1 8 Tryz.underlying22 hi hz0 hz1 hz2 rfl (by decide) (.slice (some ⟨W0.heap.size, 0, none⟩) 0 0) 0 [] rfl O2.out ⟨b1, 0, none⟩ (j + 1) ocap ((S.take (j + 1)).map (Value.int .i64)) rfl HTL.out (HT.out _ B2.out) (one_cells _) e35 g35 B2.out.size ?_; intro v35 w35 hown35 hgr35; have hB35 := F35.out _ _ _ B2.out O2.out hgr35; have hx40 := Lib.hid (HC2.out w35 hgr35))
                | (refine step_append_own rfl (.tmp 31) (.tmp 34) 22 rfl W0.heap.size 3 i0 (.int .i64 0) 1 8 Tryz.underlying22 hi hz0 hz1 hz2 rfl (by decide) (.slice (some ⟨W0.heap.size + 1, 0, none⟩) 0 0) 0 [] rfl O3.out ⟨b1, 0, none⟩ (j + 1) ocap ((S.take (j + 1)).map (Value.int .i64)) rfl HTL.out (HT.out _ B3.out) (one_cells _) e35 g35 B3.out.size ?_; intro v35 w35 hown35 hgr35; have hB35 := F35.out _ _ _ B3.out O3.out hgr35; have hx40 := Lib.hid (HC3.out w35 hgr35))
                | (refine step_append_own rfl (.tmp 35) (.tmp 40) 22 rfl W0.heap.size 3 i0 (.int .i64 0) 1 8 Tryz.underlying22 hi hz0 hz1 hz2 rfl (by decide) v35 (0 + (j + 1)) _ rfl (hown35.alloc _) ⟨w35.heap.size, 0, none⟩ 1 1 [.int .i64 x] rfl rfl (cell_one_new _ _ _) (one_c _ _) e41 g41 (HBs.out w35 _ hB35) ?_; intro v41 w41 hown41 hgr41; have hB41 := (hB35.alloc hB35.size _).grown hgr41 (HBs.out w35 _ hB35) (own_block hown35))
                | (refine step_append_own rfl (.tmp 35) (.tmp 40) 22 rfl W0.heap.size 3 i0 (.int .i64 0) 1 8 Tryz.underlying22 hi hz0 hz1 hz2 rfl (by decide) v35 (0 + (j + 1)) _ rfl hown35 _ 1 1 [.int .i64 x] rfl rfl hx40.out (one_c _ _) e41 g41 hB35.size ?_; intro v41 w41 hown41 hgr41; have hB41 := hB35.grown hgr41 hB35.size (own_block hown35))
                | (refine step_append_own rfl (.tmp 41) (.tmp 44) 22 rfl W0.heap.size 3 i0 (.int .i64 0) 1 8 Tryz.underlying22 hi hz0 hz1 hz2 rfl (by decide) v41 (0 + (j + 1) + 1) _ rfl hown41 ⟨b1, j + 1, none⟩ (k - (j + 1)) (ocap - (j + 1)) ((S.drop (j + 1)).map (Value.int .i64)) rfl HDL.out (HD.out _ hB41) (one_cells _) e45 g45 hB41.size ?_; intro v45 w45 hown45 hgr45; have hB45 := hB41.grown hgr45 hB41.size (own_block hown41)))
              all_goals
                have hnew : w45.ownsRow w.heap.size 3 1 v45 (k + 1) ((S.take (j + 1) ++ [x] ++ S.drop (j + 1)).map (Value.int .i64)) := own_base (by
                  have e : 0 + (j + 1) + 1 + (k - (j + 1)) = k + 1 := by omega
                  rw [e] at hown45
                  simpa using hown45) F3.out.size
                obtain ⟨g, gcap, rfl, hg1, hg2, hg3, hg4⟩ := own_some hnew
                have hB := F3.out.trans (hB45.mono F3.out.size)
                unfold maxLen at hg4
                clear hown45 hgr45 hB45
                go_wp2_with fail
                go_roundw
                case rel => exact ⟨k + 1, _, g, gcap, hk1, by go_num, hSn, hB, rfl, hg1, hg2, hg3, by omega, hnew⟩
                case measure => simp [intOf]; omega
    · obtain rfl : k = n := by omega
      have hwr := Lib.hid (own_wr (k := .i64) (zs := S) (by rw [hS.out.1]; exact hown) (fun y hy => hwf y (by
        have := (hS.out.2.1).mem_iff.1 hy
        exact List.mem_of_mem_take this)))
      have He : Hid (S = sortI zs) := Lib.hid (by
        have h1 := hS.out.2.1
        rw [List.take_of_length_le (by rw [Hn.out]; exact Nat.le_refl _)] at h1
        exact sortI_unique h1 hS.out.2.2)
      clear hown
      go_wp2_with fail
      go_ret
      obtain ⟨b', hb', hw'⟩ := hwr.out
      exact ⟨_, b', rfl, hb', by rw [← He.out]; exact hw', hb2⟩
end Go.Proofs.YtmhbonbjnpcpeaaGreatDoor
namespace Go.Proofs.YtmhbonbjnpcpeaaGreatDoor
open Go.RowKit
set_option linter.unusedVariables false
set_option linter.unusedSimpArgs false

set_option maxRecDepth 100000 in
set_option maxHeartbeats 2000000 in
theorem sPlayable_any (v : Value) (D : MGame) (w : World) (h : RdGame w v D) (hf : D.Few) :
    Calls Tryz.prog 12 #[v] w fun e w' => ∃ v', e = .returned v' ∧ OwnI (In w.heap.size w'.heap.size) w' v' (playableG D) ∧ Below w.heap.size w w' := by
  have h00 := h
  obtain ⟨p4, p5, p8, p9, p10, c4, c5, c8, c9, c10, b9, b10, rfl, h0, h8, h9, h10, wf0, wf1, wf2⟩ := h
  obtain ⟨f0, f8, fs8, f9, f10⟩ := id hf
  have HF := Lib.hid (fun wx (hb : Below w.heap.size w wx) => sIsGame_any _ D wx (h00.below hb) hf _ rfl)
  have HO := Lib.hid (fun wx (hb : Below w.heap.size w wx) => sOver_any _ D wx (h00.below hb) hf _ rfl)
  have HS := Lib.hid (fun v zs b wx (h : RdAt .i64 wx v zs b) (hl : zs.length ≤ 1048576) => sSorted_any v zs b wx h hl)
  have Hrow := Lib.hid (fun wx (hb : Below w.heap.size w wx) j (hj : j < D.hands.length) => (h8.below hb).row hj)
  have H10 := Lib.hid (fun wx (hb : Below w.heap.size w wx) => (h10.below hb).open)
  have HR := Lib.hid (fun wx (hb : Below w.heap.size w wx) t c => sFitsOn_any _ D.rules t c wx (h0.below hb) f0 _ rfl)
  have Hsum : Hid (∀ j (hj : j < D.hands.length), D.hands[j].length ≤ 1048576) := Lib.hid (fun j hj => Nat.le_trans (len_le_sum D.hands hj) fs8)
  have H2 := Lib.hid (fun w1 o1 o2 bb => two_boxesR (w := w) (w1 := w1) (o1 := o1) (o2 := o2) bb)
  have B0 : ∀ o1 o2, Below w.heap.size w ((w.alloc o1).alloc o2) := fun o1 o2 => ((Below.refl w.heap.size w).alloc (Nat.le_refl _) o1).alloc (by simp) o2
  clear h00 h0 h8 h9 h10 hf f0 fs8 f9 wf0 wf1 wf2 f8
  go_enter Tryz.func12, Tryz.ntmps12
  go_wp2_with fail
  refine (HF.out _ (B0 _ _)).mono ?_
  rintro e w1 ⟨rfl, B1⟩
  obtain ⟨Bw1, G1, R1⟩ := H2.out _ _ _ B1
  have l1 : w.heap.size + 1 < w1.heap.size := (Array.getElem?_eq_some_iff.1 R1).1
  clear B1
  obtain ⟨k0, k1, k2, k3, k4, k5, k6, k7, k8, k9, k10, k11, k12, k13⟩ := SGame_cells G1
  cases hq : gameB D with
  | false =>
    have hm := Lib.hid (playable_f (goes_0 hq))
    clear hq
    go_wp2_with fail
    go_ret
    exact ⟨_, rfl, by rw [hm.out]; exact OwnI.nil _ _ _, Bw1⟩
  | true =>
    have HG := Lib.hid G1
    clear G1 R1
    go_wp2_with fail
    refine (HO.out _ Bw1).mono ?_
    rintro e w2 ⟨rfl, B2⟩
    have Bw2 := Bw1.trans (B2.mono Bw1.size)
    have G2 := (B2.block _ (show w.heap.size < w1.heap.size by omega)).trans HG.out
    clear k0 k1 k2 k3 k4 k5 k6 k7 k8 k9 k10 k11 k12 k13
    obtain ⟨k0, k1, k2, k3, k4, k5, k6, k7, k8, k9, k10, k11, k12, k13⟩ := SGame_cells G2
    cases ho : overB D with
    | true =>
      have hm := Lib.hid (playable_f (goes_1 ho))
      clear hq ho
      go_wp2_with fail
      go_ret
      exact ⟨_, rfl, by rw [hm.out]; exact OwnI.nil _ _ _, Bw2⟩
    | false =>
      have hm := Lib.hid (playable_t (goes_2 hq ho))
      obtain ⟨t, ht, htl, -, -, -, -, -, -, -, -, -, -⟩ := game_nums hq
      obtain ⟨L, hL⟩ := game_top hq
      obtain ⟨b8, o8, cap, pr, cr, br, hv, hcr, hrr, -⟩ := Hrow.out w2 Bw2 t htl
      have ha := (Value.slice.inj hv).1
      clear hv
      subst ha
      obtain ⟨o10, cap2, hv2, hcc⟩ : ∃ off2 cap2, (Value.slice p10 D.heap.length c10) = .slice (some ⟨b10, off2, none⟩) D.heap.length cap2 ∧ ∀ j (hj : j < D.heap.length), w.cell? ⟨b10, off2 + j, none⟩ = some (.int .i64 D.heap[j]) := by
        rcases H10.out w (Below.refl _ _) with ⟨e, -⟩ | ⟨-, o, cc, hv, -, hc⟩
        · rw [e] at hL; simp at hL
        · exact ⟨o, cc, hv, hc⟩
      have ha2 := (Value.slice.inj hv2).1
      clear hv2
      subst ha2
      obtain ⟨top, htop⟩ : ∃ t, t = topG D := ⟨_, rfl⟩
      have hct : w.cell? ⟨b10, o10 + L, none⟩ = some (.int .i64 top) := by
        rw [hcc L (by omega), htop]; unfold topG; rw [show D.heap.length - 1 = L from by omega]; simp [List.getD, show L < D.heap.length from by omega]
      have hsm := Hsum.out t htl
      obtain ⟨zr, hzr⟩ : ∃ z, z = D.hands[t]'htl := ⟨_, rfl⟩
      have hz : handG D = zr := by unfold handG; rw [hzr, ht]; simp [List.getD, htl]
      rw [← hzr] at hcr hrr hsm
      have HCr := Lib.hid (HS.out _ zr _ w2 hrr hsm)
      have hti : (t : Int) < (D.hands.length : Int) := by omega
      have hw0 : IntKind.i64.wrap ((D.heap.length : Int) - 1) = (L : Int) := by rw [IntWalk.i64_in _ (by omega)]; omega
      have hl2 : (L : Int) < (D.heap.length : Int) := by omega
      have HL := Lib.hid (And.intro hw0 (And.intro hl2 (And.intro hL (And.intro hm.out (And.intro hz (And.intro htop hsm))))))
      have Hf10 := Lib.hid f10
      rw [ht] at k11
      have HB2 := Lib.hid (And.intro l1 B2.size)
      have HG2 : Hid (w2.heap[w.heap.size]? = some (.cells #[.int .i64 D.rules.players, .int .i64 D.rules.each, .bool D.rules.sameSuit, .bool D.rules.sameRank, .slice p4 D.rules.wild.length c4, .slice p5 D.rules.skip.length c5, .int .i64 D.rules.take, .int .i64 D.rules.limit, .slice (some ⟨b8, o8, none⟩) D.hands.length c8, .slice p9 D.stock.length c9, .slice (some ⟨b10, o10, none⟩) D.heap.length c10, .int .i64 t, .int .i64 D.moves, .int .i64 D.passes] 32 (0, 0))) := Lib.hid (by rw [← ht]; exact G2)
      have Hct := Lib.hid hct
      clear hq ho htl hzr hz htop hct hcc hrr hsm hL hm hw0 hl2 l1 B2 G2 ht
      go_wp2_with fail
      refine HCr.out.mono ?_
      rintro e w3 ⟨vs, bs, rfl, hbs, hws, B3⟩
      have Bw3 := Bw2.trans (B3.mono Bw2.size)
      obtain ⟨hw0, hl2, hL, hm, hz, htop, hsm⟩ := HL.out
      obtain ⟨Z, hZ⟩ : ∃ Z, Z = sortI zr := ⟨_, rfl⟩
      rw [← hZ] at hws
      have hZl : Z.length ≤ 1048576 := by rw [hZ, sortI_len]; exact hsm
      obtain ⟨n, hn⟩ : ∃ n, n = Z.length := ⟨_, rfl⟩
      obtain ⟨ps, cs, es, -⟩ := id hws
      subst es
      have Hcell : Hid (∀ wx, Below w3.heap.size w3 wx → ∀ k (hk : k < Z.length), ∃ os, ps = some ⟨bs, os, none⟩ ∧ wx.cell? ⟨bs, os + k, none⟩ = some (.int .i64 Z[k])) := Lib.hid (fun wx hb k hk => by
        rcases (hws.rd.below hb).open with ⟨e, -⟩ | ⟨-, off, c, hv, -, hc⟩
        · rw [e] at hk; simp at hk
        · exact ⟨off, (Value.slice.inj hv).1, hc k hk⟩)
      have Hn := Lib.hid hn
      have Hwf := Lib.hid hws.rd.wf
      have own3 : Hid (OwnI (In w3.heap.size w3.heap.size) w3 (.slice (some ⟨w.heap.size + 1, 0, none⟩) 0 0) (([] : List Int).filter (fitF D))) := Lib.hid (OwnI.nil _ _ _)
      have HP : Hid (playableG D = Z.filter (fitF D)) := Lib.hid (by rw [hm, hz, hZ])
      have HT : Hid (fitF D = fun c => fitsOn D.rules top c) := Lib.hid (by funext c; unfold fitF; rw [htop])
      have HG3 : Hid (∀ wx, Below w3.heap.size w3 wx → wx.heap[w.heap.size]? = some (.cells #[.int .i64 D.rules.players, .int .i64 D.rules.each, .bool D.rules.sameSuit, .bool D.rules.sameRank, .slice p4 D.rules.wild.length c4, .slice p5 D.rules.skip.length c5, .int .i64 D.rules.take, .int .i64 D.rules.limit, .slice (some ⟨b8, o8, none⟩) D.hands.length c8, .slice p9 D.stock.length c9, .slice (some ⟨b10, o10, none⟩) D.heap.length c10, .int .i64 t, .int .i64 D.moves, .int .i64 D.passes] 32 (0, 0)) ∧ wx.cell? ⟨b10, o10 + L, none⟩ = some (.int .i64 top)) := Lib.hid (fun wx hb => by
        have Bx : Below w2.heap.size w2 wx := B3.trans (hb.mono B3.size)
        have q1 := HB2.out.1
        have q2 := HB2.out.2
        refine ⟨(Bx.block _ (by omega)).trans HG2.out, ?_⟩
        have Bwx := Bw3.trans (hb.mono Bw3.size)
        exact (Bwx.cell (World.block_lt_of_cell? _ _ Hct.out)).trans Hct.out)
      have HBw3 := Lib.hid Bw3
      have HZn : Hid (n ≤ 1048576) := Lib.hid (by rw [hn]; exact hZl)
      rw [← hn]
      clear hws hZ hZl hn hw0 hl2 hL hm hz htop hsm B3 Bw3 k0 k1 k2 k3 k4 k5 k6 k7 k8 k9 k10 k11 k12 k13
      go_wp2_with fail
      go_loopw [3, 5] (fun o i wr => ∃ k : Nat, k ≤ n ∧ i = .int .i64 k ∧ Below w3.heap.size w3 wr ∧ Hid (OwnI (In w3.heap.size wr.heap.size) wr o ((Z.take k).filter (fitF D)))) (fun _ i _ => n - (intOf i).toNat)
      case atStart => exact ⟨0, Nat.zero_le _, rfl, Below.refl _ _, own3⟩
      case round =>
        clear own3
        obtain ⟨k, hk, rfl, B, ho⟩ := hrel
        by_cases hlt : k < n
        · have hz : k < Z.length := by rw [← Hn.out]; exact hlt
          obtain ⟨y, hy⟩ : ∃ y, y = Z[k]'hz := ⟨_, rfl⟩
          obtain ⟨q, hq⟩ : ∃ q, q = fitsOn D.rules top y := ⟨_, rfl⟩
          obtain ⟨os, hps, -⟩ := Hcell.out wr B k hz
          subst hps
          have HC := Lib.hid (fun wx (hb : Below wr.heap.size wr wx) => And.intro (SGame_cells (HG3.out wx (B.trans (hb.mono B.size))).1) (And.intro (HG3.out wx (B.trans (hb.mono B.size))).2 (show wx.cell? ⟨bs, os + k, none⟩ = some (.int .i64 y) by
            obtain ⟨os', e, hc⟩ := Hcell.out wx (B.trans (hb.mono B.size)) k hz
            have e2 : os = os' := by simpa using e
            rw [e2, hy]; exact hc)))
          have HQ : Hid (∀ wx, Below wr.heap.size wr wx → Calls Tryz.prog 28 #[.agg #[.int .i64 D.rules.players, .int .i64 D.rules.each, .bool D.rules.sameSuit, .bool D.rules.sameRank, .slice p4 D.rules.wild.length c4, .slice p5 D.rules.skip.length c5, .int .i64 D.rules.take, .int .i64 D.rules.limit], .int .i64 top, .int .i64 y] wx fun e w' => e = .returned (.bool q) ∧ Below wx.heap.size wx w') := Lib.hid (fun wx hb => by
            have Bx := HBw3.out.trans ((B.trans (hb.mono B.size)).mono HBw3.out.size)
            rw [hq]; exact HR.out wx Bx top y)
          have hstep : Hid ((Z.take (k + 1)).filter (fitF D) = (Z.take k).filter (fitF D) ++ if q = true then [y] else []) := Lib.hid (by rw [filt_takeM _ _ _ hz, hq, hy, HT.out])
          have hyw : Hid ((Lit.int .i64 y).wf = true) := Lib.hid (Hwf.out y (by rw [hy]; exact List.getElem_mem _))
          have hkn : (k : Int) < (n : Int) := by omega
          have Hk := Lib.hid hlt
          have hnl : n ≤ 1048576 := HZn.out
          obtain ⟨hw0, hl2, -⟩ := HL.out
          obtain ⟨po, co, eo⟩ := ho.out.shape
          subst eo
          clear hy hq hz
          go_upto_region 8 with fail
          refine wp_region_table [(0, some 28, .is (.pointer (some ⟨w.heap.size, 0, none⟩))), (1, some 29, .is (.agg #[.int .i64 D.rules.players, .int .i64 D.rules.each, .bool D.rules.sameSuit, .bool D.rules.sameRank, .slice p4 D.rules.wild.length c4, .slice p5 D.rules.skip.length c5, .int .i64 D.rules.take, .int .i64 D.rules.limit])), (2, some 30, .is (.pointer (some ⟨w.heap.size, 10, none⟩))), (3, some 31, .is (.slice (some ⟨b10, o10, none⟩) D.heap.length c10)), (4, some 32, .is (.pointer (some ⟨w.heap.size, 10, none⟩))), (5, some 33, .is (.slice (some ⟨b10, o10, none⟩) D.heap.length c10)), (6, some 34, .is (.int .i64 D.heap.length)), (7, some 35, .is (.int .i64 L)), (8, some 36, .is (.pointer (some ⟨b10, o10 + L, none⟩))), (9, some 37, .is (.int .i64 top)), (10, some 38, .is (.slice (some ⟨bs, os, none⟩) n cs)), (11, some 39, .is (.int .i64 k)), (12, some 40, .is (.pointer (some ⟨bs, os + k, none⟩))), (13, some 41, .is (.int .i64 y)), (14, some 42, .is (.bool q))] 0 (by kernel_rfl) (by kernel_rfl) (by kernel_rfl) (by kernel_rfl) (by kernel_rfl) (L := #[true, true, true, true, true, true, true, true, true, true, true, true, true, true, true]) (by kernel_rfl) ?steps ?fin
          case steps =>
            refine StepsT.cons [] (by simp only [List.getElem?_toArray, List.getElem?_cons_succ, List.getElem?_cons_zero]; rfl) (by kernel_rfl) (by rfl) (fun wx val iv hB hV K hK => ?_) ?_
            · clear hV; simp only [putT, List.foldl_cons, List.foldl_nil, Made.val, Act.put, List.setIfInBounds_toArray, List.set_cons_zero, List.set_cons_succ]; go_simp; exact hK.out _ _ rfl (Below.refl _ _)
            refine StepsT.cons [(0, some 28, .is (.pointer (some ⟨w.heap.size, 0, none⟩)))] (by simp only [List.getElem?_toArray, List.getElem?_cons_succ, List.getElem?_cons_zero]; rfl) (by kernel_rfl) (by rfl) (fun wx val iv hB hV K hK => ?_) ?_
            · (obtain ⟨⟨k0, k1, k2, k3, k4, k5, k6, k7, k8, k9, k10, k11, k12, k13⟩, kt, ks⟩ := HC.out wx hB); clear hV; simp only [putT, List.foldl_cons, List.foldl_nil, Made.val, Act.put, List.setIfInBounds_toArray, List.set_cons_zero, List.set_cons_succ]; go_simp; exact hK.out _ _ rfl (Below.refl _ _)
            refine StepsT.cons [] (by simp only [List.getElem?_toArray, List.getElem?_cons_succ, List.getElem?_cons_zero]; rfl) (by kernel_rfl) (by rfl) (fun wx val iv hB hV K hK => ?_) ?_
            · clear hV; simp only [putT, List.foldl_cons, List.foldl_nil, Made.val, Act.put, List.setIfInBounds_toArray, List.set_cons_zero, List.set_cons_succ]; go_simp; exact hK.out _ _ rfl (Below.refl _ _)
            refine StepsT.cons [(2, some 30, .is (.pointer (some ⟨w.heap.size, 10, none⟩)))] (by simp only [List.getElem?_toArray, List.getElem?_cons_succ, List.getElem?_cons_zero]; rfl) (by kernel_rfl) (by rfl) (fun wx val iv hB hV K hK => ?_) ?_
            · (obtain ⟨⟨k0, k1, k2, k3, k4, k5, k6, k7, k8, k9, k10, k11, k12, k13⟩, kt, ks⟩ := HC.out wx hB); clear hV; simp only [putT, List.foldl_cons, List.foldl_nil, Made.val, Act.put, List.setIfInBounds_toArray, List.set_cons_zero, List.set_cons_succ]; go_simp; exact hK.out _ _ rfl (Below.refl _ _)
            refine StepsT.cons [] (by simp only [List.getElem?_toArray, List.getElem?_cons_succ, List.getElem?_cons_zero]; rfl) (by kernel_rfl) (by rfl) (fun wx val iv hB hV K hK => ?_) ?_
            · clear hV; simp only [putT, List.foldl_cons, List.foldl_nil, Made.val, Act.put, List.setIfInBounds_toArray, List.set_cons_zero, List.set_cons_succ]; go_simp; exact hK.out _ _ rfl (Below.refl _ _)
            refine StepsT.cons [(4, some 32, .is (.pointer (some ⟨w.heap.size, 10, none⟩)))] (by simp only [List.getElem?_toArray, List.getElem?_cons_succ, List.getElem?_cons_zero]; rfl) (by kernel_rfl) (by rfl) (fun wx val iv hB hV K hK => ?_) ?_
            · (obtain ⟨⟨k0, k1, k2, k3, k4, k5, k6, k7, k8, k9, k10, k11, k12, k13⟩, kt, ks⟩ := HC.out wx hB); clear hV; simp only [putT, List.foldl_cons, List.foldl_nil, Made.val, Act.put, List.setIfInBounds_toArray, List.set_cons_zero, List.set_cons_succ]; go_simp; exact hK.out _ _ rfl (Below.refl _ _)
            refine StepsT.cons [(5, some 33, .is (.slice (some ⟨b10, o10, none⟩) D.heap.length c10))] (by simp only [List.getElem?_toArray, List.getElem?_cons_succ, List.getElem?_cons_zero]; rfl) (by kernel_rfl) (by rfl) (fun wx val iv hB hV K hK => ?_) ?_
            · clear hV; simp only [putT, List.foldl_cons, List.foldl_nil, Made.val, Act.put, List.setIfInBounds_toArray, List.set_cons_zero, List.set_cons_succ]; go_simp; exact hK.out _ _ rfl (Below.refl _ _)
            refine StepsT.cons [(6, some 34, .is (.int .i64 D.heap.length))] (by simp only [List.getElem?_toArray, List.getElem?_cons_succ, List.getElem?_cons_zero]; rfl) (by kernel_rfl) (by rfl) (fun wx val iv hB hV K hK => ?_) ?_
            · clear hV; simp only [putT, List.foldl_cons, List.foldl_nil, Made.val, Act.put, List.setIfInBounds_toArray, List.set_cons_zero, List.set_cons_succ]; go_simp; exact hK.out _ _ rfl (Below.refl _ _)
            refine StepsT.cons [(3, some 31, .is (.slice (some ⟨b10, o10, none⟩) D.heap.length c10)), (7, some 35, .is (.int .i64 L))] (by simp only [List.getElem?_toArray, List.getElem?_cons_succ, List.getElem?_cons_zero]; rfl) (by kernel_rfl) (by rfl) (fun wx val iv hB hV K hK => ?_) ?_
            · (obtain ⟨⟨k0, k1, k2, k3, k4, k5, k6, k7, k8, k9, k10, k11, k12, k13⟩, kt, ks⟩ := HC.out wx hB); clear hV; simp only [putT, List.foldl_cons, List.foldl_nil, Made.val, Act.put, List.setIfInBounds_toArray, List.set_cons_zero, List.set_cons_succ]; go_simp; exact hK.out _ _ rfl (Below.refl _ _)
            refine StepsT.cons [(8, some 36, .is (.pointer (some ⟨b10, o10 + L, none⟩)))] (by simp only [List.getElem?_toArray, List.getElem?_cons_succ, List.getElem?_cons_zero]; rfl) (by kernel_rfl) (by rfl) (fun wx val iv hB hV K hK => ?_) ?_
            · (obtain ⟨⟨k0, k1, k2, k3, k4, k5, k6, k7, k8, k9, k10, k11, k12, k13⟩, kt, ks⟩ := HC.out wx hB); clear hV; simp only [putT, List.foldl_cons, List.foldl_nil, Made.val, Act.put, List.setIfInBounds_toArray, List.set_cons_zero, List.set_cons_succ]; go_simp; exact hK.out _ _ rfl (Below.refl _ _)
            refine StepsT.cons [] (by simp only [List.getElem?_toArray, List.getElem?_cons_succ, List.getElem?_cons_zero]; rfl) (by kernel_rfl) (by rfl) (fun wx val iv hB hV K hK => ?_) ?_
            · clear hV; simp only [putT, List.foldl_cons, List.foldl_nil, Made.val, Act.put, List.setIfInBounds_toArray, List.set_cons_zero, List.set_cons_succ]; go_simp; exact hK.out _ _ rfl (Below.refl _ _)
            refine StepsT.cons [] (by simp only [List.getElem?_toArray, List.getElem?_cons_succ, List.getElem?_cons_zero]; rfl) (by kernel_rfl) (by rfl) (fun wx val iv hB hV K hK => ?_) ?_
            · clear hV; simp only [putT, List.foldl_cons, List.foldl_nil, Made.val, Act.put, List.setIfInBounds_toArray, List.set_cons_zero, List.set_cons_succ]; go_simp; exact hK.out _ _ rfl (Below.refl _ _)
            refine StepsT.cons [(10, some 38, .is (.slice (some ⟨bs, os, none⟩) n cs)), (11, some 39, .is (.int .i64 k))] (by simp only [List.getElem?_toArray, List.getElem?_cons_succ, List.getElem?_cons_zero]; rfl) (by kernel_rfl) (by rfl) (fun wx val iv hB hV K hK => ?_) ?_
            · (obtain ⟨⟨k0, k1, k2, k3, k4, k5, k6, k7, k8, k9, k10, k11, k12, k13⟩, kt, ks⟩ := HC.out wx hB); clear hV; simp only [putT, List.foldl_cons, List.foldl_nil, Made.val, Act.put, List.setIfInBounds_toArray, List.set_cons_zero, List.set_cons_succ]; go_simp; exact hK.out _ _ rfl (Below.refl _ _)
            refine StepsT.cons [(12, some 40, .is (.pointer (some ⟨bs, os + k, none⟩)))] (by simp only [List.getElem?_toArray, List.getElem?_cons_succ, List.getElem?_cons_zero]; rfl) (by kernel_rfl) (by rfl) (fun wx val iv hB hV K hK => ?_) ?_
            · (obtain ⟨⟨k0, k1, k2, k3, k4, k5, k6, k7, k8, k9, k10, k11, k12, k13⟩, kt, ks⟩ := HC.out wx hB); clear hV; simp only [putT, List.foldl_cons, List.foldl_nil, Made.val, Act.put, List.setIfInBounds_toArray, List.set_cons_zero, List.set_cons_succ]; go_simp; exact hK.out _ _ rfl (Below.refl _ _)
            refine StepsT.cons [(1, some 29, .is (.agg #[.int .i64 D.rules.players, .int .i64 D.rules.each, .bool D.rules.sameSuit, .bool D.rules.sameRank, .slice p4 D.rules.wild.length c4, .slice p5 D.rules.skip.length c5, .int .i64 D.rules.take, .int .i64 D.rules.limit])), (9, some 37, .is (.int .i64 top)), (13, some 41, .is (.int .i64 y))] (by simp only [List.getElem?_toArray, List.getElem?_cons_succ, List.getElem?_cons_zero]; rfl) (by kernel_rfl) (by rfl) (fun wx val iv hB hV K hK => ?_) ?_
            · (clear hV; simp only [putT, List.foldl_cons, List.foldl_nil, Made.val, Act.put, List.setIfInBounds_toArray, List.set_cons_zero, List.set_cons_succ]; go_simp; go_at_call 28; refine (HQ.out wx hB).mono ?_; rintro e wa ⟨rfl, Ba⟩; exact hK.out _ _ rfl Ba)
            exact StepsT.nil
          case fin =>
            intro wx val iv BX hV hD
            have hq8 : val 14 = .bool q := (hV (14, some 42, .is (.bool q)) (by simp)).1
            clear hV hD
            simp only [putT, List.foldl_cons, List.foldl_nil, Made.val, Act.put, List.setIfInBounds_toArray, List.set_cons_zero, List.set_cons_succ]
            refine wpAny_end (by kernel_rfl) ?_
            have Bn := B.trans (BX.mono B.size)
            obtain ⟨kG, -, ky⟩ := HC.out wx BX
            have ho2 := Lib.hid (ho.out.below BX)
            have HBs := BX.size
            cases q with
            | true =>
              have ha : Below wx.heap.size wx (wx.alloc (.cells #[.int .i64 y] 3)) := (Below.refl _ _).alloc (Nat.le_refl _) _
              have hlen : ((Z.take k).filter (fitF D)).length ≤ 1048576 := Nat.le_trans (List.length_filter_le _ _) (by rw [List.length_take]; have := HZn.out; have := Hn.out; omega)
              obtain ⟨v', w4, hrun, ho4, hg4⟩ := (ho2.out.below ha).append (ys := [y]) ⟨wx.heap.size, 0, none⟩ 1 (by simp) (fun j hj => by
                obtain rfl : j = 0 := by simpa using hj
                have := cell_one_new wx (.int .i64 y) 3 0 (.int .i64 y) rfl
                simpa using this) (by simpa using hyw.out) (by simp; omega) 22
              have hheld : ∀ g, (Value.slice po ((Z.take k).filter (fitF D)).length co).held = some g → w3.heap.size ≤ g ∧ g < wr.heap.size := fun g hg => ((ho.out.held hg).1)
              have B4 : Below w3.heap.size w3 w4 := (Bn.alloc Bn.size _).grown hg4 (by have := Bn.size; simp; omega) (fun g hg => (hheld g hg).1)
              have ho5 : Hid (OwnI (In w3.heap.size w4.heap.size) w4 v' ((Z.take (k + 1)).filter (fitF D))) := Lib.hid (by
                rw [hstep.out]
                refine ho4.mono (fun b hb hl => ?_)
                rcases hb with h | ⟨h, -⟩
                · exact ⟨(hheld b h).1, hl⟩
                · exact ⟨by have := ha.size; have := Bn.size; omega, hl⟩)
              have Q := Lib.hid hrun
              have HB4 := Lib.hid B4
              have kyA : (wx.alloc (.cells #[.int .i64 y] 3)).cell? ⟨bs, os + k, none⟩ = some (.int .i64 y) := (ha.cell (World.block_lt_of_cell? _ _ ky)).trans ky
              obtain ⟨p4', c4', e4'⟩ := ho4.shape
              rw [List.length_append, List.length_singleton] at e4'
              subst e4'
              clear ha hlen hrun ho4 hg4 hheld B4 ho2 Bn HBs kG
              generalize ((Z.take k).filter (fitF D)).length = m at *
              go_wp2_with (at_builtin; refine Lib.wpList_append_run _ rfl _ _ _ _ rfl _ _ rfl rfl _ _ Q.out ?_)
              go_roundw
              case rel => exact ⟨k + 1, Hk.out, by go_num, HB4.out, ho5⟩
              case measure => simp [intOf]; have := Hk.out; omega
            | false =>
              have ho5 : Hid (OwnI (In w3.heap.size wx.heap.size) wx (.slice po ((Z.take k).filter (fitF D)).length co) ((Z.take (k + 1)).filter (fitF D))) := Lib.hid (by
                rw [hstep.out]
                simpa using ho2.out.mono (fun b hb hl => ⟨hb.1, hl⟩))
              have HBn := Lib.hid Bn
              clear ho2 Bn HBs kG
              generalize ((Z.take k).filter (fitF D)).length = m at *
              go_wp2_with fail
              go_roundw
              case rel => exact ⟨k + 1, Hk.out, by go_num, HBn.out, ho5⟩
              case measure => simp [intOf]; have := Hk.out; omega
        · obtain rfl : k = n := by omega
          have hfin : Hid (OwnI (In w.heap.size wr.heap.size) wr = fun v zs => OwnI (In w.heap.size wr.heap.size) wr v zs) := Lib.hid rfl
          have ho3 := Lib.hid (show ∀ v, OwnI (In w3.heap.size wr.heap.size) wr v ((Z.take k).filter (fitF D)) → OwnI (In w.heap.size wr.heap.size) wr v (playableG D) from fun v hv => by
            rw [HP.out, ← (List.take_of_length_le (by rw [Hn.out]; exact Nat.le_refl _) : Z.take k = Z)]
            exact hv.mono (fun b hb hl => ⟨by have := HBw3.out.size; have := hb.1; omega, hl⟩))
          have ho4 := Lib.hid (ho3.out _ ho.out)
          have HBf := Lib.hid (HBw3.out.trans (B.mono HBw3.out.size))
          clear ho ho3 hfin
          go_wp2_with fail
          go_ret
          exact ⟨_, rfl, ho4.out, HBf.out⟩
end Go.Proofs.YtmhbonbjnpcpeaaGreatDoor
namespace Go.Proofs.YtmhbonbjnpcpeaaGreatDoor
open Go.RowKit
set_option linter.unusedVariables false
set_option linter.unusedSimpArgs false

theorem tenG {w : World} {b : Nat} {a0 a1 a2 a3 a4 a5 a6 a7 a8 a9 : Value} {t : TypeId} {fr : Nat × Nat} (h : w.heap[b]? = some (.cells #[a0, a1, a2, a3, a4, a5, a6, a7, a8, a9] t fr)) : w.cell? ⟨b, 0, none⟩ = some a0 ∧ w.cell? ⟨b, 1, none⟩ = some a1 ∧ w.cell? ⟨b, 2, none⟩ = some a2 ∧ w.cell? ⟨b, 3, none⟩ = some a3 ∧ w.cell? ⟨b, 4, none⟩ = some a4 ∧ w.cell? ⟨b, 5, none⟩ = some a5 ∧ w.cell? ⟨b, 6, none⟩ = some a6 ∧ w.cell? ⟨b, 7, none⟩ = some a7 ∧ w.cell? ⟨b, 8, none⟩ = some a8 ∧ w.cell? ⟨b, 9, none⟩ = some a9 := by
  simp [World.cell?, h]
theorem isOut_any (p : Option Addr) (n c : Nat) (w : World) (hn : n ≤ 1048576) :
    Calls Tryz.prog 75 #[.slice p n c] w fun e w' => e = .returned (.bool ((n : Int) == 0)) ∧ w = w' := by
  cases hq : ((n : Int) == 0) with
  | true =>
    go_enter Tryz.func75, Tryz.ntmps75
    go_wp2_with fail
    go_ret
    exact ⟨rfl, rfl⟩
  | false =>
    go_enter Tryz.func75, Tryz.ntmps75
    go_wp2_with fail
    go_ret
    exact ⟨rfl, rfl⟩
set_option maxRecDepth 100000 in
theorem indexOut_any (v : Value) (zss : List (List Int)) (w : World) (h : RdRows .i64 w v zss) (hl : zss.length ≤ 1048576) (hl2 : sumLen zss ≤ 1048576) :
    Calls Tryz.prog 74 #[v, .func (.func 75) #[] #[]] w fun e w' => e = .returned (.int .i64 (firstOut zss)) ∧ w = w' := by
  have hrow := fun j (hj : j < zss.length) => h.row hj
  obtain ⟨a, cap, rfl, -, -⟩ := id h
  obtain ⟨n, hn⟩ : ∃ n, n = zss.length := ⟨_, rfl⟩
  have Hn := Lib.hid hn
  have Hrow := Lib.hid hrow
  have Hsum : Hid (∀ j (hj : j < zss.length), zss[j].length ≤ 1048576) := Lib.hid (fun j hj => Nat.le_trans (len_le_sum zss hj) hl2)
  rw [← hn] at hl ⊢
  obtain ⟨r, hr⟩ : ∃ r, r = firstOut zss := ⟨_, rfl⟩
  have Hr := Lib.hid hr
  rw [← hr]
  clear hn hrow h hl2 hr
  go_enter Tryz.func74, Tryz.ntmps74
  go_wp2_with fail
  go_loopw [5, 8] (fun _ i wr => ∃ k : Nat, k ≤ n ∧ i = .int .i64 k ∧ w = wr ∧ Hid (∀ j (hj : j < zss.length), j < k → zss[j] ≠ [])) (fun _ i _ => n - (intOf i).toNat)
  case atStart => exact ⟨0, Nat.zero_le _, rfl, by trivial, Lib.hid (fun j _ h => by omega)⟩
  case round =>
    obtain ⟨k, hk, rfl, rfl, hno⟩ := hrel
    by_cases hlt : k < n
    · have hz : k < zss.length := by rw [← Hn.out]; exact hlt
      obtain ⟨blk, off, cap', p, c1, b, hv, hc, hrd, -⟩ := Hrow.out k hz
      have ha := (Value.slice.inj hv).1
      clear hv
      subst ha
      have hsm := Hsum.out k hz
      obtain ⟨m, hm⟩ : ∃ m, m = zss[k].length := ⟨_, rfl⟩
      have Hm := Lib.hid hm
      rw [← hm] at hc hsm
      have HC := Lib.hid (isOut_any p m c1 w hsm)
      clear hm hrd hsm
      by_cases h0 : m = 0
      · have hq : ((m : Int) == 0) = true := by simp [h0]
        rw [hq] at HC
        have hr1 : Hid (r = (k : Int)) := Lib.hid (by rw [Hr.out]; exact first_hit hz (List.length_eq_zero_iff.1 (by rw [← Hm.out]; exact h0)) hno.out)
        clear hq h0
        go_wp2_with fail
        refine HC.out.mono ?_
        rintro e _w ⟨rfl, rfl⟩
        go_wp2_with fail
        go_ret
        exact ⟨by rw [hr1.out]; rfl, rfl⟩
      · have hq : ((m : Int) == 0) = false := by simp [h0]
        rw [hq] at HC
        have hno2 : Hid (∀ j (hj : j < zss.length), j < k + 1 → zss[j] ≠ []) := Lib.hid (fun j hj hjk => by
          by_cases e : j = k
          · subst e; intro e2; exact h0 (by rw [Hm.out, e2]; rfl)
          · exact hno.out j hj (by omega))
        clear hq h0
        go_wp2_with fail
        refine HC.out.mono ?_
        rintro e _w ⟨rfl, rfl⟩
        go_wp2_with fail
        go_roundw
        case rel => exact ⟨k + 1, by omega, by go_num, by trivial, hno2⟩
        case measure => simp [intOf]; omega
    · obtain rfl : k = n := by omega
      have hr1 : Hid (r = -1) := Lib.hid (by rw [Hr.out]; exact first_miss (fun j hj => hno.out j hj (by rw [Hn.out]; exact hj)))
      go_wp2_with fail
      go_ret
      exact ⟨by rw [hr1.out]; rfl, rfl⟩
theorem firstOut_any (v : Value) (zss : List (List Int)) (w : World) (h : RdRows .i64 w v zss) (hl : zss.length ≤ 1048576) (hl2 : sumLen zss ≤ 1048576) :
    Calls Tryz.prog 58 #[v] w fun e w' => e = .returned (.int .i64 (firstOut zss)) ∧ w = w' := by
  have HI := Lib.hid (indexOut_any v zss w h hl hl2)
  generalize firstOut zss = r at *
  clear h hl hl2
  go_enter Tryz.func58, Tryz.ntmps58
  go_wp2_with fail
  refine HI.out.mono ?_
  rintro e _w ⟨rfl, rfl⟩
  go_wp2_with fail
  go_ret
  exact ⟨rfl, rfl⟩
set_option maxRecDepth 100000 in
set_option maxHeartbeats 1000000 in
theorem isAtEnd_any (v : Value) (D : MGame) (w : World) (h : RdGame w v D) (hf : D.Few) (r : Bool) (hr : overB D = r) :
    Calls Tryz.prog 42 #[v] w fun e w' => e = .returned (.bool r) ∧ Below w.heap.size w w' := by
  obtain ⟨p4, p5, p8, p9, p10, c4, c5, c8, c9, c10, b9, b10, rfl, h0, h8, h9, h10, wf0, wf1, wf2⟩ := h
  obtain ⟨f0, f8, fs8, f9, f10⟩ := hf
  have B0 : ∀ o1, Below w.heap.size w (w.alloc o1) := fun o1 => (Below.refl w.heap.size w).alloc (Nat.le_refl _) o1
  have HF := Lib.hid (fun wx (hb : Below w.heap.size w wx) => firstOut_any _ D.hands wx (h8.below hb) f8 fs8)
  unfold overB at hr
  obtain ⟨x, hx⟩ : ∃ x, firstOut D.hands = x := ⟨_, rfl⟩
  rw [hx] at hr HF
  obtain ⟨q1, hq1⟩ : ∃ q, decide (0 ≤ x) = q := ⟨_, rfl⟩
  obtain ⟨q2, hq2⟩ : ∃ q, (D.moves == D.rules.limit) = q := ⟨_, rfl⟩
  obtain ⟨q3, hq3⟩ : ∃ q, decide (D.rules.players ≤ D.passes) = q := ⟨_, rfl⟩
  rw [hq1, hq2, hq3] at hr
  have HR := Lib.hid hr
  clear h0 h8 h9 h10 f0 f8 fs8 f9 f10 hr hx
  go_enter Tryz.func42, Tryz.ntmps42
  go_wp2_with fail
  refine (HF.out _ (B0 _)).mono ?_
  rintro e _w ⟨rfl, rfl⟩
  cases q1 with
  | true =>
    obtain rfl : true = r := HR.out
    go_wp2_with fail
    go_ret
    exact ⟨rfl, B0 _⟩
  | false =>
    cases q2 with
    | true =>
      obtain rfl : true = r := HR.out
      go_wp2_with fail
      go_ret
      exact ⟨rfl, B0 _⟩
    | false =>
      obtain rfl : q3 = r := HR.out
      cases q3 with
      | true =>
        go_wp2_with fail
        go_ret
        exact ⟨rfl, B0 _⟩
      | false =>
        go_wp2_with fail
        go_ret
        exact ⟨rfl, B0 _⟩
set_option maxRecDepth 100000 in
set_option maxHeartbeats 4000000 in
theorem rulesOf_own (v : Value) (D : MGame) (w : World) (h : RdGame w v D) (hf : D.Few) (hG : Grps w) (r : Bool) (hr : gameB D = r) :
    Calls Tryz.prog 41 #[v] w fun e w' => (∃ v4 v5 f g, e = .returned (.tuple #[readyV D.rules v4 v5 f g r, .bool r]) ∧ (r = true → ReadyAt w.heap.size w' D.rules v4 v5 f g ∧ Hid (∃ x8 x9 x10, v = .agg #[.int .i64 D.rules.players, .int .i64 D.rules.each, .bool D.rules.sameSuit, .bool D.rules.sameRank, v4, v5, .int .i64 D.rules.take, .int .i64 D.rules.limit, x8, x9, x10, .int .i64 D.turn, .int .i64 D.moves, .int .i64 D.passes]))) ∧ Below w.heap.size w w' := by
  have HA := Lib.hid (fun wx (hb : Below w.heap.size w wx) => hasAll_any v D wx (h.below hb) hf _ rfl)
  obtain ⟨p4, p5, p8, p9, p10, c4, c5, c8, c9, c10, b9, b10, rfl, h0, h8, h9, h10, wf0, wf1, wf2⟩ := h
  obtain ⟨f0, f8, fs8, f9, f10⟩ := hf
  have HF := Lib.hid (fun wx (hb : Below w.heap.size w wx) => readyFrom_own _ D.rules wx (h0.below hb) f0 (hG.below hb) _ rfl)
  have HRr := Lib.hid (fun wx (hb : Below w.heap.size w wx) => h0.below hb)
  have HI := Lib.hid (fun n lo hi wx => inR_any n lo hi wx (inB n lo hi) rfl)
  have hpl : rulesB D.rules = true → 2 ≤ D.rules.players ∧ D.rules.players ≤ 6 := fun e => by
    unfold rulesB at e
    cases e2 : inB D.rules.players 2 6 with
    | false => rw [e2] at e; cases e
    | true => unfold inB at e2; simpa using e2
  unfold gameB at hr
  obtain ⟨q0, hq0⟩ : ∃ q, rulesB D.rules = q := ⟨_, rfl⟩
  obtain ⟨q1, hq1⟩ : ∃ q, ((D.hands.length : Int) == D.rules.players) = q := ⟨_, rfl⟩
  obtain ⟨q2, hq2⟩ : ∃ q, ((D.heap.length : Int) == 0) = q := ⟨_, rfl⟩
  obtain ⟨q3, hq3⟩ : ∃ q, inB D.turn 0 (D.rules.players - 1) = q := ⟨_, rfl⟩
  obtain ⟨q4, hq4⟩ : ∃ q, inB D.moves 0 D.rules.limit = q := ⟨_, rfl⟩
  obtain ⟨q5, hq5⟩ : ∃ q, inB D.passes 0 D.moves = q := ⟨_, rfl⟩
  obtain ⟨q6, hq6⟩ : ∃ q, wholeB (allG D) = q := ⟨_, rfl⟩
  have hq1' : ((D.hands.length : Int) != D.rules.players) = !q1 := by rw [← hq1]; rfl
  have H3 := Lib.hid (fun wx => HI.out D.turn 0 (D.rules.players - 1) wx)
  have H4 := Lib.hid (fun wx => HI.out D.moves 0 D.rules.limit wx)
  have H5 := Lib.hid (fun wx => HI.out D.passes 0 D.moves wx)
  rw [hq0, hq1, hq2, hq3, hq4, hq5, hq6] at hr
  rw [hq0] at hpl HF
  rw [hq3] at H3
  rw [hq4] at H4
  rw [hq5] at H5
  rw [hq6] at HA
  have HR := Lib.hid hr
  have HPl := Lib.hid hpl
  have B0 : ∀ o1 o2, Below w.heap.size w ((w.alloc o1).alloc o2) := fun o1 o2 => ((Below.refl w.heap.size w).alloc (Nat.le_refl _) o1).alloc (by simp) o2
  have H2 := Lib.hid (fun w1 o1 o2 bb => two_boxesR (w := w) (w1 := w1) (o1 := o1) (o2 := o2) bb)
  clear hr hpl hq0 hq1 hq3 hq4 hq5 hq6 h0 h8 h9 h10 f0 f8 fs8 f9 f10 hG HI
  go_enter Tryz.func41, Tryz.ntmps41
  go_wp2_with fail
  refine (HF.out _ (B0 _ _)).mono ?_
  rintro e w1 ⟨⟨v4, v5, f, g, rfl, hvv, hrd⟩, B1⟩
  have hvv := hvv.out
  simp at hvv
  obtain ⟨rfl, rfl⟩ := hvv
  have hz0 : w.heap.size + 2 ≤ w1.heap.size := by have := B1.size; simp at this; omega
  have hrd0 : q0 = true → ReadyAt (w.heap.size + 2) w1 D.rules (.slice p4 D.rules.wild.length c4) (.slice p5 D.rules.skip.length c5) f g := fun e => by obtain ⟨a1, a2, a3, a4⟩ := hrd e; exact ⟨a1, a2, a3.weaken (by simp), a4.weaken (by simp)⟩
  obtain ⟨Bw1, G1, G2⟩ := H2.out _ _ _ B1
  clear B1 hrd
  cases q0 with
  | false =>
    obtain ⟨W2, hW2⟩ : ∃ W2, W2 = w1.alloc (.cells #[.int .i64 0, .int .i64 0, .bool false, .bool false, .slice none 0 0, .slice none 0 0, .int .i64 0, .int .i64 0, .nilFunc, .nilFunc] 61) := ⟨_, rfl⟩
    have b2 : Below w1.heap.size w1 W2 := by rw [hW2]; exact (Below.refl _ _).alloc (Nat.le_refl _) _
    have Bw2 := Bw1.trans (b2.mono Bw1.size)
    have G1b := (b2.block _ (by omega)).trans G1
    have G2b := (b2.block _ (by omega)).trans G2
    have HW2 := Lib.hid hW2
    clear hW2 b2 G1 G2
    unfold readyV
    go_upto_region 2 with fail
    rw [← HW2.out]
    obtain ⟨k0, k1, k2, k3, k4, k5, k6, k7, k8, k9, k10, k11, k12, k13⟩ := SGame_cells G1b
    obtain rfl : false = r := HR.out
    have r0 := SRules_cell G2b
    have r1 := SRules_free G2b
    have N := setAll_full G2b [.int .i64 0, .int .i64 0, .bool false, .bool false, .slice none 0 0, .slice none 0 0, .int .i64 0, .int .i64 0, .nilFunc, .nilFunc] rfl
    have NB := setAll_below (Nat.le_succ w.heap.size) [.int .i64 0, .int .i64 0, .bool false, .bool false, .slice none 0 0, .slice none 0 0, .int .i64 0, .int .i64 0, .nilFunc, .nilFunc] W2 0 Bw2
    have HN2 := Lib.hid (And.intro N NB)
    clear N NB
    go_wp2_with fail
    exact bodyPost_ret (results_row_tmp rfl _ _ (w.heap.size + 1) _ _ _ _ rfl HN2.out.1 Tryz.underlying61 rfl (by kernel_rfl)) rfl ⟨⟨.nilFunc, .nilFunc, .nilFunc, .nilFunc, rfl, fun h => by cases h⟩, HN2.out.2⟩
  | true =>
    obtain ⟨-, -, hmf, hmg⟩ := hrd0 rfl
    obtain ⟨nf, cf, ef, -⟩ := id hmf
    obtain ⟨ng, cg, eg, -⟩ := id hmg
    subst ef eg
    obtain ⟨hp2, hp6⟩ := HPl.out rfl
    obtain ⟨W2, hW2⟩ : ∃ W2, W2 = w1.alloc (.cells #[.int .i64 D.rules.players, .int .i64 D.rules.each, .bool D.rules.sameSuit, .bool D.rules.sameRank, .slice p4 D.rules.wild.length c4, .slice p5 D.rules.skip.length c5, .int .i64 D.rules.take, .int .i64 D.rules.limit, .func (.func nf) #[] cf, .func (.func ng) #[] cg] 61) := ⟨_, rfl⟩
    have b2 : Below w1.heap.size w1 W2 := by rw [hW2]; exact (Below.refl _ _).alloc (Nat.le_refl _) _
    have lr : w1.heap.size < W2.heap.size := by rw [hW2]; simp
    have Bw2 := Bw1.trans (b2.mono Bw1.size)
    have G1b := (b2.block _ (by omega)).trans G1
    have G2b := (b2.block _ (by omega)).trans G2
    have G3b : W2.heap[w1.heap.size]? = some (.cells #[.int .i64 D.rules.players, .int .i64 D.rules.each, .bool D.rules.sameSuit, .bool D.rules.sameRank, .slice p4 D.rules.wild.length c4, .slice p5 D.rules.skip.length c5, .int .i64 D.rules.take, .int .i64 D.rules.limit, .func (.func nf) #[] cf, .func (.func ng) #[] cg] 61 (0, 0)) := by rw [hW2]; exact patNew _ _
    have HRd := Lib.hid (fun wx (hx : Below W2.heap.size W2 wx) => And.intro ((hmf.below b2).below hx) ((hmg.below b2).below hx))
    have HW2 := Lib.hid hW2
    have hz2 : w.heap.size + 2 ≤ W2.heap.size := Nat.le_trans hz0 b2.size
    clear hW2 b2 G1 G2 hmf hmg hrd0
    unfold readyV
    go_upto_region 2 with fail
    rw [← HW2.out]
    obtain ⟨k0, k1, k2, k3, k4, k5, k6, k7, k8, k9, k10, k11, k12, k13⟩ := SGame_cells G1b
    cases q1 with
    | false =>
      obtain rfl : false = r := HR.out
      have r0 := SRules_cell G2b
      have r1 := SRules_free G2b
      have N := setAll_full G2b [.int .i64 0, .int .i64 0, .bool false, .bool false, .slice none 0 0, .slice none 0 0, .int .i64 0, .int .i64 0, .nilFunc, .nilFunc] rfl
      have NB := setAll_below (Nat.le_succ w.heap.size) [.int .i64 0, .int .i64 0, .bool false, .bool false, .slice none 0 0, .slice none 0 0, .int .i64 0, .int .i64 0, .nilFunc, .nilFunc] W2 0 Bw2
      have HN2 := Lib.hid (And.intro N NB)
      clear N NB
      go_wp2_with fail
      exact bodyPost_ret (results_row_tmp rfl _ _ (w.heap.size + 1) _ _ _ _ rfl HN2.out.1 Tryz.underlying61 rfl (by kernel_rfl)) rfl ⟨⟨.nilFunc, .nilFunc, .nilFunc, .nilFunc, rfl, fun h => by cases h⟩, HN2.out.2⟩

    | true =>
      cases q2 with
      | true =>
        obtain rfl : false = r := HR.out
        have r0 := SRules_cell G2b
        have r1 := SRules_free G2b
        have N := setAll_full G2b [.int .i64 0, .int .i64 0, .bool false, .bool false, .slice none 0 0, .slice none 0 0, .int .i64 0, .int .i64 0, .nilFunc, .nilFunc] rfl
        have NB := setAll_below (Nat.le_succ w.heap.size) [.int .i64 0, .int .i64 0, .bool false, .bool false, .slice none 0 0, .slice none 0 0, .int .i64 0, .int .i64 0, .nilFunc, .nilFunc] W2 0 Bw2
        have HN2 := Lib.hid (And.intro N NB)
        clear N NB
        go_wp2_with fail
        exact bodyPost_ret (results_row_tmp rfl _ _ (w.heap.size + 1) _ _ _ _ rfl HN2.out.1 Tryz.underlying61 rfl (by kernel_rfl)) rfl ⟨⟨.nilFunc, .nilFunc, .nilFunc, .nilFunc, rfl, fun h => by cases h⟩, HN2.out.2⟩
      | false =>
        go_wp2_with fail
        refine (H3.out _).mono ?_
        rintro e _w ⟨rfl, rfl⟩
        cases q3 with
        | false =>
          obtain rfl : false = r := HR.out
          have r0 := SRules_cell G2b
          have r1 := SRules_free G2b
          have N := setAll_full G2b [.int .i64 0, .int .i64 0, .bool false, .bool false, .slice none 0 0, .slice none 0 0, .int .i64 0, .int .i64 0, .nilFunc, .nilFunc] rfl
          have NB := setAll_below (Nat.le_succ w.heap.size) [.int .i64 0, .int .i64 0, .bool false, .bool false, .slice none 0 0, .slice none 0 0, .int .i64 0, .int .i64 0, .nilFunc, .nilFunc] W2 0 Bw2
          have HN2 := Lib.hid (And.intro N NB)
          clear N NB
          go_wp2_with fail
          exact bodyPost_ret (results_row_tmp rfl _ _ (w.heap.size + 1) _ _ _ _ rfl HN2.out.1 Tryz.underlying61 rfl (by kernel_rfl)) rfl ⟨⟨.nilFunc, .nilFunc, .nilFunc, .nilFunc, rfl, fun h => by cases h⟩, HN2.out.2⟩
        | true =>
          go_wp2_with fail
          refine (H4.out _).mono ?_
          rintro e _w ⟨rfl, rfl⟩
          cases q4 with
          | false =>
            obtain rfl : false = r := HR.out
            have r0 := SRules_cell G2b
            have r1 := SRules_free G2b
            have N := setAll_full G2b [.int .i64 0, .int .i64 0, .bool false, .bool false, .slice none 0 0, .slice none 0 0, .int .i64 0, .int .i64 0, .nilFunc, .nilFunc] rfl
            have NB := setAll_below (Nat.le_succ w.heap.size) [.int .i64 0, .int .i64 0, .bool false, .bool false, .slice none 0 0, .slice none 0 0, .int .i64 0, .int .i64 0, .nilFunc, .nilFunc] W2 0 Bw2
            have HN2 := Lib.hid (And.intro N NB)
            clear N NB
            go_wp2_with fail
            exact bodyPost_ret (results_row_tmp rfl _ _ (w.heap.size + 1) _ _ _ _ rfl HN2.out.1 Tryz.underlying61 rfl (by kernel_rfl)) rfl ⟨⟨.nilFunc, .nilFunc, .nilFunc, .nilFunc, rfl, fun h => by cases h⟩, HN2.out.2⟩
          | true =>
            go_wp2_with fail
            refine (H5.out _).mono ?_
            rintro e _w ⟨rfl, rfl⟩
            cases q5 with
            | false =>
              obtain rfl : false = r := HR.out
              have r0 := SRules_cell G2b
              have r1 := SRules_free G2b
              have N := setAll_full G2b [.int .i64 0, .int .i64 0, .bool false, .bool false, .slice none 0 0, .slice none 0 0, .int .i64 0, .int .i64 0, .nilFunc, .nilFunc] rfl
              have NB := setAll_below (Nat.le_succ w.heap.size) [.int .i64 0, .int .i64 0, .bool false, .bool false, .slice none 0 0, .slice none 0 0, .int .i64 0, .int .i64 0, .nilFunc, .nilFunc] W2 0 Bw2
              have HN2 := Lib.hid (And.intro N NB)
              clear N NB
              go_wp2_with fail
              exact bodyPost_ret (results_row_tmp rfl _ _ (w.heap.size + 1) _ _ _ _ rfl HN2.out.1 Tryz.underlying61 rfl (by kernel_rfl)) rfl ⟨⟨.nilFunc, .nilFunc, .nilFunc, .nilFunc, rfl, fun h => by cases h⟩, HN2.out.2⟩
            | true =>
              go_wp2_with fail
              refine (HA.out _ Bw2).mono ?_
              rintro e w3 ⟨rfl, B3⟩
              have Bw3 := Bw2.trans (B3.mono Bw2.size)
              have G1c := (B3.block _ (by omega)).trans G1b
              have G2c := (B3.block _ (by omega)).trans G2b
              have G3c := (B3.block _ lr).trans G3b
              obtain ⟨ma, mb⟩ := HRd.out w3 B3
              clear k0 k1 k2 k3 k4 k5 k6 k7 k8 k9 k10 k11 k12 k13 G1b G2b G3b
              obtain ⟨k0, k1, k2, k3, k4, k5, k6, k7, k8, k9, k10, k11, k12, k13⟩ := SGame_cells G1c
              cases q6 with
              | false =>
                obtain rfl : false = r := HR.out
                have r0 := SRules_cell G2c
                have r1 := SRules_free G2c
                have N := setAll_full G2c [.int .i64 0, .int .i64 0, .bool false, .bool false, .slice none 0 0, .slice none 0 0, .int .i64 0, .int .i64 0, .nilFunc, .nilFunc] rfl
                have NB := setAll_below (Nat.le_succ w.heap.size) [.int .i64 0, .int .i64 0, .bool false, .bool false, .slice none 0 0, .slice none 0 0, .int .i64 0, .int .i64 0, .nilFunc, .nilFunc] w3 0 Bw3
                have HN2 := Lib.hid (And.intro N NB)
                clear N NB
                go_wp2_with fail
                exact bodyPost_ret (results_row_tmp rfl _ _ (w.heap.size + 1) _ _ _ _ rfl HN2.out.1 Tryz.underlying61 rfl (by kernel_rfl)) rfl ⟨⟨.nilFunc, .nilFunc, .nilFunc, .nilFunc, rfl, fun h => by cases h⟩, HN2.out.2⟩
              | true =>
                obtain rfl : true = r := HR.out
                obtain ⟨y0, y1, y2, y3, y4, y5, y6, y7, y8, y9⟩ := tenG G3c
                have r0 := SRules_cell G2c
                have r1 := SRules_free G2c
                have N := setAll_full G2c [.int .i64 D.rules.players, .int .i64 D.rules.each, .bool D.rules.sameSuit, .bool D.rules.sameRank, .slice p4 D.rules.wild.length c4, .slice p5 D.rules.skip.length c5, .int .i64 D.rules.take, .int .i64 D.rules.limit, .func (.func nf) #[] cf, .func (.func ng) #[] cg] rfl
                have NB := setAll_below (Nat.le_succ w.heap.size) [.int .i64 D.rules.players, .int .i64 D.rules.each, .bool D.rules.sameSuit, .bool D.rules.sameRank, .slice p4 D.rules.wild.length c4, .slice p5 D.rules.skip.length c5, .int .i64 D.rules.take, .int .i64 D.rules.limit, .func (.func nf) #[] cf, .func (.func ng) #[] cg] w3 0 Bw3
                have hK : Keeps (w.heap.size + 2) w3 (setAll w3 (w.heap.size + 1) 0 [.int .i64 D.rules.players, .int .i64 D.rules.each, .bool D.rules.sameSuit, .bool D.rules.sameRank, .slice p4 D.rules.wild.length c4, .slice p5 D.rules.skip.length c5, .int .i64 D.rules.take, .int .i64 D.rules.limit, .func (.func nf) #[] cf, .func (.func ng) #[] cg]) := ⟨by rw [setAll_size]; exact Nat.le_refl _, fun k h1 h2 => setAll_other _ _ k (by omega) _ _⟩
                have HMm := Lib.hid (And.intro ((ma.keep hK).weaken (Nat.le_add_right w.heap.size 2)) ((mb.keep hK).weaken (Nat.le_add_right w.heap.size 2)))
                have hrr := HRr.out _ NB
                obtain ⟨v4, v5, b4, b5, evv, ra, rb, -⟩ := hrr
                simp at evv
                obtain ⟨rfl, rfl⟩ := evv
                have HN2 := Lib.hid (And.intro N (And.intro NB (And.intro ra rb)))
                clear N NB hK ra rb
                go_wp2_with fail
                exact bodyPost_ret (results_row_tmp rfl _ _ (w.heap.size + 1) _ _ _ _ rfl HN2.out.1 Tryz.underlying61 rfl (by kernel_rfl)) rfl ⟨⟨_, _, _, _, rfl, ⟨⟨_, HN2.out.2.2.1⟩, ⟨_, HN2.out.2.2.2⟩, HMm.out.1, HMm.out.2⟩, (by first | exact Lib.hid ⟨_, _, _, rfl⟩ | exact Lib.hid ⟨rfl, rfl⟩ | exact Lib.hid trivial | exact Lib.hid rfl | exact ⟨rfl, rfl⟩ | (simp; done) | trace_state)⟩, HN2.out.2.1⟩
theorem rulesOf_any (v : Value) (D : MGame) (w : World) (h : RdGame w v D) (hf : D.Few) (hG : Grps w) (r : Bool) (hr : gameB D = r) :
    Calls Tryz.prog 41 #[v] w fun e w' => (∃ v4 v5 f g, e = .returned (.tuple #[readyV D.rules v4 v5 f g r, .bool r]) ∧ (r = true → ReadyAt w.heap.size w' D.rules v4 v5 f g)) ∧ Below w.heap.size w w' :=
  (rulesOf_own v D w h hf hG r hr).mono fun e w' ⟨⟨v4, v5, f, g, he, h1⟩, hb⟩ => ⟨⟨v4, v5, f, g, he, fun h => (h1 h).1⟩, hb⟩
theorem game_moves {D : MGame} (h : gameB D = true) : 0 ≤ D.moves ∧ D.moves ≤ D.rules.limit ∧ D.rules.limit ≤ 400 := by
  unfold gameB at h
  simp only [Bool.and_eq_true] at h
  obtain ⟨h0, -, -, -, h4, -⟩ := h
  unfold rulesB at h0
  simp only [Bool.and_eq_true] at h0
  obtain ⟨-, -, -, -, -, -, h7⟩ := h0
  unfold inB at h4 h7
  simp at h4 h7
  omega
end Go.Proofs.YtmhbonbjnpcpeaaGreatDoor
