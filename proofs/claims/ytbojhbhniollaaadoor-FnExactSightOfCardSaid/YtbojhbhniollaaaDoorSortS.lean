/-
  The model's Sorted.
-/
import Derived.Test.YtbojhbhniollaaaDoorSort
import Derived.Deep.RegionLaw
namespace Go.Proofs.YtbojhbhniollaaaDoor
open Go.RowKit

theorem ins_sorted {S : List Int} {x : Int} {j : Nat} (hs : S.Pairwise (fun a b => a ≤ b)) (hj : j ≤ S.length) (hgt : ∀ m (hm : m < S.length), j ≤ m → x < S[m]) (hle : j = 0 ∨ ∃ h : j - 1 < S.length, S[j - 1] ≤ x) : (S.take j ++ [x] ++ S.drop j).Pairwise (fun a b => a ≤ b) := by
  have hax : ∀ a ∈ S.take j, a ≤ x := by
    intro a ha
    obtain ⟨i, hi, rfl⟩ := List.getElem_of_mem ha
    rw [List.length_take] at hi
    rw [List.getElem_take]
    rcases hle with h | ⟨h1, h2⟩
    · omega
    · by_cases e : i = j - 1
      · subst e; exact h2
      · exact Int.le_trans ((List.pairwise_iff_getElem.1 hs) i (j - 1) (by omega) h1 (by omega)) h2
  have hxb : ∀ b ∈ S.drop j, x < b := by
    intro b hb
    obtain ⟨i, hi, rfl⟩ := List.getElem_of_mem hb
    rw [List.length_drop] at hi
    rw [List.getElem_drop]
    exact hgt (j + i) (by omega) (by omega)
  rw [List.append_assoc, List.pairwise_append]
  refine ⟨hs.sublist (List.take_sublist _ _), ?_, fun a ha b hb => ?_⟩
  · rw [List.singleton_append, List.pairwise_cons]
    exact ⟨fun b hb => Int.le_of_lt (hxb b hb), hs.sublist (List.drop_sublist _ _)⟩
  · rcases List.mem_append.1 hb with hb | hb
    · simp at hb; subst hb; exact hax a ha
    · exact Int.le_of_lt (Int.lt_of_le_of_lt (hax a ha) (hxb b hb))
theorem ins_perm {S T : List Int} {x : Int} (j : Nat) (h : S.Perm T) : (S.take j ++ [x] ++ S.drop j).Perm (T ++ [x]) := by
  have h1 : (S.take j ++ [x] ++ S.drop j).Perm (x :: (S.take j ++ S.drop j)) := by
    rw [List.append_assoc]; exact List.perm_middle
  rw [List.take_append_drop] at h1
  exact (h1.trans (h.cons x)).trans (List.perm_append_singleton x T).symm

theorem own_base {w : World} {B B' : Nat} {E : TypeId} {size n : Nat} {v : Value} {xs : List Value} (h : w.ownsRow B' E size v n xs) (hB : B ≤ B') : w.ownsRow B E size v n xs := by
  refine ⟨h.1, ?_⟩
  rcases h.2 with h0 | ⟨g, cap, cur, hv, hg, r⟩
  · exact .inl h0
  · exact .inr ⟨g, cap, cur, hv, by omega, r⟩
theorem own_some {w : World} {B : Nat} {E : TypeId} {n : Nat} {v : Value} {xs : List Value} (h : w.ownsRow B E 1 v (n + 1) xs) : ∃ g cap, v = .slice (some ⟨g, 0, none⟩) (n + 1) cap ∧ B ≤ g ∧ g < w.heap.size ∧ n + 1 ≤ cap ∧ cap ≤ maxLen := by
  rcases h.2 with ⟨_, h0⟩ | ⟨g, cap, cur, rfl, hg, hh, hn, hm, _⟩
  · omega
  · exact ⟨g, cap, rfl, hg, (Array.getElem?_eq_some_iff.1 hh).1, hn, hm⟩
/-- append to what the call owns, as one step of a region that draws its order. -/
theorem step_append_own {P : Program} {ops : Array Oper} {o : Oper} {a : Act} {w : World} {K : Act → World → Prop} {Q : Exit → Act → World → Prop} {E : Prop}
    (hg : o.guard = none) (s x : Operand) (t : TypeId) (hop : o.op = Op.call { callee := Callee.builtin Builtin.append, args := #[s, x], argTypes := #[t, t] })
    (base : Nat) (e : TypeId) (i : TypeInfo) (z : Value) (size bytes : Nat) (h1 : P.underlying t = some (.slice e)) (h2 : P.info? e = some i) (h3 : i.zero = some z) (h4 : i.size = size) (h5 : i.bytes = bytes) (h6 : z.cells.size = size) (h7 : 0 < size)
    (v : Value) (n : Nat) (xs : List Value) (hs : a.eval s = v) (hown : w.ownsRow base e size v n xs)
    (ad : Addr) (m c : Nat) (news : List Value) (hx : a.eval x = .slice (some ad) m c) (hn : news.length = m * size) (hc : ∀ j u, news[j]? = some u → w.cell? (ad.add j) = some u) (h1c : ∀ u ∈ news, u.oneCell' = true)
    (b1 : n + m ≤ maxLen) (b2 : (n + m) * bytes ≤ 140737488355328) (hbase : base ≤ w.heap.size)
    (hK : ∀ v' w', w'.ownsRow base e size v' (n + m) (xs ++ news) → w.grownBy w' v.ownBlock → K (a.put o.dst v') w') :
    if Region.wanted o (yielded ops a.tmps) = true then Oper.wp P o a w K Q else E := by
  have hw : Region.wanted o (yielded ops a.tmps) = true := by simp [Region.wanted, hg]
  rw [if_pos hw]
  obtain ⟨v', w', hrun, r1, r2, _⟩ := run_append_own (P := P) w base t o.type e i z size bytes h1 h2 h3 h4 h5 h6 h7 v n xs hown ad m c news hn hc h1c b1 b2 hbase
  unfold Oper.wp
  simp [execOp, hop, resolve, invoke, builtin, hs, hx, hrun, Result.andThen]
  exact hK v' w' r1 r2
theorem take_cells {B ocap : Nat} {W0 W : World} {b1 k j : Nat} {S : List Int} {E : TypeId} (hB : Below W0.heap.size W0 W) (hb : b1 < W0.heap.size) (f2 : W0.ownsRow B E 1 (.slice (some ⟨b1, 0, none⟩) k ocap) k (S.map (Value.int .i64))) (hS : S.length = k) (hj : j ≤ k) :
    ∀ idx u, ((S.take j).map (Value.int .i64))[idx]? = some u → W.cell? ((⟨b1, 0, none⟩ : Addr).add idx) = some u := by
  intro idx u hu
  have e2 : (⟨b1, 0, none⟩ : Addr).add idx = ⟨b1, idx, none⟩ := by
    by_cases h : idx = 0
    · subst h; simp [Addr.add]
    · simp [Addr.add]; omega
  have hi := (List.getElem?_eq_some_iff.1 hu).1
  simp only [List.length_map, List.length_take] at hi
  rw [e2, hB.cell (p := ⟨b1, idx, none⟩) hb, f2.cellAt idx (by omega), ← hu]
  simp [show idx < j by omega]
theorem drop_cells {B ocap : Nat} {W0 W : World} {b1 k j : Nat} {S : List Int} {E : TypeId} (hB : Below W0.heap.size W0 W) (hb : b1 < W0.heap.size) (f2 : W0.ownsRow B E 1 (.slice (some ⟨b1, 0, none⟩) k ocap) k (S.map (Value.int .i64))) (hS : S.length = k) :
    ∀ idx u, ((S.drop j).map (Value.int .i64))[idx]? = some u → W.cell? ((⟨b1, j, none⟩ : Addr).add idx) = some u := by
  intro idx u hu
  have e2 : (⟨b1, j, none⟩ : Addr).add idx = ⟨b1, j + idx, none⟩ := by simp [Addr.add]
  have hi := (List.getElem?_eq_some_iff.1 hu).1
  simp only [List.length_map, List.length_drop] at hi
  rw [e2, hB.cell (p := ⟨b1, j + idx, none⟩) hb, f2.cellAt (j + idx) (by omega), ← hu]
  simp [List.getElem?_drop]
theorem take_len {S : List Int} {k j : Nat} (hS : S.length = k) (hj : j ≤ k) : ((S.take j).map (Value.int .i64)).length = j * 1 := by simp; omega
theorem drop_len {S : List Int} {k j : Nat} (hS : S.length = k) : ((S.drop j).map (Value.int .i64)).length = (k - j) * 1 := by simp; omega
theorem lit_late (W : World) (o : Obj) (E : TypeId) : ((W.alloc o).alloc (.cells #[] E)).ownsRow W.heap.size E 1 (.slice (some ⟨W.heap.size + 1, 0, none⟩) 0 0) 0 [] := by
  have h := World.ownsRow_lit (base := W.heap.size) (e := E) (size := 1) (W.alloc o) #[] 0 (by simp) (Nat.zero_le _) rfl
  have e : (W.alloc o).heap.size = W.heap.size + 1 := by simp
  rw [e] at h
  exact h
theorem late_cell2 {W0 W : World} {E : TypeId} {c : Array Value} {x : Int} (h : ((W0.alloc (.cells c E)).alloc (.cells #[.int .i64 x] E)).drew.grownBy W (some W0.heap.size)) : ∀ idx u, [Value.int .i64 x][idx]? = some u → W.cell? ((⟨W0.heap.size + 1, 0, none⟩ : Addr).add idx) = some u := by
  intro idx u hu
  have hi : idx = 0 := by have := (List.getElem?_eq_some_iff.1 hu).1; simpa using this
  subst hi
  have hb : W.heap[W0.heap.size + 1]? = ((W0.alloc (.cells c E)).alloc (.cells #[.int .i64 x] E)).heap[W0.heap.size + 1]? := h.block _ (by show _ < ((W0.heap.push _).push _).size; simp) (fun e => by have := Option.some.inj e; omega)
  have e0 : (⟨W0.heap.size + 1, 0, none⟩ : Addr).add 0 = ⟨W0.heap.size + 1, 0, none⟩ := by simp [Addr.add]
  have e : (W0.alloc (.cells c E)).heap.size = W0.heap.size + 1 := by simp
  rw [e0, World.cell?_of_block (w := (W0.alloc (.cells c E)).alloc (.cells #[.int .i64 x] E)) (a := ⟨W0.heap.size + 1, 0, none⟩) hb, ← e, World.cell?_alloc_new]
  simpa using hu
theorem late_cell3 {W0 W : World} {E : TypeId} {c : Array Value} {x : Int} (h : ((W0.alloc (.cells #[.int .i64 x] E)).alloc (.cells c E)).drew.grownBy W (some (W0.heap.size + 1))) : ∀ idx u, [Value.int .i64 x][idx]? = some u → W.cell? ((⟨W0.heap.size, 0, none⟩ : Addr).add idx) = some u := by
  intro idx u hu
  have hi : idx = 0 := by have := (List.getElem?_eq_some_iff.1 hu).1; simpa using this
  subst hi
  have hb : W.heap[W0.heap.size]? = ((W0.alloc (.cells #[.int .i64 x] E)).alloc (.cells c E)).heap[W0.heap.size]? := h.block _ (by show _ < ((W0.heap.push _).push _).size; simp; omega) (fun e => by have := Option.some.inj e; omega)
  have e0 : (⟨W0.heap.size, 0, none⟩ : Addr).add 0 = ⟨W0.heap.size, 0, none⟩ := by simp [Addr.add]
  rw [e0, World.cell?_of_block (w := (W0.alloc (.cells #[.int .i64 x] E)).alloc (.cells c E)) (a := ⟨W0.heap.size, 0, none⟩) hb, World.cell?_alloc_past _ _ _ (by simp), World.cell?_alloc_new]
  simpa using hu
theorem one_c (k : IntKind) (y : Int) : ∀ u ∈ [Value.int k y], u.oneCell' = true := by
  intro u hu; simp at hu; subst hu; rfl
theorem one_cells (l : List Int) : ∀ u ∈ l.map (Value.int .i64), u.oneCell' = true := by
  intro u hu; simp at hu; obtain ⟨y, _, rfl⟩ := hu; rfl

set_option maxRecDepth 100000 in
set_option maxHeartbeats 4000000 in
theorem sSorted_any (v : Value) (zs : List Int) (b : Nat) (w : World) (h : RdAt .i64 w v zs b) (hl : zs.length ≤ 1048576) :
    Calls Tryd.prog 35 #[v] w fun e w' => ∃ v' b', e = .returned v' ∧ w.heap.size ≤ b' ∧ WrAt .i64 w' v' (sortI zs) b' ∧ Below w.heap.size w w' := by
  obtain ⟨i0, hi, hz0, hz1, hz2⟩ := info_parts info_i64
  have hwf := h.wf
  obtain ⟨a, cap, rfl, -, -, hcell⟩ := h
  obtain ⟨n, hn⟩ : ∃ n, n = zs.length := ⟨_, rfl⟩
  have Hn := Lib.hid hn
  rw [← hn] at hl ⊢
  clear hn
  go_enter Tryd.func35, Tryd.ntmps35
  go_wp2_with fail
  have hown0 := World.ownsRow_lit (base := w.heap.size) (e := 3) (size := 1) w #[] 0 (Nat.le_refl _) (Nat.zero_le _) rfl
  go_loopw [3, 4] (fun o i wr => ∃ (k : Nat) (S : List Int) (b1 ocap : Nat), k ≤ n ∧ i = .int .i64 k ∧ Hid (S.length = k ∧ S.Perm (zs.take k) ∧ S.Pairwise (fun a b => a ≤ b)) ∧ Below w.heap.size w wr ∧ o = .slice (some ⟨b1, 0, none⟩) k ocap ∧ w.heap.size ≤ b1 ∧ b1 < wr.heap.size ∧ k ≤ ocap ∧ ocap ≤ 9223372036854775807 ∧ wr.ownsRow w.heap.size 3 1 (.slice (some ⟨b1, 0, none⟩) k ocap) k (S.map (Value.int .i64))) (fun _ i _ => n - (intOf i).toNat)
  case atStart => exact ⟨0, [], w.heap.size, 0, Nat.zero_le _, rfl, Lib.hid ⟨rfl, by simp, by simp⟩, (Below.refl _ _).alloc (Nat.le_refl _) _, rfl, Nat.le_refl _, by simp, Nat.le_refl _, by omega, hown0⟩
  case round =>
    clear hown0
    obtain ⟨k, S, b1, ocap, hk, rfl, hS, hb2, rfl, hbb, hblt, hko, hom, hown⟩ := hrel
    by_cases hlt : k < n
    · have hzl : k < zs.length := by rw [← Hn.out]; exact hlt
      rcases hcell with hz | ⟨off, rfl, hc⟩
      · subst hz; simp at hzl
      obtain ⟨x, hx⟩ : ∃ x, Hid (x = zs[k]) := ⟨_, Lib.hid rfl⟩
      have hbl := World.block_lt_of_cell? _ _ (hc k hzl)
      have hc1 : wr.cell? ⟨b, off + k, none⟩ = some (.int .i64 x) := by
        rw [hb2.cell hbl, hc k hzl, hx.out]
      clear hc
      have HW : Hid (∀ W : World, (∃ q, W = wr.drewN q) → W.cell? ⟨b, off + k, none⟩ = some (.int .i64 x) ∧ W.ownsRow w.heap.size 3 1 (.slice (some ⟨b1, 0, none⟩) k ocap) k (S.map (Value.int .i64)) ∧ Below w.heap.size w W ∧ W.heap.size = wr.heap.size) := Lib.hid (fun W hW => by
        obtain ⟨q, rfl⟩ := hW
        exact ⟨hc1, hown, ⟨hb2.os, hb2.tape, hb2.output, hb2.size, hb2.block⟩, rfl⟩)
      clear hown hc1
      go_wp2_with fail
      go_loopw [5] (fun kk wx => ∃ (j : Nat), j ≤ k ∧ kk = .int .i64 j ∧ (∃ q, wx = wr.drewN q) ∧ Hid (∀ m (hm : m < S.length), j ≤ m → x < S[m])) (fun kk _ => (intOf kk).toNat)
      case atStart => exact ⟨k, Nat.le_refl _, rfl, ⟨0, rfl⟩, Lib.hid (fun m hm h => by have := hS.out.1; omega)⟩
      case round =>
        obtain ⟨j, hj, rfl, hq, hgt⟩ := hrel
        have Hq := Lib.hid hq
        clear hq
        cases j with
        | zero =>
          go_wp2_with fail
          go_quiet (fail)
          go_wp2_with fail
          obtain ⟨W0, hW0⟩ : ∃ W0, W0 = wr.drewN nq := ⟨_, rfl⟩
          rw [← hW0]
          obtain ⟨f1, f2, f3, f4⟩ := HW.out W0 (by obtain ⟨q, e⟩ := Hq.out; subst e; exact ⟨_, hW0.trans (World.drewN_drewN _ _ _)⟩)
          have HW0 := Lib.hid hW0
          clear hW0
          have hS1 := hS.out.1
          have hb1W : b1 < W0.heap.size := by rw [f4]; exact hblt
          have hS1k : 0 ≤ k := by omega
          have HT : Hid (∀ W : World, Below W0.heap.size W0 W → ∀ idx u, ((S.take (0)).map (Value.int .i64))[idx]? = some u → W.cell? ((⟨b1, 0, none⟩ : Addr).add idx) = some u) := Lib.hid (fun W hB => take_cells hB hb1W f2 hS1 hS1k)
          have HD : Hid (∀ W : World, Below W0.heap.size W0 W → ∀ idx u, ((S.drop (0)).map (Value.int .i64))[idx]? = some u → W.cell? ((⟨b1, 0, none⟩ : Addr).add idx) = some u) := Lib.hid (fun W hB => drop_cells hB hb1W f2 hS1)
          have HTL : Hid (((S.take (0)).map (Value.int .i64)).length = (0) * 1) := Lib.hid (take_len hS1 hS1k)
          have HDL : Hid (((S.drop (0)).map (Value.int .i64)).length = (k - (0)) * 1) := Lib.hid ((drop_len hS1).trans (by omega))
          have O1 : Hid ((W0.alloc (.cells #[] 3)).drew.ownsRow W0.heap.size 3 1 (.slice (some ⟨W0.heap.size, 0, none⟩) 0 0) 0 []) := Lib.hid (World.ownsRow_lit (base := W0.heap.size) (e := 3) (size := 1) W0 #[] 0 (Nat.le_refl _) (Nat.zero_le _) rfl)
          have O2 : Hid (((W0.alloc (.cells #[] 3)).alloc (.cells #[.int .i64 x] 3)).drew.ownsRow W0.heap.size 3 1 (.slice (some ⟨W0.heap.size, 0, none⟩) 0 0) 0 []) := Lib.hid ((World.ownsRow_lit (base := W0.heap.size) (e := 3) (size := 1) W0 #[] 0 (Nat.le_refl _) (Nat.zero_le _) rfl).alloc _)
          have O3 : Hid (((W0.alloc (.cells #[.int .i64 x] 3)).alloc (.cells #[] 3)).drew.ownsRow W0.heap.size 3 1 (.slice (some ⟨W0.heap.size + 1, 0, none⟩) 0 0) 0 []) := Lib.hid (lit_late _ _ _)
          have B1 : Hid (Below W0.heap.size W0 (W0.alloc (.cells #[] 3)).drew) := Lib.hid ((Below.refl _ _).alloc (Nat.le_refl _) _).drew
          have B2 : Hid (Below W0.heap.size W0 ((W0.alloc (.cells #[] 3)).alloc (.cells #[.int .i64 x] 3)).drew) := Lib.hid (((Below.refl _ _).alloc (Nat.le_refl _) _).alloc (by simp) _).drew
          have B3 : Hid (Below W0.heap.size W0 ((W0.alloc (.cells #[.int .i64 x] 3)).alloc (.cells #[] 3)).drew) := Lib.hid (((Below.refl _ _).alloc (Nat.le_refl _) _).alloc (by simp) _).drew
          have fa : (W0.alloc (.cells #[] 3)).drew.cell? ⟨b, off + k, none⟩ = some (.int .i64 x) := by rw [B1.out.cell (World.block_lt_of_cell? _ _ f1)]; exact f1
          have F35 : Hid (∀ W W' : World, ∀ v35 : Value, Below W0.heap.size W0 W → W.ownsRow W0.heap.size 3 1 v35 0 [] → W.grownBy W' v35.ownBlock → Below W0.heap.size W0 W') := Lib.hid (fun W W' v35 h1 h2 h3 => h1.grown h3 h1.size (own_block h2))
          have e35 : 0 + (0) ≤ maxLen := by unfold maxLen; omega
          have g35 : (0 + (0)) * 8 ≤ 140737488355328 := by omega
          have e41 : 0 + (0) + 1 ≤ maxLen := by unfold maxLen; omega
          have g41 : (0 + (0) + 1) * 8 ≤ 140737488355328 := by omega
          have e45 : 0 + (0) + 1 + (k - (0)) ≤ maxLen := by unfold maxLen; omega
          have g45 : (0 + (0) + 1 + (k - (0))) * 8 ≤ 140737488355328 := by omega
          have HBs : Hid (∀ (W : World) o, Below W0.heap.size W0 W → W0.heap.size ≤ (W.alloc o).heap.size) := Lib.hid (fun W o h => by have := h.size; simp; omega)
          have HX : Hid (∀ W : World, Below W0.heap.size W0 W → W.cell? ⟨b, off + k, none⟩ = some (.int .i64 x)) := Lib.hid (fun W h => by rw [h.cell (World.block_lt_of_cell? _ _ f1)]; exact f1)
          have HC2 : Hid (∀ W : World, ((W0.alloc (.cells #[] 3)).alloc (.cells #[.int .i64 x] 3)).drew.grownBy W (some W0.heap.size) → ∀ idx u, [Value.int .i64 x][idx]? = some u → W.cell? ((⟨W0.heap.size + 1, 0, none⟩ : Addr).add idx) = some u) := Lib.hid (fun W h => late_cell2 h)
          have HC3 : Hid (∀ W : World, ((W0.alloc (.cells #[.int .i64 x] 3)).alloc (.cells #[] 3)).drew.grownBy W (some (W0.heap.size + 1)) → ∀ idx u, [Value.int .i64 x][idx]? = some u → W.cell? ((⟨W0.heap.size, 0, none⟩ : Addr).add idx) = some u) := Lib.hid (fun W h => late_cell3 h)
          have hk1 : k + 1 ≤ n := by omega
          have F3 := Lib.hid f3
          have hSn : Hid ((S.take (0) ++ [x] ++ S.drop (0)).length = k + 1 ∧ (S.take (0) ++ [x] ++ S.drop (0)).Perm (zs.take (k + 1)) ∧ (S.take (0) ++ [x] ++ S.drop (0)).Pairwise (fun a b => a ≤ b)) := Lib.hid (by
            refine ⟨by simp; omega, ?_, ins_sorted hS.out.2.2 (by omega) (fun m hm h => hgt.out m hm h) (.inl rfl)⟩
            rw [List.take_succ_eq_append_getElem hzl, ← hx.out]
            exact ins_perm _ hS.out.2.1)
          clear f2 f3 f4 hS1 hS1k hb1W hblt hbb
          go_region_law (first
            | (refine step_append_own rfl (.tmp 31) (.tmp 34) 23 rfl W0.heap.size 3 i0 (.int .i64 0) 1 8 Tryd.underlying23 hi hz0 hz1 hz2 rfl (by decide) (.slice (some ⟨W0.heap.size, 0, none⟩) 0 0) 0 [] rfl O1.out ⟨b1, 0, none⟩ (0) ocap ((S.take (0)).map (Value.int .i64)) rfl HTL.out (HT.out _ B1.out) (one_cells _) e35 g35 B1.out.size ?_; intro v35 w35 hown35 hgr35; have hB35 := F35.out _ _ _ B1.out O1.out hgr35; have hx35 := HX.out w35 hB35)
            | (refine step_append_own rfl (.tmp 31) (.tmp 34) 23 rfl W0.heap.size 3 i0 (.int .i64 0) 1 8 Tryd.underlying23 hi hz0 hz1 hz2 rfl (by decide) (.slice (some ⟨W0.heap.size, 0, none⟩) 0 0) 0 [] rfl O2.out ⟨b1, 0, none⟩ (0) ocap ((S.take (0)).map (Value.int .i64)) rfl HTL.out (HT.out _ B2.out) (one_cells _) e35 g35 B2.out.size ?_; intro v35 w35 hown35 hgr35; have hB35 := F35.out _ _ _ B2.out O2.out hgr35; have hx40 := Lib.hid (HC2.out w35 hgr35))
            | (refine step_append_own rfl (.tmp 31) (.tmp 34) 23 rfl W0.heap.size 3 i0 (.int .i64 0) 1 8 Tryd.underlying23 hi hz0 hz1 hz2 rfl (by decide) (.slice (some ⟨W0.heap.size + 1, 0, none⟩) 0 0) 0 [] rfl O3.out ⟨b1, 0, none⟩ (0) ocap ((S.take (0)).map (Value.int .i64)) rfl HTL.out (HT.out _ B3.out) (one_cells _) e35 g35 B3.out.size ?_; intro v35 w35 hown35 hgr35; have hB35 := F35.out _ _ _ B3.out O3.out hgr35; have hx40 := Lib.hid (HC3.out w35 hgr35))
            | (refine step_append_own rfl (.tmp 35) (.tmp 40) 23 rfl W0.heap.size 3 i0 (.int .i64 0) 1 8 Tryd.underlying23 hi hz0 hz1 hz2 rfl (by decide) v35 (0 + (0)) _ rfl (hown35.alloc _) ⟨w35.heap.size, 0, none⟩ 1 1 [.int .i64 x] rfl rfl (cell_one_new _ _ _) (one_c _ _) e41 g41 (HBs.out w35 _ hB35) ?_; intro v41 w41 hown41 hgr41; have hB41 := (hB35.alloc hB35.size _).grown hgr41 (HBs.out w35 _ hB35) (own_block hown35))
            | (refine step_append_own rfl (.tmp 35) (.tmp 40) 23 rfl W0.heap.size 3 i0 (.int .i64 0) 1 8 Tryd.underlying23 hi hz0 hz1 hz2 rfl (by decide) v35 (0 + (0)) _ rfl hown35 _ 1 1 [.int .i64 x] rfl rfl hx40.out (one_c _ _) e41 g41 hB35.size ?_; intro v41 w41 hown41 hgr41; have hB41 := hB35.grown hgr41 hB35.size (own_block hown35))
            | (refine step_append_own rfl (.tmp 41) (.tmp 44) 23 rfl W0.heap.size 3 i0 (.int .i64 0) 1 8 Tryd.underlying23 hi hz0 hz1 hz2 rfl (by decide) v41 (0 + (0) + 1) _ rfl hown41 ⟨b1, 0, none⟩ (k - (0)) ocap ((S.drop (0)).map (Value.int .i64)) rfl HDL.out (HD.out _ hB41) (one_cells _) e45 g45 hB41.size ?_; intro v45 w45 hown45 hgr45; have hB45 := hB41.grown hgr45 hB41.size (own_block hown41)))
          all_goals
            have hnew : w45.ownsRow w.heap.size 3 1 v45 (k + 1) ((S.take (0) ++ [x] ++ S.drop (0)).map (Value.int .i64)) := own_base (by
              have e : 0 + (0) + 1 + (k - (0)) = k + 1 := by omega
              rw [e] at hown45
              simpa using hown45) F3.out.size
            obtain ⟨g, gcap, rfl, hg1, hg2, hg3, hg4⟩ := own_some hnew
            have hB := F3.out.trans (hB45.mono F3.out.size)
            unfold maxLen at hg4
            clear hown45 hgr45 hB45
            go_wp2_with fail
            go_roundw
            case rel => exact ⟨k + 1, _, g, gcap, hk1, by go_num, hSn, hB, rfl, hg1, hg2, hg3, by omega, hnew⟩
            case measure => simp [intOf]; omega
        | succ j =>
          obtain ⟨f1, f2, f3, f4⟩ := HW.out wr Hq.out
          have hjS : j < S.length := by have := hS.out.1; omega
          obtain ⟨y, hy⟩ : ∃ y, Hid (y = S[j]) := ⟨_, Lib.hid rfl⟩
          have hcy : wr.cell? ⟨b1, j, none⟩ = some (.int .i64 y) := by
            rw [f2.cellAt j (by omega), hy.out]; simp [hjS]
          clear f2 f3 f4
          by_cases hxy : x < y
          · have hgt2 : Hid (∀ m (hm : m < S.length), j ≤ m → x < S[m]) := Lib.hid (fun m hm h => by
              by_cases e : m = j
              · subst e; rw [← hy.out]; exact hxy
              · exact hgt.out m hm (by omega))
            go_wp2_with fail
            go_quiet (fail)
            go_wp2_with fail
            go_roundw
            case rel => exact ⟨j, by omega, by go_num, by obtain ⟨q, e⟩ := Hq.out; subst e; exact ⟨_, World.drewN_drewN _ _ _⟩, hgt2⟩
            case measure => simp [intOf]
          · have hle1 : Hid (S[j] ≤ x) := Lib.hid (by rw [← hy.out]; omega)
            have hxy2 : ¬ x < y := hxy
            have hi1 : (0 : Int) ≤ (j : Int) + 1 := by omega
            have hi2 : (j : Int) + 1 ≤ (ocap : Int) := by omega
            have hi3 : (j : Int) + 1 ≤ (k : Int) := by omega
            by_cases hcj : ocap = j + 1
            · subst hcj
              go_wp2_with fail
              go_quiet (fail)
              go_wp2_with fail
              obtain ⟨W0, hW0⟩ : ∃ W0, W0 = wr.drewN nq := ⟨_, rfl⟩
              rw [← hW0]
              obtain ⟨f1, f2, f3, f4⟩ := HW.out W0 (by obtain ⟨q, e⟩ := Hq.out; subst e; exact ⟨_, hW0.trans (World.drewN_drewN _ _ _)⟩)
              have HW0 := Lib.hid hW0
              clear hW0
              have hS1 := hS.out.1
              have hb1W : b1 < W0.heap.size := by rw [f4]; exact hblt
              have hS1k : j + 1 ≤ k := by omega
              have HT : Hid (∀ W : World, Below W0.heap.size W0 W → ∀ idx u, ((S.take (j + 1)).map (Value.int .i64))[idx]? = some u → W.cell? ((⟨b1, 0, none⟩ : Addr).add idx) = some u) := Lib.hid (fun W hB => take_cells hB hb1W f2 hS1 hS1k)
              have HD : Hid (∀ W : World, Below W0.heap.size W0 W → ∀ idx u, ((S.drop (j + 1)).map (Value.int .i64))[idx]? = some u → W.cell? ((⟨b1, 0, none⟩ : Addr).add idx) = some u) := Lib.hid (fun W hB idx u hu => by have h7 := (List.getElem?_eq_some_iff.1 hu).1; simp at h7; omega)
              have HTL : Hid (((S.take (j + 1)).map (Value.int .i64)).length = (j + 1) * 1) := Lib.hid (take_len hS1 hS1k)
              have HDL : Hid (((S.drop (j + 1)).map (Value.int .i64)).length = 0 * 1) := Lib.hid ((drop_len hS1).trans (by omega))
              have O1 : Hid ((W0.alloc (.cells #[] 3)).drew.ownsRow W0.heap.size 3 1 (.slice (some ⟨W0.heap.size, 0, none⟩) 0 0) 0 []) := Lib.hid (World.ownsRow_lit (base := W0.heap.size) (e := 3) (size := 1) W0 #[] 0 (Nat.le_refl _) (Nat.zero_le _) rfl)
              have O2 : Hid (((W0.alloc (.cells #[] 3)).alloc (.cells #[.int .i64 x] 3)).drew.ownsRow W0.heap.size 3 1 (.slice (some ⟨W0.heap.size, 0, none⟩) 0 0) 0 []) := Lib.hid ((World.ownsRow_lit (base := W0.heap.size) (e := 3) (size := 1) W0 #[] 0 (Nat.le_refl _) (Nat.zero_le _) rfl).alloc _)
              have O3 : Hid (((W0.alloc (.cells #[.int .i64 x] 3)).alloc (.cells #[] 3)).drew.ownsRow W0.heap.size 3 1 (.slice (some ⟨W0.heap.size + 1, 0, none⟩) 0 0) 0 []) := Lib.hid (lit_late _ _ _)
              have B1 : Hid (Below W0.heap.size W0 (W0.alloc (.cells #[] 3)).drew) := Lib.hid ((Below.refl _ _).alloc (Nat.le_refl _) _).drew
              have B2 : Hid (Below W0.heap.size W0 ((W0.alloc (.cells #[] 3)).alloc (.cells #[.int .i64 x] 3)).drew) := Lib.hid (((Below.refl _ _).alloc (Nat.le_refl _) _).alloc (by simp) _).drew
              have B3 : Hid (Below W0.heap.size W0 ((W0.alloc (.cells #[.int .i64 x] 3)).alloc (.cells #[] 3)).drew) := Lib.hid (((Below.refl _ _).alloc (Nat.le_refl _) _).alloc (by simp) _).drew
              have fa : (W0.alloc (.cells #[] 3)).drew.cell? ⟨b, off + k, none⟩ = some (.int .i64 x) := by rw [B1.out.cell (World.block_lt_of_cell? _ _ f1)]; exact f1
              have F35 : Hid (∀ W W' : World, ∀ v35 : Value, Below W0.heap.size W0 W → W.ownsRow W0.heap.size 3 1 v35 0 [] → W.grownBy W' v35.ownBlock → Below W0.heap.size W0 W') := Lib.hid (fun W W' v35 h1 h2 h3 => h1.grown h3 h1.size (own_block h2))
              have e35 : 0 + (j + 1) ≤ maxLen := by unfold maxLen; omega
              have g35 : (0 + (j + 1)) * 8 ≤ 140737488355328 := by omega
              have e41 : 0 + (j + 1) + 1 ≤ maxLen := by unfold maxLen; omega
              have g41 : (0 + (j + 1) + 1) * 8 ≤ 140737488355328 := by omega
              have e45 : 0 + (j + 1) + 1 + 0 ≤ maxLen := by unfold maxLen; omega
              have g45 : (0 + (j + 1) + 1 + 0) * 8 ≤ 140737488355328 := by omega
              have HBs : Hid (∀ (W : World) o, Below W0.heap.size W0 W → W0.heap.size ≤ (W.alloc o).heap.size) := Lib.hid (fun W o h => by have := h.size; simp; omega)
              have HX : Hid (∀ W : World, Below W0.heap.size W0 W → W.cell? ⟨b, off + k, none⟩ = some (.int .i64 x)) := Lib.hid (fun W h => by rw [h.cell (World.block_lt_of_cell? _ _ f1)]; exact f1)
              have HC2 : Hid (∀ W : World, ((W0.alloc (.cells #[] 3)).alloc (.cells #[.int .i64 x] 3)).drew.grownBy W (some W0.heap.size) → ∀ idx u, [Value.int .i64 x][idx]? = some u → W.cell? ((⟨W0.heap.size + 1, 0, none⟩ : Addr).add idx) = some u) := Lib.hid (fun W h => late_cell2 h)
              have HC3 : Hid (∀ W : World, ((W0.alloc (.cells #[.int .i64 x] 3)).alloc (.cells #[] 3)).drew.grownBy W (some (W0.heap.size + 1)) → ∀ idx u, [Value.int .i64 x][idx]? = some u → W.cell? ((⟨W0.heap.size, 0, none⟩ : Addr).add idx) = some u) := Lib.hid (fun W h => late_cell3 h)
              have hk1 : k + 1 ≤ n := by omega
              have F3 := Lib.hid f3
              have hSn : Hid ((S.take (j + 1) ++ [x] ++ S.drop (j + 1)).length = k + 1 ∧ (S.take (j + 1) ++ [x] ++ S.drop (j + 1)).Perm (zs.take (k + 1)) ∧ (S.take (j + 1) ++ [x] ++ S.drop (j + 1)).Pairwise (fun a b => a ≤ b)) := Lib.hid (by
                refine ⟨by simp; omega, ?_, ins_sorted hS.out.2.2 (by omega) (fun m hm h => hgt.out m hm h) (.inr ⟨hjS, hle1.out⟩)⟩
                rw [List.take_succ_eq_append_getElem hzl, ← hx.out]
                exact ins_perm _ hS.out.2.1)
              clear f2 f3 f4 hS1 hS1k hb1W hblt hbb
              go_region_law (first
                | (refine step_append_own rfl (.tmp 31) (.tmp 34) 23 rfl W0.heap.size 3 i0 (.int .i64 0) 1 8 Tryd.underlying23 hi hz0 hz1 hz2 rfl (by decide) (.slice (some ⟨W0.heap.size, 0, none⟩) 0 0) 0 [] rfl O1.out ⟨b1, 0, none⟩ (j + 1) (j + 1) ((S.take (j + 1)).map (Value.int .i64)) rfl HTL.out (HT.out _ B1.out) (one_cells _) e35 g35 B1.out.size ?_; intro v35 w35 hown35 hgr35; have hB35 := F35.out _ _ _ B1.out O1.out hgr35; have hx35 := HX.out w35 hB35)
                | (refine step_append_own rfl (.tmp 31) (.tmp 34) 23 rfl W0.heap.size 3 i0 (.int .i64 0) 1 8 Tryd.underlying23 hi hz0 hz1 hz2 rfl (by decide) (.slice (some ⟨W0.heap.size, 0, none⟩) 0 0) 0 [] rfl O2.out ⟨b1, 0, none⟩ (j + 1) (j + 1) ((S.take (j + 1)).map (Value.int .i64)) rfl HTL.out (HT.out _ B2.out) (one_cells _) e35 g35 B2.out.size ?_; intro v35 w35 hown35 hgr35; have hB35 := F35.out _ _ _ B2.out O2.out hgr35; have hx40 := Lib.hid (HC2.out w35 hgr35))
                | (refine step_append_own rfl (.tmp 31) (.tmp 34) 23 rfl W0.heap.size 3 i0 (.int .i64 0) 1 8 Tryd.underlying23 hi hz0 hz1 hz2 rfl (by decide) (.slice (some ⟨W0.heap.size + 1, 0, none⟩) 0 0) 0 [] rfl O3.out ⟨b1, 0, none⟩ (j + 1) (j + 1) ((S.take (j + 1)).map (Value.int .i64)) rfl HTL.out (HT.out _ B3.out) (one_cells _) e35 g35 B3.out.size ?_; intro v35 w35 hown35 hgr35; have hB35 := F35.out _ _ _ B3.out O3.out hgr35; have hx40 := Lib.hid (HC3.out w35 hgr35))
                | (refine step_append_own rfl (.tmp 35) (.tmp 40) 23 rfl W0.heap.size 3 i0 (.int .i64 0) 1 8 Tryd.underlying23 hi hz0 hz1 hz2 rfl (by decide) v35 (0 + (j + 1)) _ rfl (hown35.alloc _) ⟨w35.heap.size, 0, none⟩ 1 1 [.int .i64 x] rfl rfl (cell_one_new _ _ _) (one_c _ _) e41 g41 (HBs.out w35 _ hB35) ?_; intro v41 w41 hown41 hgr41; have hB41 := (hB35.alloc hB35.size _).grown hgr41 (HBs.out w35 _ hB35) (own_block hown35))
                | (refine step_append_own rfl (.tmp 35) (.tmp 40) 23 rfl W0.heap.size 3 i0 (.int .i64 0) 1 8 Tryd.underlying23 hi hz0 hz1 hz2 rfl (by decide) v35 (0 + (j + 1)) _ rfl hown35 _ 1 1 [.int .i64 x] rfl rfl hx40.out (one_c _ _) e41 g41 hB35.size ?_; intro v41 w41 hown41 hgr41; have hB41 := hB35.grown hgr41 hB35.size (own_block hown35))
                | (refine step_append_own rfl (.tmp 41) (.tmp 44) 23 rfl W0.heap.size 3 i0 (.int .i64 0) 1 8 Tryd.underlying23 hi hz0 hz1 hz2 rfl (by decide) v41 (0 + (j + 1) + 1) _ rfl hown41 ⟨b1, 0, none⟩ 0 0 ((S.drop (j + 1)).map (Value.int .i64)) rfl HDL.out (HD.out _ hB41) (one_cells _) e45 g45 hB41.size ?_; intro v45 w45 hown45 hgr45; have hB45 := hB41.grown hgr45 hB41.size (own_block hown41)))
              all_goals
                have hnew : w45.ownsRow w.heap.size 3 1 v45 (k + 1) ((S.take (j + 1) ++ [x] ++ S.drop (j + 1)).map (Value.int .i64)) := own_base (by
                  have e : 0 + (j + 1) + 1 + 0 = k + 1 := by omega
                  rw [e] at hown45
                  simpa using hown45) F3.out.size
                obtain ⟨g, gcap, rfl, hg1, hg2, hg3, hg4⟩ := own_some hnew
                have hB := F3.out.trans (hB45.mono F3.out.size)
                unfold maxLen at hg4
                clear hown45 hgr45 hB45
                go_wp2_with fail
                go_roundw
                case rel => exact ⟨k + 1, _, g, gcap, hk1, by go_num, hSn, hB, rfl, hg1, hg2, hg3, by omega, hnew⟩
                case measure => simp [intOf]; omega
            · have hcj2 : ¬ (ocap : Int) = (j : Int) + 1 := by omega
              go_wp2_with fail
              go_quiet (fail)
              go_wp2_with fail
              obtain ⟨W0, hW0⟩ : ∃ W0, W0 = wr.drewN nq := ⟨_, rfl⟩
              rw [← hW0]
              obtain ⟨f1, f2, f3, f4⟩ := HW.out W0 (by obtain ⟨q, e⟩ := Hq.out; subst e; exact ⟨_, hW0.trans (World.drewN_drewN _ _ _)⟩)
              have HW0 := Lib.hid hW0
              clear hW0
              have hS1 := hS.out.1
              have hb1W : b1 < W0.heap.size := by rw [f4]; exact hblt
              have hS1k : j + 1 ≤ k := by omega
              have HT : Hid (∀ W : World, Below W0.heap.size W0 W → ∀ idx u, ((S.take (j + 1)).map (Value.int .i64))[idx]? = some u → W.cell? ((⟨b1, 0, none⟩ : Addr).add idx) = some u) := Lib.hid (fun W hB => take_cells hB hb1W f2 hS1 hS1k)
              have HD : Hid (∀ W : World, Below W0.heap.size W0 W → ∀ idx u, ((S.drop (j + 1)).map (Value.int .i64))[idx]? = some u → W.cell? ((⟨b1, j + 1, none⟩ : Addr).add idx) = some u) := Lib.hid (fun W hB => drop_cells hB hb1W f2 hS1)
              have HTL : Hid (((S.take (j + 1)).map (Value.int .i64)).length = (j + 1) * 1) := Lib.hid (take_len hS1 hS1k)
              have HDL : Hid (((S.drop (j + 1)).map (Value.int .i64)).length = (k - (j + 1)) * 1) := Lib.hid ((drop_len hS1).trans (by omega))
              have O1 : Hid ((W0.alloc (.cells #[] 3)).drew.ownsRow W0.heap.size 3 1 (.slice (some ⟨W0.heap.size, 0, none⟩) 0 0) 0 []) := Lib.hid (World.ownsRow_lit (base := W0.heap.size) (e := 3) (size := 1) W0 #[] 0 (Nat.le_refl _) (Nat.zero_le _) rfl)
              have O2 : Hid (((W0.alloc (.cells #[] 3)).alloc (.cells #[.int .i64 x] 3)).drew.ownsRow W0.heap.size 3 1 (.slice (some ⟨W0.heap.size, 0, none⟩) 0 0) 0 []) := Lib.hid ((World.ownsRow_lit (base := W0.heap.size) (e := 3) (size := 1) W0 #[] 0 (Nat.le_refl _) (Nat.zero_le _) rfl).alloc _)
              have O3 : Hid (((W0.alloc (.cells #[.int .i64 x] 3)).alloc (.cells #[] 3)).drew.ownsRow W0.heap.size 3 1 (.slice (some ⟨W0.heap.size + 1, 0, none⟩) 0 0) 0 []) := Lib.hid (lit_late _ _ _)
              have B1 : Hid (Below W0.heap.size W0 (W0.alloc (.cells #[] 3)).drew) := Lib.hid ((Below.refl _ _).alloc (Nat.le_refl _) _).drew
              have B2 : Hid (Below W0.heap.size W0 ((W0.alloc (.cells #[] 3)).alloc (.cells #[.int .i64 x] 3)).drew) := Lib.hid (((Below.refl _ _).alloc (Nat.le_refl _) _).alloc (by simp) _).drew
              have B3 : Hid (Below W0.heap.size W0 ((W0.alloc (.cells #[.int .i64 x] 3)).alloc (.cells #[] 3)).drew) := Lib.hid (((Below.refl _ _).alloc (Nat.le_refl _) _).alloc (by simp) _).drew
              have fa : (W0.alloc (.cells #[] 3)).drew.cell? ⟨b, off + k, none⟩ = some (.int .i64 x) := by rw [B1.out.cell (World.block_lt_of_cell? _ _ f1)]; exact f1
              have F35 : Hid (∀ W W' : World, ∀ v35 : Value, Below W0.heap.size W0 W → W.ownsRow W0.heap.size 3 1 v35 0 [] → W.grownBy W' v35.ownBlock → Below W0.heap.size W0 W') := Lib.hid (fun W W' v35 h1 h2 h3 => h1.grown h3 h1.size (own_block h2))
              have e35 : 0 + (j + 1) ≤ maxLen := by unfold maxLen; omega
              have g35 : (0 + (j + 1)) * 8 ≤ 140737488355328 := by omega
              have e41 : 0 + (j + 1) + 1 ≤ maxLen := by unfold maxLen; omega
              have g41 : (0 + (j + 1) + 1) * 8 ≤ 140737488355328 := by omega
              have e45 : 0 + (j + 1) + 1 + (k - (j + 1)) ≤ maxLen := by unfold maxLen; omega
              have g45 : (0 + (j + 1) + 1 + (k - (j + 1))) * 8 ≤ 140737488355328 := by omega
              have HBs : Hid (∀ (W : World) o, Below W0.heap.size W0 W → W0.heap.size ≤ (W.alloc o).heap.size) := Lib.hid (fun W o h => by have := h.size; simp; omega)
              have HX : Hid (∀ W : World, Below W0.heap.size W0 W → W.cell? ⟨b, off + k, none⟩ = some (.int .i64 x)) := Lib.hid (fun W h => by rw [h.cell (World.block_lt_of_cell? _ _ f1)]; exact f1)
              have HC2 : Hid (∀ W : World, ((W0.alloc (.cells #[] 3)).alloc (.cells #[.int .i64 x] 3)).drew.grownBy W (some W0.heap.size) → ∀ idx u, [Value.int .i64 x][idx]? = some u → W.cell? ((⟨W0.heap.size + 1, 0, none⟩ : Addr).add idx) = some u) := Lib.hid (fun W h => late_cell2 h)
              have HC3 : Hid (∀ W : World, ((W0.alloc (.cells #[.int .i64 x] 3)).alloc (.cells #[] 3)).drew.grownBy W (some (W0.heap.size + 1)) → ∀ idx u, [Value.int .i64 x][idx]? = some u → W.cell? ((⟨W0.heap.size, 0, none⟩ : Addr).add idx) = some u) := Lib.hid (fun W h => late_cell3 h)
              have hk1 : k + 1 ≤ n := by omega
              have F3 := Lib.hid f3
              have hSn : Hid ((S.take (j + 1) ++ [x] ++ S.drop (j + 1)).length = k + 1 ∧ (S.take (j + 1) ++ [x] ++ S.drop (j + 1)).Perm (zs.take (k + 1)) ∧ (S.take (j + 1) ++ [x] ++ S.drop (j + 1)).Pairwise (fun a b => a ≤ b)) := Lib.hid (by
                refine ⟨by simp; omega, ?_, ins_sorted hS.out.2.2 (by omega) (fun m hm h => hgt.out m hm h) (.inr ⟨hjS, hle1.out⟩)⟩
                rw [List.take_succ_eq_append_getElem hzl, ← hx.out]
                exact ins_perm _ hS.out.2.1)
              clear f2 f3 f4 hS1 hS1k hb1W hblt hbb
              go_region_law (first
                | (refine step_append_own rfl (.tmp 31) (.tmp 34) 23 rfl W0.heap.size 3 i0 (.int .i64 0) 1 8 Tryd.underlying23 hi hz0 hz1 hz2 rfl (by decide) (.slice (some ⟨W0.heap.size, 0, none⟩) 0 0) 0 [] rfl O1.out ⟨b1, 0, none⟩ (j + 1) ocap ((S.take (j + 1)).map (Value.int .i64)) rfl HTL.out (HT.out _ B1.out) (one_cells _) e35 g35 B1.out.size ?_; intro v35 w35 hown35 hgr35; have hB35 := F35.out _ _ _ B1.out O1.out hgr35; have hx35 := HX.out w35 hB35)
                | (refine step_append_own rfl (.tmp 31) (.tmp 34) 23 rfl W0.heap.size 3 i0 (.int .i64 0) 1 8 Tryd.underlying23 hi hz0 hz1 hz2 rfl (by decide) (.slice (some ⟨W0.heap.size, 0, none⟩) 0 0) 0 [] rfl O2.out ⟨b1, 0, none⟩ (j + 1) ocap ((S.take (j + 1)).map (Value.int .i64)) rfl HTL.out (HT.out _ B2.out) (one_cells _) e35 g35 B2.out.size ?_; intro v35 w35 hown35 hgr35; have hB35 := F35.out _ _ _ B2.out O2.out hgr35; have hx40 := Lib.hid (HC2.out w35 hgr35))
                | (refine step_append_own rfl (.tmp 31) (.tmp 34) 23 rfl W0.heap.size 3 i0 (.int .i64 0) 1 8 Tryd.underlying23 hi hz0 hz1 hz2 rfl (by decide) (.slice (some ⟨W0.heap.size + 1, 0, none⟩) 0 0) 0 [] rfl O3.out ⟨b1, 0, none⟩ (j + 1) ocap ((S.take (j + 1)).map (Value.int .i64)) rfl HTL.out (HT.out _ B3.out) (one_cells _) e35 g35 B3.out.size ?_; intro v35 w35 hown35 hgr35; have hB35 := F35.out _ _ _ B3.out O3.out hgr35; have hx40 := Lib.hid (HC3.out w35 hgr35))
                | (refine step_append_own rfl (.tmp 35) (.tmp 40) 23 rfl W0.heap.size 3 i0 (.int .i64 0) 1 8 Tryd.underlying23 hi hz0 hz1 hz2 rfl (by decide) v35 (0 + (j + 1)) _ rfl (hown35.alloc _) ⟨w35.heap.size, 0, none⟩ 1 1 [.int .i64 x] rfl rfl (cell_one_new _ _ _) (one_c _ _) e41 g41 (HBs.out w35 _ hB35) ?_; intro v41 w41 hown41 hgr41; have hB41 := (hB35.alloc hB35.size _).grown hgr41 (HBs.out w35 _ hB35) (own_block hown35))
                | (refine step_append_own rfl (.tmp 35) (.tmp 40) 23 rfl W0.heap.size 3 i0 (.int .i64 0) 1 8 Tryd.underlying23 hi hz0 hz1 hz2 rfl (by decide) v35 (0 + (j + 1)) _ rfl hown35 _ 1 1 [.int .i64 x] rfl rfl hx40.out (one_c _ _) e41 g41 hB35.size ?_; intro v41 w41 hown41 hgr41; have hB41 := hB35.grown hgr41 hB35.size (own_block hown35))
                | (refine step_append_own rfl (.tmp 41) (.tmp 44) 23 rfl W0.heap.size 3 i0 (.int .i64 0) 1 8 Tryd.underlying23 hi hz0 hz1 hz2 rfl (by decide) v41 (0 + (j + 1) + 1) _ rfl hown41 ⟨b1, j + 1, none⟩ (k - (j + 1)) (ocap - (j + 1)) ((S.drop (j + 1)).map (Value.int .i64)) rfl HDL.out (HD.out _ hB41) (one_cells _) e45 g45 hB41.size ?_; intro v45 w45 hown45 hgr45; have hB45 := hB41.grown hgr45 hB41.size (own_block hown41)))
              all_goals
                have hnew : w45.ownsRow w.heap.size 3 1 v45 (k + 1) ((S.take (j + 1) ++ [x] ++ S.drop (j + 1)).map (Value.int .i64)) := own_base (by
                  have e : 0 + (j + 1) + 1 + (k - (j + 1)) = k + 1 := by omega
                  rw [e] at hown45
                  simpa using hown45) F3.out.size
                obtain ⟨g, gcap, rfl, hg1, hg2, hg3, hg4⟩ := own_some hnew
                have hB := F3.out.trans (hB45.mono F3.out.size)
                unfold maxLen at hg4
                clear hown45 hgr45 hB45
                go_wp2_with fail
                go_roundw
                case rel => exact ⟨k + 1, _, g, gcap, hk1, by go_num, hSn, hB, rfl, hg1, hg2, hg3, by omega, hnew⟩
                case measure => simp [intOf]; omega
    · obtain rfl : k = n := by omega
      have hwr := Lib.hid (own_wr (k := .i64) (zs := S) (by rw [hS.out.1]; exact hown) (fun y hy => hwf y (by
        have := (hS.out.2.1).mem_iff.1 hy
        exact List.mem_of_mem_take this)))
      have He : Hid (S = sortI zs) := Lib.hid (by
        have h1 := hS.out.2.1
        rw [List.take_of_length_le (by rw [Hn.out]; exact Nat.le_refl _)] at h1
        exact sortI_unique h1 hS.out.2.2)
      clear hown
      go_wp2_with fail
      go_ret
      obtain ⟨b', hb', hw'⟩ := hwr.out
      exact ⟨_, b', rfl, hb', by rw [← He.out]; exact hw', hb2⟩
end Go.Proofs.YtbojhbhniollaaaDoor
